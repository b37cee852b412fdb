/-
  What each function of package poly answers, and what the reference of its chapter answers: one contract a function, for every float: the answer stands in the relation of its formula to what was given; of the memory that was there nothing has turned.
-/
import Derived.Test.YtdeooadeohojcaaGreatVec
import Derived.Test.YtdeooadeohojcaaGreatPc
import Derived.Test.YtdeooadeohojcaaGreatGel
import Derived.Below
import Derived.Laws.MakeOwn
import Derived.WalkKit
import Derived.WalkLawsBesides
import Derived.WalkSpells
import Derived.ProofKit
import Derived.OpenShut
import Derived.Deep.RegionHeld3
namespace Go.Proofs.YtdeooadeohojcaaGreat
open Go.ChangeShapes Go.WideShapes Go.ChangeAt Go.RowKit
set_option linter.unusedVariables false
set_option linter.unusedSimpArgs false


theorem cell_apart {W : World} {b o o' : Nat} {v x : Value} (hne : o ≠ o') (h : W.cell? ⟨b, o', none⟩ = some v) : (W.setCell ⟨b, o, none⟩ x).cell? ⟨b, o', none⟩ = some v := (far_off hne).trans h
theorem Sl.set {w : World} {b off n i : Nat} {xs ys : Nat → Nat} (h : Sl w b off n xs ys) (hi : i < n) (x y : Nat) : Sl ((w.setCell ⟨b, off + i * 2, none⟩ (.float .f64 x)).setCell ⟨b, off + i * 2 + 1, none⟩ (.float .f64 y)) b off n (upd xs i x) (upd ys i y) := by
  intro j hj
  by_cases e : j = i
  · subst e
    rw [upd_same, upd_same]
    refine ⟨cell_apart (by omega) (World.cell?_setCell_same _ _ _ (h j hj).1), ?_⟩
    exact World.cell?_setCell_same _ _ _ (cell_apart (by omega) (h j hj).2)
  · rw [upd_other e, upd_other e]
    exact ⟨cell_apart (by omega) (cell_apart (by omega) (h j hj).1), cell_apart (by omega) (cell_apart (by omega) (h j hj).2)⟩
theorem Sl.far {w : World} {b off n c o : Nat} {xs ys : Nat → Nat} {v : Value} (h : Sl w b off n xs ys) (hc : c ≠ b) : Sl (w.setCell ⟨c, o, none⟩ v) b off n xs ys := fun i hi => ⟨up_set2 hc (h i hi).1, up_set2 hc (h i hi).2⟩
theorem Sl.eq {w : World} {b off n : Nat} {xs ys xs' ys' : Nat → Nat} (h : Sl w b off n xs ys) (e1 : ∀ i, i < n → xs i = xs' i) (e2 : ∀ i, i < n → ys i = ys' i) : Sl w b off n xs' ys' := fun i hi => by rw [← e1 i hi, ← e2 i hi]; exact h i hi
theorem made_sl (W : World) (t : TypeId) (n : Nat) : Sl (W.alloc (.cells (madeCells #[.float .f64 0, .float .f64 0] (n * 2)) t)) W.heap.size 0 n (fun _ => 0) (fun _ => 0) := by
  intro i hi
  have h1 : i * 2 < n * 2 := by omega
  have h2 : i * 2 + 1 < n * 2 := by omega
  have m1 : i * 2 % 2 = 0 := by omega
  have m2 : (i * 2 + 1) % 2 = 1 := by omega
  constructor <;> simp [madeCells, h1, h2, m1, m2]
theorem make_vec (n : Nat) (hn : n ≤ 1000) (W : World) : (Instr.makeSlice 25 (.int .i64 n) (.int .i64 n)).run Tryz.prog W = .ok (.slice (some ⟨W.heap.size, 0, none⟩) n n) (W.alloc (.cells (madeCells #[.float .f64 0, .float .f64 0] (n * 2)) 24)) := by
  have h := run_make (P := Tryz.prog) W 25 24 Tryz.t24 (.agg #[.float .f64 0, .float .f64 0]) Tryz.underlying25 (by kernel_rfl) (by kernel_rfl) .i64 .i64 n n (by omega) (by omega) (by show ((16 : Nat) : Int) * n ≤ _; omega) (by omega)
  exact h
set_option maxHeartbeats 2000000 in
theorem normals_ok (b off n cap : Nat) (xs ys : Nat → Nat) (w : World) (hs : Sl w b off n xs ys) (o : Oks xs ys n) (hp : 0 < n) (hn : n ≤ maxLen) (hcap : n ≤ cap) (hz : chkE xs ys n = 0) : Calls Tryz.prog 71 #[.slice (some ⟨b, off, none⟩) n cap] w fun e w' => ∃ r, e = .returned (.tuple #[.slice (some ⟨r, 0, none⟩) n n, .int .i64 0]) ∧ Bel w w' ∧ w.heap.size ≤ r ∧ Sl w' r 0 n (nX xs ys n) (nY xs ys n) := by
  obtain ⟨g, h3, h64, hout⟩ := chk_ok o hz
  have hmk := make_vec n (by omega)
  go_enter Tryz.func71, Tryz.ntmps71
  go_wp2_with (first | (go_at_call 45; refine (chk_some _ _ _ _ _ _ _ hs o hp hn hcap).mono ?_; rintro e w_1 ⟨rfl, hb⟩; rw [hz]; have Bw := hb))
  have hM := made_sl w_1 24 n
  have BM := bl_alloc Bw (madeCells #[.float .f64 0, .float .f64 0] (n * 2)) 24
  have lr := Bw.size
  go_loopw [17] (fun i' wr => ∃ k : Nat, k ≤ n ∧ i' = .int .i64 k ∧ Bel w wr ∧ Sl wr w_1.heap.size 0 n (fun i => if i < k then nX xs ys n i else 0) (fun i => if i < k then nY xs ys n i else 0)) (fun i' _ => n - (intOf i').toNat)
  case atStart => exact ⟨0, by omega, rfl, BM, hM.eq (fun i _ => by simp) (fun i _ => by simp)⟩
  case round =>
    obtain ⟨k, hk, rfl, hB, hR⟩ := hrel
    by_cases hlt : k < n
    · have k1 : (k : Int) < (n : Int) := by omega
      obtain ⟨w1, w2⟩ := wX_bd g hlt
      have hs2 := hs.bel hB
      have fr : ∀ o, wr.frozen? ⟨w_1.heap.size, o, none⟩ = false := fun o => (hB.2 _).trans (fresh_frozen lr)
      go_wp2_with (first | (go_at_call 69; refine (edgeOf_d _ _ _ _ _ _ _ hs2 g _ hlt hn hcap).mono ?_; rintro e w_2 ⟨rfl, hb⟩; have Bc := hb) | (go_at_call 96; refine (normal_d _ _ _ _ _ (by with_reducible assumption) (by with_reducible assumption)).mono ?_; rintro e w_3 ⟨rfl, hb⟩; replace Bc := bl_trans Bc hb; have hR3 := hR.bel Bc; obtain ⟨K0, K1⟩ := hR3 k hlt; simp only [Nat.zero_add] at K0 K1; have FQ := fun o => (Bc.2 ⟨w_1.heap.size, o, none⟩).trans (fr o); have lq := World.block_lt_of_cell? _ _ K0; simp only at lq))
      have hN := hR3.set hlt (nX xs ys n k) (nY xs ys n k)
      simp only [Nat.zero_add] at hN
      refine ⟨⟨k + 1, by omega, by go_num, bl_set (bl_set (bl_trans hB Bc) lr) lr, hN.eq (fun i hi => ?_) (fun i hi => ?_)⟩, by simp [intOf]; omega⟩
      · by_cases e : i = k
        · subst e; rw [upd_same, if_pos (by omega)]
        · rw [upd_other e]
          by_cases h : i < k
          · rw [if_pos h, if_pos (by omega)]
          · rw [if_neg h, if_neg (by omega)]
      · by_cases e : i = k
        · subst e; rw [upd_same, if_pos (by omega)]
        · rw [upd_other e]
          by_cases h : i < k
          · rw [if_pos h, if_pos (by omega)]
          · rw [if_neg h, if_neg (by omega)]
    · have hkn : k = n := by omega
      subst hkn
      go_wp2
      refine bodyPost_ret (v := .tuple #[.slice (some ⟨w_1.heap.size, 0, none⟩) k k, .int .i64 0]) (by simp [results, Tryz.results71, go_sem] <;> (first | exact ⟨⟨rfl, rfl⟩, rfl⟩ | exact ⟨rfl, rfl, rfl, rfl⟩ | exact ⟨rfl, rfl, rfl⟩ | exact ⟨rfl, rfl⟩ | rfl)) rfl ⟨_, rfl, hB, lr, hR.eq (fun i hi => if_pos hi) (fun i hi => if_pos hi)⟩
end Go.Proofs.YtdeooadeohojcaaGreat
