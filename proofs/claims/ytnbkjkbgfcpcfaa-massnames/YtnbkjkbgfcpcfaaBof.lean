/-
  What each function of package box answers, and what the reference of its chapter answers: one contract a function, for every float: the answer stands in the relation of its formula to what was given; of the memory that was there nothing has turned.
-/
import Derived.Test.YtnbkjkbgfcpcfaaVec
import Derived.Test.YtnbkjkbgfcpcfaaBmore
import Derived.Test.YtnbkjkbgfcpcfaaPa
import Derived.Test.YtnbkjkbgfcpcfaaShp
import Derived.Below
import Derived.WalkKit
import Derived.WalkLawsBesides
import Derived.WalkSpells
import Derived.ProofKit
import Derived.OpenShut
import Derived.Deep.RegionHeld3
namespace Go.Proofs.Ytnbkjkbgfcpcfaa
open Go.ChangeShapes Go.WideShapes Go.ChangeAt Go.RowKit
set_option linter.unusedVariables false
set_option linter.unusedSimpArgs false


theorem set4 {W : World} {n : Nat} {p q r s p0 q0 r0 s0 : Value} (h0 : W.cell? ⟨n, 0, none⟩ = some p0) (h1 : W.cell? ⟨n, 1, none⟩ = some q0) (h2 : W.cell? ⟨n, 2, none⟩ = some r0) (h3 : W.cell? ⟨n, 3, none⟩ = some s0) {Z : World} (hZ : Z = (((W.setCell ⟨n, 0, none⟩ p).setCell ⟨n, 1, none⟩ q).setCell ⟨n, 2, none⟩ r).setCell ⟨n, 3, none⟩ s) :
    Z.cell? ⟨n, 0, none⟩ = some p ∧ Z.cell? ⟨n, 1, none⟩ = some q ∧ Z.cell? ⟨n, 2, none⟩ = some r ∧ Z.cell? ⟨n, 3, none⟩ = some s := by
  subst hZ
  have f : ∀ {o o' : Nat} {Z : World} {v : Value}, o ≠ o' → (Z.setCell ⟨n, o, none⟩ v).cell? ⟨n, o', none⟩ = Z.cell? ⟨n, o', none⟩ := fun h => far_off h
  refine ⟨?_, ?_, ?_, ?_⟩
  · rw [f (by decide), f (by decide), f (by decide)]; apply World.cell?_setCell_same; exact h0
  · rw [f (by decide), f (by decide)]; apply World.cell?_setCell_same; exact (f (by decide)).trans h1
  · rw [f (by decide)]; apply World.cell?_setCell_same; exact (f (by decide)).trans ((f (by decide)).trans h2)
  · apply World.cell?_setCell_same; exact (f (by decide)).trans ((f (by decide)).trans ((f (by decide)).trans h3))
theorem xOf_none (v : Option Addr) (cap : Nat) (w : World) : Calls Try.prog 105 #[.slice v 0 cap] w fun e w' => e = .returned (.tuple #[.agg #[.float .f64 0, .float .f64 0, .float .f64 0, .float .f64 0], .bool false]) ∧ Bel w w' := by
  go_enter Try.func105, Try.ntmps105
  go_wp2
  refine bodyPost_ret (v := .tuple #[.agg #[.float .f64 0, .float .f64 0, .float .f64 0, .float .f64 0], .bool false]) (by simp [results, Try.results105, go_sem] <;> (first | exact ⟨⟨rfl, rfl⟩, rfl⟩ | exact ⟨rfl, rfl, rfl, rfl⟩ | exact ⟨rfl, rfl, rfl⟩ | exact ⟨rfl, rfl⟩ | rfl)) rfl ⟨rfl, ?_⟩
  repeat (first | exact bl_refl _ | assumption | apply bl_drewN | apply bl_drew | apply bl_alloc | refine bl_set ?_ (by simp <;> omega) | refine bl_trans ?_ (by assumption))
set_option maxHeartbeats 4000000 in
theorem xOf_some (b off n cap : Nat) (xs ys : Nat → Nat) (w : World) (hn : n + 1 ≤ maxLen) (hcap : n + 1 ≤ cap) (hb0 : b < w.heap.size) (hc : ∀ i, i < n + 1 → w.cell? ⟨b, off + i * 2, none⟩ = some (.float .f64 (xs i)) ∧ w.cell? ⟨b, off + i * 2 + 1, none⟩ = some (.float .f64 (ys i))) :
    Calls Try.prog 105 #[.slice (some ⟨b, off, none⟩) (n + 1) cap] w fun e w' => e = .returned (.tuple #[.agg #[.float .f64 (lowK xs n), .float .f64 (lowK ys n), .float .f64 (highK xs n), .float .f64 (highK ys n)], .bool true]) ∧ Bel w w' := by
  unfold maxLen at hn
  have al := World.cell?_alloc_some
  have h0 := (hc 0 (by omega)).1
  have h1 := (hc 0 (by omega)).2
  have hz : (((n : Int) + 1) == 0) = false := by simp; omega
  simp only [Nat.zero_mul, Nat.add_zero] at h0 h1
  by_cases hcap1 : cap = 1
  · have hn0 : n = 0 := by omega
    subst hn0
    subst hcap1
    go_enter Try.func105, Try.ntmps105
    go_wp2
    go_region
    all_goals go_wp2
    all_goals
      refine wp_loop_rounds 1 ?_
      rw [rounds_succ]
      go_wp2
      refine bodyPost_ret (v := .tuple #[.agg #[.float .f64 (lowK xs 0), .float .f64 (lowK ys 0), .float .f64 (highK xs 0), .float .f64 (highK ys 0)], .bool true]) (by simp [results, Try.results105, go_sem] <;> (first | exact ⟨⟨rfl, rfl⟩, rfl⟩ | exact ⟨rfl, rfl, rfl, rfl⟩ | exact ⟨rfl, rfl, rfl⟩ | exact ⟨rfl, rfl⟩ | rfl)) rfl ⟨rfl, ?_⟩
      repeat (first | exact bl_refl _ | assumption | apply bl_drewN | apply bl_drew | apply bl_alloc | refine bl_set ?_ (by simp <;> omega) | refine bl_trans ?_ (by assumption))
  · go_enter Try.func105, Try.ntmps105
    go_wp2
    go_region
    all_goals go_wp2
    all_goals
      go_loopw [21] (fun i wr => ∃ k : Nat, k ≤ n ∧ i = .int .i64 k ∧ Bel w wr ∧ wr.cell? ⟨w.heap.size + 1, 0, none⟩ = some (.float .f64 (lowK xs k)) ∧ wr.cell? ⟨w.heap.size + 1, 1, none⟩ = some (.float .f64 (lowK ys k)) ∧ wr.cell? ⟨w.heap.size + 1, 2, none⟩ = some (.float .f64 (highK xs k)) ∧ wr.cell? ⟨w.heap.size + 1, 3, none⟩ = some (.float .f64 (highK ys k)) ∧ wr.cell? ⟨w.heap.size, 0, none⟩ = some (.float .f64 0) ∧ wr.cell? ⟨w.heap.size, 1, none⟩ = some (.float .f64 0) ∧ wr.cell? ⟨w.heap.size, 2, none⟩ = some (.float .f64 0) ∧ wr.cell? ⟨w.heap.size, 3, none⟩ = some (.float .f64 0)) (fun i _ => n - (intOf i).toNat)
      case atStart =>
        refine ⟨0, by omega, rfl, ?_, ?_, ?_, ?_, ?_, ?_, ?_, ?_, ?_⟩
        · repeat (first | exact bl_refl _ | assumption | apply bl_drewN | apply bl_drew | apply bl_alloc | refine bl_set ?_ (by simp <;> omega) | refine bl_trans ?_ (by assumption))
        all_goals (go_keep; try rfl)
      case round =>
        obtain ⟨k, hk, rfl, hB, g0, g1, g2, g3, z0, z1, z2, z3⟩ := hrel
        have hbs : w.heap.size + 1 < wr.heap.size := World.block_lt_of_cell? wr _ g0
        by_cases hlt : k < n
        · have x0 := keep hB (hc (k + 1) (by omega)).1
          have x1 := keep hB (hc (k + 1) (by omega)).2
          rw [show off + (k + 1) * 2 = off + 2 + k * 2 by omega] at x0 x1
          have hbb : b < wr.heap.size := Nat.lt_of_lt_of_le hb0 hB.size
          go_wp2_with (first | (go_at_call 125; refine (xJoin_any _ _ _ _ _ _ _ _ _).mono ?_; rintro e w_1 ⟨rfl, hb⟩; have G0 := keep hb (a := ⟨w.heap.size + 1, 0, none⟩) (v := .float .f64 (lowK xs k)) (by exact up_alloc g0); have G1 := keep hb (a := ⟨w.heap.size + 1, 1, none⟩) (v := .float .f64 (lowK ys k)) (by exact up_alloc g1); have G2 := keep hb (a := ⟨w.heap.size + 1, 2, none⟩) (v := .float .f64 (highK xs k)) (by exact up_alloc g2); have G3 := keep hb (a := ⟨w.heap.size + 1, 3, none⟩) (v := .float .f64 (highK ys k)) (by exact up_alloc g3); have Z0 := keep hb (a := ⟨w.heap.size, 0, none⟩) (v := .float .f64 0) (by exact up_alloc z0); have Z1 := keep hb (a := ⟨w.heap.size, 1, none⟩) (v := .float .f64 0) (by exact up_alloc z1); have Z2 := keep hb (a := ⟨w.heap.size, 2, none⟩) (v := .float .f64 0) (by exact up_alloc z2); have Z3 := keep hb (a := ⟨w.heap.size, 3, none⟩) (v := .float .f64 0) (by exact up_alloc z3); have B2 : Bel w w_1 := bl_trans (bl_alloc hB _ _) hb; have FF := fun (o : Nat) => (B2.2 ⟨w.heap.size + 1, o, none⟩).trans (fresh_frozen (i := o) (by omega)); have hbs2 : w.heap.size + 1 < w_1.heap.size := World.block_lt_of_cell? w_1 _ G0))
          all_goals
            refine ⟨⟨k + 1, by omega, by go_num, ?_, ?_⟩, by simp [intOf]; omega⟩
            · repeat (first | exact B2 | refine bl_set ?_ (by simp <;> omega))
            · have R := set4 (p := .float .f64 (lowK xs (k + 1))) (q := .float .f64 (lowK ys (k + 1))) (r := .float .f64 (highK xs (k + 1))) (s := .float .f64 (highK ys (k + 1))) G0 G1 G2 G3 rfl
              exact ⟨R.1, R.2.1, R.2.2.1, R.2.2.2, up_set2 (by omega) (up_set2 (by omega) (up_set2 (by omega) (up_set2 (by omega) Z0))), up_set2 (by omega) (up_set2 (by omega) (up_set2 (by omega) (up_set2 (by omega) Z1))), up_set2 (by omega) (up_set2 (by omega) (up_set2 (by omega) (up_set2 (by omega) Z2))), up_set2 (by omega) (up_set2 (by omega) (up_set2 (by omega) (up_set2 (by omega) Z3)))⟩
        · have hkn : k = n := by omega
          subst hkn
          have FZ := fun (o : Nat) => (hB.2 ⟨w.heap.size, o, none⟩).trans (fresh_frozen (i := o) (Nat.le_refl _))
          go_wp2
          have R := set4 (p := .float .f64 (lowK xs k)) (q := .float .f64 (lowK ys k)) (r := .float .f64 (highK xs k)) (s := .float .f64 (highK ys k)) z0 z1 z2 z3 rfl
          obtain ⟨R0, R1, R2, R3⟩ := R
          refine bodyPost_ret (v := .tuple #[.agg #[.float .f64 (lowK xs k), .float .f64 (lowK ys k), .float .f64 (highK xs k), .float .f64 (highK ys k)], .bool true]) (by simp [R0, R1, R2, R3, results, Try.results105, go_sem] <;> (first | exact ⟨⟨rfl, rfl⟩, rfl⟩ | exact ⟨rfl, rfl, rfl, rfl⟩ | exact ⟨rfl, rfl, rfl⟩ | exact ⟨rfl, rfl⟩ | rfl)) rfl ⟨rfl, ?_⟩
          repeat (first | exact hB | refine bl_set ?_ (by simp <;> omega))
theorem ok_low {xs : Nat → Nat} {n : Nat} (h : ∀ i, i < n + 1 → okK .f64 (xs i)) : ∀ k, k ≤ n → okK .f64 (lowK xs k) ∧ okK .f64 (highK xs k) := by
  intro k
  induction k with
  | zero => intro _; exact ⟨h 0 (by omega), h 0 (by omega)⟩
  | succ k ih =>
    intro hk
    obtain ⟨a, b⟩ := ih (by omega)
    have c := h (k + 1) (by omega)
    constructor
    · show okK .f64 (leastK .f64 (lowK xs k) (xs (k + 1)))
      rcases least_cases (lowK xs k) (xs (k + 1)) with e | e <;> rw [e] <;> assumption
    · show okK .f64 (mostK .f64 (highK xs k) (xs (k + 1)))
      rcases most_cases (highK xs k) (xs (k + 1)) with e | e <;> rw [e] <;> assumption

end Go.Proofs.Ytnbkjkbgfcpcfaa
