/-
  What each function of package poly answers, and what the reference of its chapter answers: one contract a function, for every float: the answer stands in the relation of its formula to what was given; of the memory that was there nothing has turned.
-/
import Derived.Test.YtfaiaepkmlmoaaaGreatVec
import Derived.Test.YtfaiaepkmlmoaaaGreatMpq
import Derived.Deep.DeepCutAuto
import Derived.Below
import Derived.Laws.MakeOwn
import Derived.Laws.StructEq
import Derived.Deep.LoopGhost
import Derived.BigQuiet
import Derived.OwnWalk
import Derived.Laws.AppendOwn
import Derived.WalkKit
import Derived.WalkLawsBesides
import Derived.WalkSpells
import Derived.ProofKit
import Derived.OpenShut
import Derived.Deep.RegionHeld3
namespace Go.Proofs.YtfaiaepkmlmoaaaGreat
open Go.ChangeShapes Go.WideShapes Go.ChangeAt Go.RowKit
set_option linter.unusedVariables false
set_option linter.unusedSimpArgs false


set_option maxRecDepth 100000 in
set_option maxHeartbeats 8000000 in
theorem parts_any (a : Option Addr) (n cap : Nat) (Kq : Nat → Int) (R : Nat → Nat) (V : Nat → Value) (N : Nat → Nat) (X Y : Nat → Nat → Nat) (D F B : Nat → Nat) (S : Nat → Bool) (La Ma : Nat → Int) (w : World) (h : n = 0 ∨ ∃ b off, a = some ⟨b, off, none⟩ ∧ Pq w b off n Kq R V D F B S La Ma) (hA : ∀ i, i < n → AnyS w (V i) (N i) (X i) (Y i)) (hr : ∀ i, i < n → okK .f64 (R i)) (hn : n ≤ 1000) : Calls Tryz.prog 5 #[.slice a n cap] w fun e w' => ∃ m j x y f, PaR Kq R N X Y D S n AboutR m j x y f ∧ e = .returned (.tuple #[.agg #[.float .f64 m, .float .f64 j, .float .f64 x, .float .f64 y], .int .i64 f]) ∧ Bel w w' := by
  have B0 := bl_alloc (bl_refl w) #[.float .f64 0, .float .f64 0, .float .f64 0, .float .f64 0] 34
  have z0 : (w.alloc (.cells #[.float .f64 0, .float .f64 0, .float .f64 0, .float .f64 0] 34)).cell? ⟨w.heap.size, 0, none⟩ = some (.float .f64 0) := by rw [World.cell?_alloc_new]; rfl
  have z1 : (w.alloc (.cells #[.float .f64 0, .float .f64 0, .float .f64 0, .float .f64 0] 34)).cell? ⟨w.heap.size, 1, none⟩ = some (.float .f64 0) := by rw [World.cell?_alloc_new]; rfl
  have z2 : (w.alloc (.cells #[.float .f64 0, .float .f64 0, .float .f64 0, .float .f64 0] 34)).cell? ⟨w.heap.size, 2, none⟩ = some (.float .f64 0) := by rw [World.cell?_alloc_new]; rfl
  have z3 : (w.alloc (.cells #[.float .f64 0, .float .f64 0, .float .f64 0, .float .f64 0] 34)).cell? ⟨w.heap.size, 3, none⟩ = some (.float .f64 0) := by rw [World.cell?_alloc_new]; rfl
  by_cases h8 : 8 < n
  · have hnz : (8 : Int) < (n : Int) := by omega
    go_enter Tryz.func5, Tryz.ntmps5
    go_wp2
    refine bodyPost_ret (v := .tuple #[.agg #[.float .f64 0, .float .f64 0, .float .f64 0, .float .f64 0], .int .i64 4]) (by simp [results, Tryz.results5, go_sem] <;> (first | exact ⟨⟨rfl, rfl, rfl, rfl⟩, rfl⟩ | exact ⟨rfl, rfl, rfl, rfl, rfl⟩ | exact ⟨rfl, rfl⟩ | rfl)) rfl ⟨0, 0, 0, 0, 4, .inl ⟨h8, ⟨rfl, rfl, rfl, rfl⟩, rfl⟩, rfl, ?_⟩
    repeat (first | exact bl_refl _ | assumption | apply bl_drewN | apply bl_drew | apply bl_alloc | refine bl_set ?_ (by simp <;> omega) | refine bl_trans ?_ (by assumption))
  have hng : ¬ (8 : Int) < (n : Int) := by omega
  go_enter Tryz.func5, Tryz.ntmps5
  go_wp2
  go_loopg [4, 15] n (fun kx s4 s15 wr => ∃ (k : Nat) (M : List M4_), s15 = .int .i64 k ∧ k ≤ n ∧ n - k ≤ kx ∧ Hid ((PW Kq R N X Y D S) k M) ∧ OwnR 4 (w.alloc (.cells #[.float .f64 0, .float .f64 0, .float .f64 0, .float .f64 0] 34)).heap.size wr s4 M.length (mR M) ∧ Bel (w.alloc (.cells #[.float .f64 0, .float .f64 0, .float .f64 0, .float .f64 0] 34)) wr)
  case atStart => exact ⟨0, [], rfl, by omega, by omega, PW.nil, OwnR.nil _ _ _, bl_refl _⟩
  case round =>
    obtain ⟨k, M, rfl, hkn, hkx, hP, hO, hW⟩ := hrel
    have hML := hP.out.len
    obtain ⟨gv, gc, rfl, hgv⟩ := own_any4 hO
    by_cases hlt : k < n
    · have hkz : (k : Int) < (n : Int) := by omega
      obtain ⟨b, off, rfl, hQ⟩ : ∃ b off, a = some ⟨b, off, none⟩ ∧ Pq w b off n Kq R V D F B S La Ma := by
        rcases h with h | h
        · omega
        · exact h
      obtain ⟨x0, x1, x2, x3, x4, x5, x6, x7, x8⟩ := (hQ.bel (bl_trans B0 hW)) k hlt
      have hAk := hA k hlt
      obtain ⟨va, vc, hV, _⟩ := id hAk
      rw [hV] at hAk x2
      clear hV
      have S6 : (wr.alloc (.cells #[.int .u8 (Kq k), .float .f64 (R k), .slice va (N k) vc, .float .f64 (D k), .float .f64 (F k), .float .f64 (B k), .bool (S k), .int .u16 (La k), .int .u16 (Ma k)] 30)).cell? ⟨wr.heap.size, 6, none⟩ = some (.bool (S k)) := by rw [World.cell?_alloc_new]; rfl
      have B1 := bl_alloc hW #[.int .u8 (Kq k), .float .f64 (R k), .slice va (N k) vc, .float .f64 (D k), .float .f64 (F k), .float .f64 (B k), .bool (S k), .int .u16 (La k), .int .u16 (Ma k)] 30
      have hAr := hAk.bel (bl_trans B0 B1)
      have hsz := hW.size
      go_upto_region 8 with (first | (go_at_call 8; (with_reducible refine (of_any _ (N k) (X k) (Y k) (Kq k) (R k) (D k) _ hAr (hr k hlt)).mono ?_); rintro e w1 ⟨m, j, x, y, f, hOf, rfl, hb⟩))
      replace S6 := up_alloc (o := .cells #[.float .f64 m, .float .f64 j, .float .f64 x, .float .f64 y] 34) (keep hb S6)
      have B2 := bl_alloc (bl_trans B1 hb) #[.float .f64 m, .float .f64 j, .float .f64 x, .float .f64 y] 34
      have M0 : (w1.alloc (.cells #[.float .f64 m, .float .f64 j, .float .f64 x, .float .f64 y] 34)).cell? ⟨w1.heap.size, 0, none⟩ = some (.float .f64 m) := by rw [World.cell?_alloc_new]; rfl
      have M1 : (w1.alloc (.cells #[.float .f64 m, .float .f64 j, .float .f64 x, .float .f64 y] 34)).cell? ⟨w1.heap.size, 1, none⟩ = some (.float .f64 j) := by rw [World.cell?_alloc_new]; rfl
      have M2 : (w1.alloc (.cells #[.float .f64 m, .float .f64 j, .float .f64 x, .float .f64 y] 34)).cell? ⟨w1.heap.size, 2, none⟩ = some (.float .f64 x) := by rw [World.cell?_alloc_new]; rfl
      have M3 : (w1.alloc (.cells #[.float .f64 m, .float .f64 j, .float .f64 x, .float .f64 y] 34)).cell? ⟨w1.heap.size, 3, none⟩ = some (.float .f64 y) := by rw [World.cell?_alloc_new]; rfl
      by_cases hf : f = 0
      · subst hf
        have hOf := hide hOf
        cases hs : S k with
        | true =>
          rw [hs] at S6
          go_wp2
          go_roundg (n - (k + 1))
          case measure => omega
          case rel => exact ⟨k + 1, M, by go_num, by omega, by omega, hP.out.sens hOf.out hs, hO.bel (bl_alloc (bl_trans (bl_alloc (bl_refl wr) _ _) hb) _ _), B2⟩
        | false =>
          rw [hs] at S6
          have hO1 := hO.bel (bl_alloc (bl_alloc (bl_trans (bl_alloc (bl_refl wr) #[.int .u8 (Kq k), .float .f64 (R k), .slice va (N k) vc, .float .f64 (D k), .float .f64 (F k), .float .f64 (B k), .bool (S k), .int .u16 (La k), .int .u16 (Ma k)] 30) hb) #[.float .f64 m, .float .f64 j, .float .f64 x, .float .f64 y] 34) #[.float .f64 m, .float .f64 j, .float .f64 x, .float .f64 y] 34)
          have hR1 := mk_rwp (w1.alloc (.cells #[.float .f64 m, .float .f64 j, .float .f64 x, .float .f64 y] 34)) [.float .f64 m, .float .f64 j, .float .f64 x, .float .f64 y] 34
          rw [World.size_alloc] at hR1
          go_wp2_with (first | (at_builtin; refine wpList_appR (P := Tryz.prog) (sz := 4) (by_ := 32) (R := mR M) (N := [.float .f64 m, .float .f64 j, .float .f64 x, .float .f64 y]) 44 34 rfl _ _ rfl Tryz.underlying44 info_mass rfl rfl _ 0 1 1 rfl hO1 rfl hR1 (one4 m j x y) (by decide) (by have := B2.size; simp only [World.size_alloc] at this ⊢; omega) (by unfold maxLen; omega) (by omega) ?_; intro v2 w2 hO2 hv2 hb2; have B3 := hb2 (w.alloc (.cells #[.float .f64 0, .float .f64 0, .float .f64 0, .float .f64 0] 34)) (bl_alloc B2 _ _) (Nat.le_refl _)))
          go_roundg (n - (k + 1))
          case measure => omega
          case rel => exact ⟨k + 1, M ++ [(m, j, x, y)], by go_num, by omega, by omega, hP.out.put hOf.out hs, by rw [mR_snoc, List.length_append]; exact hO2, B3⟩
      · have B3 := B2
        have R0 := keep B3 z0
        have R1 := keep B3 z1
        have R2 := keep B3 z2
        have R3 := keep B3 z3
        have zf : ∀ o, (w1.alloc (.cells #[.float .f64 m, .float .f64 j, .float .f64 x, .float .f64 y] 34)).frozen? ⟨w.heap.size, o, none⟩ = false := fun o => (B3.2 _).trans (fz_alloc (fresh_frozen (Nat.le_refl _)))
        obtain ⟨F0, F1, F2, F3⟩ := set4_at (p := .float .f64 0) (q := .float .f64 0) (r := .float .f64 0) (s := .float .f64 0) R0 R1 R2 R3
        go_wp2
        refine bodyPost_ret (v := .tuple #[.agg #[.float .f64 0, .float .f64 0, .float .f64 0, .float .f64 0], .int .i64 f]) (by simp [F0, F1, F2, F3, results, Tryz.results5, go_sem] <;> (first | exact ⟨⟨rfl, rfl, rfl, rfl⟩, rfl⟩ | exact ⟨rfl, rfl, rfl, rfl, rfl⟩ | exact ⟨rfl, rfl⟩ | rfl)) rfl ⟨0, 0, 0, 0, f, .inr (.inl ⟨by omega, k, M, _, _, _, _, hlt, hP.out, hOf, hf, rfl, rfl, rfl, rfl⟩), rfl, ?_⟩
        exact bl_set (bl_set (bl_set (bl_set (bl_trans B0 B3) (Nat.le_refl _)) (Nat.le_refl _)) (Nat.le_refl _)) (Nat.le_refl _)
    · have hk : k = n := by omega
      subst hk
      have hjn : Calls Tryz.prog 11 #[.slice gv M.length gc] wr fun e w' => ∃ m j x y f, JoinA (fA M) (fB M) (fC M) (fD M) M.length AboutR m j x y f ∧ e = .returned (.tuple #[.agg #[.float .f64 m, .float .f64 j, .float .f64 x, .float .f64 y], .int .i64 f]) ∧ Bel wr w' := by
        rcases Nat.eq_zero_or_pos M.length with h0 | h0
        · rw [h0]; exact join_none _ _ _ _ _ _ _
        · obtain ⟨q, rfl, hc, hR⟩ := hgv h0
          exact join_some _ _ _ _ _ _ _ _ _ (mR_ml hR) h0 hc (by omega)
      go_wp2_with (first | (go_at_call 11; (with_reducible refine hjn.mono ?_); rintro e w3 ⟨m, j, x, y, f, hJ, rfl, hb3⟩; have B3 := bl_trans hW hb3; have R0 := keep B3 z0; have R1 := keep B3 z1; have R2 := keep B3 z2; have R3 := keep B3 z3; have zf : ∀ o, w3.frozen? ⟨w.heap.size, o, none⟩ = false := fun o => (B3.2 _).trans (fz_alloc (fresh_frozen (Nat.le_refl _)))))
      obtain ⟨F0, F1, F2, F3⟩ := set4_at (p := .float .f64 m) (q := .float .f64 j) (r := .float .f64 x) (s := .float .f64 y) R0 R1 R2 R3
      refine bodyPost_ret (v := .tuple #[.agg #[.float .f64 m, .float .f64 j, .float .f64 x, .float .f64 y], .int .i64 f]) (by simp [F0, F1, F2, F3, results, Tryz.results5, go_sem] <;> (first | exact ⟨⟨rfl, rfl, rfl, rfl⟩, rfl⟩ | exact ⟨rfl, rfl, rfl, rfl, rfl⟩ | exact ⟨rfl, rfl⟩ | rfl)) rfl ⟨m, j, x, y, f, .inr (.inr ⟨by omega, M, hP.out, hJ⟩), rfl, ?_⟩
      exact bl_set (bl_set (bl_set (bl_set (bl_trans B0 B3) (Nat.le_refl _)) (Nat.le_refl _)) (Nat.le_refl _)) (Nat.le_refl _)

end Go.Proofs.YtfaiaepkmlmoaaaGreat
