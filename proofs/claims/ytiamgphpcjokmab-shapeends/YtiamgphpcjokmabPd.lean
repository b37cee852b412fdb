/-
  What each function of package poly answers, and what the reference of its chapter answers: one contract a function, for every float: the answer stands in the relation of its formula to what was given; of the memory that was there nothing has turned.
-/
import Derived.Test.YtiamgphpcjokmabVec
import Derived.Test.YtiamgphpcjokmabPc
import Derived.Test.YtiamgphpcjokmabGel
import Derived.Below
import Derived.Laws.MakeOwn
import Derived.WalkKit
import Derived.WalkLawsBesides
import Derived.WalkSpells
import Derived.ProofKit
import Derived.OpenShut
import Derived.Deep.RegionHeld3
namespace Go.Proofs.Ytiamgphpcjokmab
open Go.ChangeShapes Go.WideShapes Go.ChangeAt Go.RowKit
set_option linter.unusedVariables false
set_option linter.unusedSimpArgs false


theorem vAdd_n {ax ay bx b_y : Nat} (w : World) (h1 : finK .f64 ax = true) (h2 : finK .f64 ay = true) (h3 : nanK .f64 bx = false) (h4 : nanK .f64 b_y = false) : Calls Try.prog 73 #[.agg #[.float .f64 ax, .float .f64 ay], .agg #[.float .f64 bx, .float .f64 b_y]] w fun e w' => e = .returned (.agg #[.float .f64 (Dv .add ax bx), .float .f64 (Dv .add ay b_y)]) ∧ Bel w w' :=
  (vAdd_any _ _ _ _ w).mono fun e w' ⟨x, y, h, he, hb⟩ => ⟨by obtain ⟨e1, e2⟩ := addR_n h1 h2 h3 h4 h; rw [he, e1, e2], hb⟩
theorem fan_pos {xs ys : Nat → Nat} {n : Nat} (h : fanE xs ys n = 0) : ltK .f64 0 (fanA xs ys n) = true := by
  unfold fanA; rw [if_pos h]
  unfold fanE at h
  split at h
  · split at h
    · assumption
    · cases h
  · contradiction
theorem cell_apart {W : World} {b o o' : Nat} {v x : Value} (hne : o ≠ o') (h : W.cell? ⟨b, o', none⟩ = some v) : (W.setCell ⟨b, o, none⟩ x).cell? ⟨b, o', none⟩ = some v := (far_off hne).trans h
theorem Sl.set {w : World} {b off n i : Nat} {xs ys : Nat → Nat} (h : Sl w b off n xs ys) (hi : i < n) (x y : Nat) : Sl ((w.setCell ⟨b, off + i * 2, none⟩ (.float .f64 x)).setCell ⟨b, off + i * 2 + 1, none⟩ (.float .f64 y)) b off n (upd xs i x) (upd ys i y) := by
  intro j hj
  by_cases e : j = i
  · subst e
    rw [upd_same, upd_same]
    refine ⟨cell_apart (by omega) (World.cell?_setCell_same _ _ _ (h j hj).1), ?_⟩
    exact World.cell?_setCell_same _ _ _ (cell_apart (by omega) (h j hj).2)
  · rw [upd_other e, upd_other e]
    exact ⟨cell_apart (by omega) (cell_apart (by omega) (h j hj).1), cell_apart (by omega) (cell_apart (by omega) (h j hj).2)⟩
theorem Sl.far {w : World} {b off n c o : Nat} {xs ys : Nat → Nat} {v : Value} (h : Sl w b off n xs ys) (hc : c ≠ b) : Sl (w.setCell ⟨c, o, none⟩ v) b off n xs ys := fun i hi => ⟨up_set2 hc (h i hi).1, up_set2 hc (h i hi).2⟩
theorem Sl.eq {w : World} {b off n : Nat} {xs ys xs' ys' : Nat → Nat} (h : Sl w b off n xs ys) (e1 : ∀ i, i < n → xs i = xs' i) (e2 : ∀ i, i < n → ys i = ys' i) : Sl w b off n xs' ys' := fun i hi => by rw [← e1 i hi, ← e2 i hi]; exact h i hi
theorem made_sl (W : World) (t : TypeId) (n : Nat) : Sl (W.alloc (.cells (madeCells #[.float .f64 0, .float .f64 0] (n * 2)) t)) W.heap.size 0 n (fun _ => 0) (fun _ => 0) := by
  intro i hi
  have h1 : i * 2 < n * 2 := by omega
  have h2 : i * 2 + 1 < n * 2 := by omega
  have m1 : i * 2 % 2 = 0 := by omega
  have m2 : (i * 2 + 1) % 2 = 1 := by omega
  constructor <;> simp [madeCells, h1, h2, m1, m2]
theorem make_vec (n : Nat) (hn : n ≤ 1000) (W : World) : (Instr.makeSlice 23 (.int .i64 n) (.int .i64 n)).run Try.prog W = .ok (.slice (some ⟨W.heap.size, 0, none⟩) n n) (W.alloc (.cells (madeCells #[.float .f64 0, .float .f64 0] (n * 2)) 27)) := by
  have h := run_make (P := Try.prog) W 23 27 Try.t27 (.agg #[.float .f64 0, .float .f64 0]) Try.underlying23 (by kernel_rfl) (by kernel_rfl) .i64 .i64 n n (by omega) (by omega) (by show ((16 : Nat) : Int) * n ≤ _; omega) (by omega)
  exact h

end Go.Proofs.Ytiamgphpcjokmab
