/-
  What each function of package poly answers, and what the reference of its chapter answers: one contract a function, for every float: the answer stands in the relation of its formula to what was given; of the memory that was there nothing has turned.
-/
import Derived.Test.YtpnkmflkjokhlaaVec
import Derived.Test.YtpnkmflkjokhlaaPc
import Derived.Test.YtpnkmflkjokhlaaGel
import Derived.Below
import Derived.Laws.MakeOwn
import Derived.WalkKit
import Derived.WalkLawsBesides
import Derived.WalkSpells
import Derived.ProofKit
import Derived.OpenShut
import Derived.Deep.RegionHeld3
namespace Go.Proofs.Ytpnkmflkjokhlaa
open Go.ChangeShapes Go.WideShapes Go.ChangeAt Go.RowKit
set_option linter.unusedVariables false
set_option linter.unusedSimpArgs false


theorem fan_pos {xs ys : Nat → Nat} {n : Nat} (h : fanE xs ys n = 0) : ltK .f64 0 (fanA xs ys n) = true := by
  unfold fanA; rw [if_pos h]
  unfold fanE at h
  split at h
  · split at h
    · assumption
    · cases h
  · contradiction
theorem cell_apart {W : World} {b o o' : Nat} {v x : Value} (hne : o ≠ o') (h : W.cell? ⟨b, o', none⟩ = some v) : (W.setCell ⟨b, o, none⟩ x).cell? ⟨b, o', none⟩ = some v := (far_off hne).trans h
theorem Sl.set {w : World} {b off n i : Nat} {xs ys : Nat → Nat} (h : Sl w b off n xs ys) (hi : i < n) (x y : Nat) : Sl ((w.setCell ⟨b, off + i * 2, none⟩ (.float .f64 x)).setCell ⟨b, off + i * 2 + 1, none⟩ (.float .f64 y)) b off n (upd xs i x) (upd ys i y) := by
  intro j hj
  by_cases e : j = i
  · subst e
    rw [upd_same, upd_same]
    refine ⟨cell_apart (by omega) (World.cell?_setCell_same _ _ _ (h j hj).1), ?_⟩
    exact World.cell?_setCell_same _ _ _ (cell_apart (by omega) (h j hj).2)
  · rw [upd_other e, upd_other e]
    exact ⟨cell_apart (by omega) (cell_apart (by omega) (h j hj).1), cell_apart (by omega) (cell_apart (by omega) (h j hj).2)⟩
theorem Sl.far {w : World} {b off n c o : Nat} {xs ys : Nat → Nat} {v : Value} (h : Sl w b off n xs ys) (hc : c ≠ b) : Sl (w.setCell ⟨c, o, none⟩ v) b off n xs ys := fun i hi => ⟨up_set2 hc (h i hi).1, up_set2 hc (h i hi).2⟩
theorem Sl.eq {w : World} {b off n : Nat} {xs ys xs' ys' : Nat → Nat} (h : Sl w b off n xs ys) (e1 : ∀ i, i < n → xs i = xs' i) (e2 : ∀ i, i < n → ys i = ys' i) : Sl w b off n xs' ys' := fun i hi => by rw [← e1 i hi, ← e2 i hi]; exact h i hi
theorem made_sl (W : World) (t : TypeId) (n : Nat) : Sl (W.alloc (.cells (madeCells #[.float .f64 0, .float .f64 0] (n * 2)) t)) W.heap.size 0 n (fun _ => 0) (fun _ => 0) := by
  intro i hi
  have h1 : i * 2 < n * 2 := by omega
  have h2 : i * 2 + 1 < n * 2 := by omega
  have m1 : i * 2 % 2 = 0 := by omega
  have m2 : (i * 2 + 1) % 2 = 1 := by omega
  constructor <;> simp [madeCells, h1, h2, m1, m2]
theorem make_vec (n : Nat) (hn : n ≤ 1000) (W : World) : (Instr.makeSlice 36 (.int .i64 n) (.int .i64 n)).run Try.prog W = .ok (.slice (some ⟨W.heap.size, 0, none⟩) n n) (W.alloc (.cells (madeCells #[.float .f64 0, .float .f64 0] (n * 2)) 24)) := by
  have h := run_make (P := Try.prog) W 36 24 Try.t24 (.agg #[.float .f64 0, .float .f64 0]) Try.underlying36 (by kernel_rfl) (by kernel_rfl) .i64 .i64 n n (by omega) (by omega) (by show ((16 : Nat) : Int) * n ≤ _; omega) (by omega)
  exact h

end Go.Proofs.Ytpnkmflkjokhlaa
