/-
  What each function of package poly answers, and what the reference of its chapter answers: one contract a function, for every float: the answer stands in the relation of its formula to what was given; of the memory that was there nothing has turned.
-/
import Derived.Test.YtmgoancijepeoaaVec
import Derived.Test.YtmgoancijepeoaaRd
import Derived.Test.YtmgoancijepeoaaPu
import Derived.Below
import Derived.WalkKit
import Derived.WalkLawsBesides
import Derived.WalkSpells
import Derived.ProofKit
import Derived.OpenShut
import Derived.Deep.RegionHeld3
namespace Go.Proofs.Ytmgoancijepeoaa
open Go.ChangeShapes Go.WideShapes Go.ChangeAt Go.RowKit
set_option linter.unusedVariables false
set_option linter.unusedSimpArgs false


theorem rnormals_none (v : Option Addr) (cap : Nat) (w : World) : Calls Try.prog 60 #[.slice v 0 cap] w fun e w' => e = .returned (.tuple #[.slice none 0 0, .int .i64 60]) ∧ Bel w w' := by
  go_enter Try.func60, Try.ntmps60
  go_wp2_with (first | (go_at_call 56; refine (rchk_none _ _ _).mono ?_; rintro e w' ⟨rfl, hb⟩))
  refine bodyPost_ret (v := .tuple #[.slice none 0 0, .int .i64 60]) (by simp [results, Try.results60, go_sem] <;> (first | exact ⟨⟨rfl, rfl⟩, rfl⟩ | exact ⟨rfl, rfl, rfl, rfl⟩ | exact ⟨rfl, rfl, rfl⟩ | exact ⟨rfl, rfl⟩ | rfl)) rfl ⟨rfl, ?_⟩
  repeat (first | exact bl_refl _ | assumption | apply bl_drewN | apply bl_drew | apply bl_alloc | refine bl_set ?_ (by simp <;> omega) | refine bl_trans ?_ (by assumption))

theorem fan_zero (xs ys : Nat → Nat) : fanE xs ys 0 = 60 := by unfold fanE; rw [chk_zero]; rfl
theorem with_zero (xs ys : Nat → Nat) (p q : Nat) : withE xs ys 0 p q = 60 := by unfold withE; rw [chk_zero]; rfl

theorem chk_all (V : Value) (n : Nat) (xs ys : Nat → Nat) (w : World) (h : AnyS w V n xs ys) : Calls Try.prog 31 #[V] w fun e w' => e = .returned (.int .i64 (chkE xs ys n)) ∧ Bel w w' := by
  obtain ⟨a, cap, rfl, a2, a3, a4, a5, a6⟩ := h
  rcases a6 with rfl | ⟨a0, b, off, rfl, sa⟩
  · rw [chk_zero]
    exact chk_none a cap xs ys w
  · exact chk_some b off n cap xs ys w sa a5 a0 a3 a2

theorem normals_no (V : Value) (n : Nat) (xs ys : Nat → Nat) (w : World) (h : AnyS w V n xs ys) (hch : ¬ chkE xs ys n = 0) : Calls Try.prog 58 #[V] w fun e w' => e = .returned (.tuple #[.slice none 0 0, .int .i64 (chkE xs ys n)]) ∧ Bel w w' := by
  obtain ⟨a, cap, rfl, a2, a3, a4, a5, a6⟩ := h
  rcases a6 with rfl | ⟨a0, b, off, rfl, sa⟩
  · rw [chk_zero]
    exact normals_none a cap w
  · exact normals_bad b off n cap xs ys w sa a5 a0 a3 a2 hch

theorem rnormals_no (V : Value) (n : Nat) (xs ys : Nat → Nat) (w : World) (h : AnyS w V n xs ys) (hch : ¬ chkE xs ys n = 0) : Calls Try.prog 60 #[V] w fun e w' => e = .returned (.tuple #[.slice none 0 0, .int .i64 (chkE xs ys n)]) ∧ Bel w w' := by
  obtain ⟨a, cap, rfl, a2, a3, a4, a5, a6⟩ := h
  rcases a6 with rfl | ⟨a0, b, off, rfl, sa⟩
  · rw [chk_zero]
    exact rnormals_none a cap w
  · exact rnormals_bad b off n cap xs ys w sa a5 a0 a3 a2 a4 hch

theorem normals_yes (V : Value) (n : Nat) (xs ys : Nat → Nat) (w : World) (h : AnyS w V n xs ys) (hch : chkE xs ys n = 0) : Calls Try.prog 58 #[V] w fun e w' => ∃ r, e = .returned (.tuple #[.slice (some ⟨r, 0, none⟩) n n, .int .i64 0]) ∧ Bel w w' ∧ w.heap.size ≤ r ∧ Sl w' r 0 n (nX xs ys n) (nY xs ys n) := by
  obtain ⟨a, cap, rfl, a2, a3, a4, a5, a6⟩ := h
  rcases a6 with rfl | ⟨a0, b, off, rfl, sa⟩
  · rw [chk_zero] at hch; cases hch
  · exact normals_ok b off n cap xs ys w sa a5 a0 a3 a2 hch

theorem rnormals_yes (V : Value) (n : Nat) (xs ys : Nat → Nat) (w : World) (h : AnyS w V n xs ys) (hch : chkE xs ys n = 0) : Calls Try.prog 60 #[V] w fun e w' => ∃ v, e = .returned (.tuple #[v, .int .i64 0]) ∧ Own w.heap.size w' v (lst (nX xs ys n) (nY xs ys n) n) ∧ Bel w w' := by
  obtain ⟨a, cap, rfl, a2, a3, a4, a5, a6⟩ := h
  rcases a6 with rfl | ⟨a0, b, off, rfl, sa⟩
  · rw [chk_zero] at hch; cases hch
  · exact rnormals_ok b off n cap xs ys w sa a5 a0 a3 a2 a4 hch

end Go.Proofs.Ytmgoancijepeoaa
