/-
  What each function of package poly answers, and what the reference of its chapter answers: one contract a function, for every float: the answer stands in the relation of its formula to what was given; of the memory that was there nothing has turned.
-/
import Derived.Test.YtdeooadeohojcaaGreatVec
import Derived.Test.YtdeooadeohojcaaGreatRd
import Derived.Test.YtdeooadeohojcaaGreatPj
import Derived.Below
import Derived.WalkKit
import Derived.WalkLawsBesides
import Derived.WalkSpells
import Derived.ProofKit
import Derived.OpenShut
import Derived.Deep.RegionHeld3
namespace Go.Proofs.YtdeooadeohojcaaGreat
open Go.ChangeShapes Go.WideShapes Go.ChangeAt Go.RowKit
set_option linter.unusedVariables false
set_option linter.unusedSimpArgs false


theorem rnormals_none (v : Option Addr) (cap : Nat) (w : World) : Calls Tryz.prog 48 #[.slice v 0 cap] w fun e w' => e = .returned (.tuple #[.slice none 0 0, .int .i64 60]) ∧ Bel w w' := by
  go_enter Tryz.func48, Tryz.ntmps48
  go_wp2_with (first | (go_at_call 74; refine (rchk_none _ _ _).mono ?_; rintro e w' ⟨rfl, hb⟩))
  refine bodyPost_ret (v := .tuple #[.slice none 0 0, .int .i64 60]) (by simp [results, Tryz.results48, go_sem] <;> (first | exact ⟨⟨rfl, rfl⟩, rfl⟩ | exact ⟨rfl, rfl, rfl, rfl⟩ | exact ⟨rfl, rfl, rfl⟩ | exact ⟨rfl, rfl⟩ | rfl)) rfl ⟨rfl, ?_⟩
  repeat (first | exact bl_refl _ | assumption | apply bl_drewN | apply bl_drew | apply bl_alloc | refine bl_set ?_ (by simp <;> omega) | refine bl_trans ?_ (by assumption))

theorem rhas_none (v : Option Addr) (cap p q : Nat) (w : World) : Calls Tryz.prog 49 #[.slice v 0 cap, .agg #[.float .f64 p, .float .f64 q]] w fun e w' => e = .returned (.tuple #[.bool false, .int .i64 60]) ∧ Bel w w' := by
  go_enter Tryz.func49, Tryz.ntmps49
  go_wp2_with (first | (go_at_call 74; refine (rchk_none _ _ _).mono ?_; rintro e w' ⟨rfl, hb⟩))
  refine bodyPost_ret (v := .tuple #[.bool false, .int .i64 60]) (by simp [results, Tryz.results49, go_sem] <;> (first | exact ⟨⟨rfl, rfl⟩, rfl⟩ | exact ⟨rfl, rfl, rfl, rfl⟩ | exact ⟨rfl, rfl, rfl⟩ | exact ⟨rfl, rfl⟩ | rfl)) rfl ⟨rfl, ?_⟩
  repeat (first | exact bl_refl _ | assumption | apply bl_drewN | apply bl_drew | apply bl_alloc | refine bl_set ?_ (by simp <;> omega) | refine bl_trans ?_ (by assumption))

theorem with_zero (xs ys : Nat → Nat) (p q : Nat) : withE xs ys 0 p q = 60 := by unfold withE; rw [chk_zero]; rfl

theorem chk_all (V : Value) (n : Nat) (xs ys : Nat → Nat) (w : World) (h : AnyS w V n xs ys) : Calls Tryz.prog 45 #[V] w fun e w' => e = .returned (.int .i64 (chkE xs ys n)) ∧ Bel w w' := by
  obtain ⟨a, cap, rfl, a2, a3, a4, a5, a6⟩ := h
  rcases a6 with rfl | ⟨a0, b, off, rfl, sa⟩
  · rw [chk_zero]
    exact chk_none a cap xs ys w
  · exact chk_some b off n cap xs ys w sa a5 a0 a3 a2

theorem has_all (V : Value) (n : Nat) (xs ys : Nat → Nat) (w : World) (h : AnyS w V n xs ys) (p q : Nat) (op : okK .f64 p) (oq : okK .f64 q) : Calls Tryz.prog 46 #[V, .agg #[.float .f64 p, .float .f64 q]] w fun e w' => e = .returned (.tuple #[.bool (hasV xs ys n p q), .int .i64 (withE xs ys n p q)]) ∧ Bel w w' := by
  obtain ⟨a, cap, rfl, a2, a3, a4, a5, a6⟩ := h
  rcases a6 with rfl | ⟨a0, b, off, rfl, sa⟩
  · have e1 : hasV xs ys 0 p q = false := by unfold hasV; rw [with_zero]; rfl
    rw [e1, with_zero]
    exact has_none a cap p q w
  · exact has_d b off n cap xs ys w sa a5 a0 a3 a2 p q op oq

theorem rhas_all (V : Value) (n : Nat) (xs ys : Nat → Nat) (w : World) (h : AnyS w V n xs ys) (p q : Nat) (op : okK .f64 p) (oq : okK .f64 q) : Calls Tryz.prog 49 #[V, .agg #[.float .f64 p, .float .f64 q]] w fun e w' => e = .returned (.tuple #[.bool (hasV xs ys n p q), .int .i64 (withE xs ys n p q)]) ∧ Bel w w' := by
  obtain ⟨a, cap, rfl, a2, a3, a4, a5, a6⟩ := h
  rcases a6 with rfl | ⟨a0, b, off, rfl, sa⟩
  · have e1 : hasV xs ys 0 p q = false := by unfold hasV; rw [with_zero]; rfl
    rw [e1, with_zero]
    exact rhas_none a cap p q w
  · exact rhas_d b off n cap xs ys w sa a5 a0 a3 a2 a4 p q op oq

theorem rnormals_no (V : Value) (n : Nat) (xs ys : Nat → Nat) (w : World) (h : AnyS w V n xs ys) (hch : ¬ chkE xs ys n = 0) : Calls Tryz.prog 48 #[V] w fun e w' => e = .returned (.tuple #[.slice none 0 0, .int .i64 (chkE xs ys n)]) ∧ Bel w w' := by
  obtain ⟨a, cap, rfl, a2, a3, a4, a5, a6⟩ := h
  rcases a6 with rfl | ⟨a0, b, off, rfl, sa⟩
  · rw [chk_zero]
    exact rnormals_none a cap w
  · exact rnormals_bad b off n cap xs ys w sa a5 a0 a3 a2 a4 hch

theorem rnormals_yes (V : Value) (n : Nat) (xs ys : Nat → Nat) (w : World) (h : AnyS w V n xs ys) (hch : chkE xs ys n = 0) : Calls Tryz.prog 48 #[V] w fun e w' => ∃ v, e = .returned (.tuple #[v, .int .i64 0]) ∧ Own w.heap.size w' v (lst (nX xs ys n) (nY xs ys n) n) ∧ Bel w w' := by
  obtain ⟨a, cap, rfl, a2, a3, a4, a5, a6⟩ := h
  rcases a6 with rfl | ⟨a0, b, off, rfl, sa⟩
  · rw [chk_zero] at hch; cases hch
  · exact rnormals_ok b off n cap xs ys w sa a5 a0 a3 a2 a4 hch

end Go.Proofs.YtdeooadeohojcaaGreat
