/-
  What each function of package frame answers, and what the reference of its chapter answers: one contract a function, for every float: the answer stands in the relation of its formula to what was given; of the memory that was there nothing has turned.
-/
import Derived.Test.YtnbkjkbgfcpcfaaVec
import Derived.Test.YtnbkjkbgfcpcfaaTurn
import Derived.Test.YtnbkjkbgfcpcfaaPa
import Derived.Laws.StructEq
import Derived.Below
import Derived.WalkKit
import Derived.WalkLawsBesides
import Derived.WalkSpells
import Derived.ProofKit
import Derived.OpenShut
import Derived.Deep.RegionHeld3
namespace Go.Proofs.Ytnbkjkbgfcpcfaa
open Go.ChangeShapes Go.WideShapes Go.ChangeAt Go.RowKit
set_option linter.unusedVariables false
set_option linter.unusedSimpArgs false

theorem goutward_any (X Y x y : Nat) (w : World) : Calls Try.prog 99 #[.agg #[.float .f64 X, .float .f64 Y, .complex .f64 x y]] w fun e w' => e = .returned (.func (.func 124) #[.complex .f64 x y] #[]) ∧ Bel w w' := by
  go_enter Try.func99, Try.ntmps99
  go_wp2
  go_ret
  refine ⟨rfl, ?_⟩
  repeat (first | exact bl_refl _ | assumption | apply bl_drewN | apply bl_drew | apply bl_alloc | refine bl_set ?_ (by simp <;> omega) | refine bl_trans ?_ (by assumption))
theorem gApply_any (x y u v : Nat) (w : World) : Calls Try.prog 124 #[.complex .f64 x y, .agg #[.float .f64 u, .float .f64 v]] w fun e w' => ∃ r i, ThenR x y u v r i ∧ e = .returned (.agg #[.float .f64 r, .float .f64 i]) ∧ Bel w w' := by
  go_enter Try.func124, Try.ntmps124
  go_wp2_with (first | (go_at_call 133; refine (tApply_any _ _ _ _ _).mono ?_; rintro e w' ⟨r, i, hR, rfl, hb⟩; have B := hb; obtain ⟨hc, hf⟩ := bcell B; have hz := B.size; (try simp at hz)))
  refine bodyPost_ret (v := .agg #[.float .f64 _, .float .f64 _]) (by simp [hc, results, Try.results124, go_sem] <;> exact ⟨rfl, rfl⟩) rfl ⟨_, _, hR, rfl, ?_⟩
  repeat (first | exact bl_refl _ | assumption | apply bl_drewN | apply bl_drew | apply bl_alloc | refine bl_set ?_ (by simp <;> omega) | refine bl_trans ?_ (by assumption))

set_option maxHeartbeats 400000 in
theorem gTo_any (X Y x y u v : Nat) (w : World) : Calls Try.prog 47 #[.agg #[.float .f64 X, .float .f64 Y, .complex .f64 x y], .agg #[.float .f64 u, .float .f64 v]] w fun e w' => ∃ tx ty, ToR X Y x y u v tx ty ∧ e = .returned (.agg #[.float .f64 tx, .float .f64 ty]) ∧ Bel w w' := by
  go_enter Try.func47, Try.ntmps47
  go_wp2
  go_region_held3 (fun w1 => w1.cell? ⟨w.heap.size, 0, none⟩ = some (.float .f64 X) ∧ w1.cell? ⟨w.heap.size, 1, none⟩ = some (.float .f64 Y) ∧ w1.cell? ⟨w.heap.size, 2, none⟩ = some (.complex .f64 x y) ∧ w1.cell? ⟨w.heap.size + 1, 0, none⟩ = some (.float .f64 u) ∧ w1.cell? ⟨w.heap.size + 1, 1, none⟩ = some (.float .f64 v)) (first | ((try go_split_ands); refine ⟨?_, ?_, ?_, ?_, ?_⟩ <;> (first | ((repeat' (first | (with_reducible assumption) | (with_reducible refine up_drew ?_) | (with_reducible refine up_drewN ?_) | (with_reducible refine keep hb ?_) | (with_reducible refine up_set2 ?_ ?_) | (with_reducible refine (cell_own ?_ _ _ _).1) | (with_reducible refine (cell_own ?_ _ _ _).2) | (with_reducible refine up_alloc ?_) | omega | (simp; done))); done) | go_keep)))
    (first | (go_at_call 99; refine (goutward_any _ _ _ _ _).mono ?_; rintro e w' ⟨rfl, hb⟩; have B := hb; obtain ⟨hc, hf⟩ := bcell B; have hz := B.size; (try simp at hz)) | (go_at_call 124; refine (gApply_any _ _ _ _ _).mono ?_; rintro e w' ⟨A, B0, hA, rfl, hb⟩; clear hc hf hz; have B := bl_trans B hb; obtain ⟨hc, hf⟩ := bcell B; have hz := B.size; (try simp at hz)) | (go_at_call 75; refine (vAdd_any _ _ _ _ _).mono ?_; rintro e w' ⟨tx, ty, hT, rfl, hb⟩; clear hc hf hz; have B := bl_trans B hb; obtain ⟨hc, hf⟩ := bcell B; have hz := B.size; (try simp at hz)))
  all_goals go_wp2
  refine bodyPost_ret (v := .agg #[.float .f64 _, .float .f64 _]) (by simp [hc, results, Try.results47, go_sem] <;> exact ⟨rfl, rfl⟩) rfl ⟨_, _, ⟨_, _, hA, hT.1, hT.2⟩, rfl, ?_⟩
  repeat (first | exact bl_refl _ | assumption | apply bl_drewN | apply bl_drew | apply bl_alloc | refine bl_set ?_ (by simp <;> omega) | refine bl_trans ?_ (by assumption))
def bitsF (a : Nat) : Nat := if nanK .f64 a then 9221120237041090561 else a
end Go.Proofs.Ytnbkjkbgfcpcfaa
