/-
  What each function of package vec answers, and what the reference of its chapter answers: one contract a function, for every float: the answer stands in the relation of its formula to what was given; of the memory that was there nothing has turned.
-/
import Derived.Test.YtkkncipimbpkkaaNum
import Derived.Below
import Derived.WalkKit
import Derived.WalkLawsBesides
import Derived.WalkSpells
import Derived.ProofKit
import Derived.OpenShut
import Derived.Deep.RegionHeld3
namespace Go.Proofs.Ytkkncipimbpkkaa
open Go.ChangeShapes Go.WideShapes Go.ChangeAt Go.RowKit
set_option linter.unusedVariables false
set_option linter.unusedSimpArgs false


theorem from_int (n : Int) (w : World) : (callFunc 47 #[.int .u64 n]).run Try.prog w = .ok (.value (.float .f64 n.toNat)) w := by
  rw [run_callFunc_extern Try.func47 (by kernel_rfl) (by kernel_rfl) (by kernel_rfl) (f := 47) (e := Extern.MathFloatBits.float64frombits) (by kernel_rfl)]
  rfl

theorem rEnd_any (a : Nat) (w : World) : Calls Try.prog 57 #[.float .f64 a] w fun e w' => ∃ n, e = .returned (.bool (finK .f64 a)) ∧ w' = w.drewN n := by
  have c1 := cmp_eq .f64
  have q1 := run_sub Try.prog
  have q2 := self_sub .f64 a
  go_enter Try.func57, Try.ntmps57
  go_wp2
  go_ret
  exact ⟨_, rfl, rfl⟩

theorem vFinite_any (ax ay : Nat) (w : World) : Calls Try.prog 39 #[.agg #[.float .f64 ax, .float .f64 ay]] w fun e w' => e = .returned (.bool (finK .f64 ax && finK .f64 ay)) ∧ Bel w w' := by
  cases h1 : finK .f64 ax
  all_goals
    go_enter Try.func39, Try.ntmps39
    go_wp2_with (first | (go_at_call 51; refine (finite_6 _ _).mono ?_; rintro e w' ⟨n2, rfl, rfl⟩))
    go_ret
    refine ⟨rfl, ?_⟩
    repeat (first | exact bl_refl _ | assumption | apply bl_drewN | apply bl_drew | apply bl_alloc | refine bl_set ?_ (by simp <;> omega) | refine bl_trans ?_ (by assumption))

theorem rFinite_any (ax ay : Nat) (w : World) : Calls Try.prog 48 #[.agg #[.float .f64 ax, .float .f64 ay]] w fun e w' => e = .returned (.bool (finK .f64 ax && finK .f64 ay)) ∧ Bel w w' := by
  cases h1 : finK .f64 ax
  all_goals
    go_enter Try.func48, Try.ntmps48
    go_wp2_with (first | (go_at_call 57; refine (rEnd_any _ _).mono ?_; rintro e w' ⟨n2, rfl, rfl⟩))
    go_ret
    refine ⟨rfl, ?_⟩
    repeat (first | exact bl_refl _ | assumption | apply bl_drewN | apply bl_drew | apply bl_alloc | refine bl_set ?_ (by simp <;> omega) | refine bl_trans ?_ (by assumption))

end Go.Proofs.Ytkkncipimbpkkaa
