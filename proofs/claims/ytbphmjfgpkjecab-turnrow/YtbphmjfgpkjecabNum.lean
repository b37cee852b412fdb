/-
  What each function of package num answers, and what the reference of its chapter answers: one contract a function, for every float, no world changed but for draws of no numbers.
-/
import Derived.Test.YtbphmjfgpkjecabRows
import Derived.Test.YtbphmjfgpkjecabFlt
import Derived.WalkKit
import Derived.WalkLawsBesides
import Derived.WalkSpells
import Derived.ProofKit
import Derived.OpenShut
namespace Go.Proofs.Ytbphmjfgpkjecab
open Go.ChangeShapes Go.WideShapes Go.ChangeAt Go.RowKit

theorem less_one (a : Nat) : wrap64 (wrap64 (-(IntKind.u64.wrap ((a : Int) * 2) / 2)) - 1) = -(IntKind.u64.wrap ((a : Int) * 2) / 2) - 1 := by
  have e2 : IntKind.u64.wrap ((a : Int) * 2) = (a : Int) * 2 % 18446744073709551616 := by simp [IntKind.wrap, IntKind.bits, IntKind.signed]
  rw [e2]
  unfold wrap64
  omega
theorem grown_drewN (w : World) (n : Nat) : Grown w (w.drewN n) := Grown.refl w
theorem hide {p : Prop} (h : p) : Hid p := h
theorem unhide {p : Prop} (h : Hid p) : p := h

theorem bits_run (b : Nat) (w : World) : (callFunc 35 #[.float .f64 b]).run Try.prog w = .ok (.value (.int .u64 b)) w := by
  rw [run_callFunc_extern Try.func35 (by kernel_rfl) (by kernel_rfl) (by kernel_rfl) (f := 35) (e := Extern.MathFloatBits.float64bits) (by kernel_rfl)]
  rfl

theorem from_run (b : Nat) (w : World) : (callFunc 14 #[.int .u64 b]).run Try.prog w = .ok (.value (.float .f64 b)) w := by
  rw [run_callFunc_extern Try.func14 (by kernel_rfl) (by kernel_rfl) (by kernel_rfl) (f := 14) (e := Extern.MathFloatBits.float64frombits) (by kernel_rfl)]
  rfl

theorem isNone_6 (a : Nat) (w : World) : Calls Try.prog 29 #[.float .f64 a] w fun e w' => e = .returned (.bool (nanK .f64 a)) ∧ w' = w := by
  have c := cmp_ne .f64
  have s := eqK_self .f64
  go_enter Try.func29, Try.ntmps29
  go_wp2
  go_ret
  exact ⟨by simp, rfl⟩

theorem isMinusNought_6 (a : Nat) (w : World) : Calls Try.prog 30 #[.float .f64 a] w fun e w' => e = .returned (.bool (mzK .f64 a)) ∧ w' = w := by
  have c1 := cmp_eq .f64
  have c2 := cmp_lt .f64
  have s := eqK_nought .f64
  have q := run_quo Try.prog
  by_cases h : rgK .f64 a = 0
  · have m := mz_of .f64 a w h
    have d := quo_one_draws .f64 a h
    unfold oneK at m d
    go_enter Try.func30, Try.ntmps30
    go_wp2
    go_ret
    exact ⟨by simp [mzK, h], rfl⟩
  · go_enter Try.func30, Try.ntmps30
    go_wp2
    go_ret
    exact ⟨by simp [mzK, h], rfl⟩

theorem same_6 (a b : Nat) (w : World) (ha : okK .f64 a) (hb : okK .f64 b) : Calls Try.prog 19 #[.float .f64 a, .float .f64 b] w fun e w' => e = .returned (.bool (smK .f64 a b)) ∧ w' = w := by
  have c1 := cmp_eq .f64
  cases na : nanK .f64 a <;> cases nb : nanK .f64 b
  · have hs := smK_of .f64 a b ha hb na nb
    by_cases he : eqK .f64 a b = true
    all_goals
      go_enter Try.func19, Try.ntmps19
      go_wp2_with (first | (go_at_call 29; refine (isNone_6 _ _).mono ?_; rintro e w' ⟨rfl, rfl⟩) | (go_at_call 30; refine (isMinusNought_6 _ _).mono ?_; rintro e w' ⟨rfl, rfl⟩))
      go_ret
      exact ⟨by simp [hs, he], rfl⟩
  all_goals
    have hs : smK .f64 a b = (nanK .f64 a && nanK .f64 b) := by unfold smK; simp [na, nb]
    go_enter Try.func19, Try.ntmps19
    go_wp2_with (first | (go_at_call 29; refine (isNone_6 _ _).mono ?_; rintro e w' ⟨rfl, rfl⟩) | (go_at_call 30; refine (isMinusNought_6 _ _).mono ?_; rintro e w' ⟨rfl, rfl⟩))
    go_ret
    exact ⟨by simp [hs, na, nb], rfl⟩

end Go.Proofs.Ytbphmjfgpkjecab
