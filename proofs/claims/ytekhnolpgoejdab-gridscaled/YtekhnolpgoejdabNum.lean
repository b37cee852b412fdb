/-
  What each function of package num answers, and what the reference of its chapter answers: one contract a function, for every float, no world changed but for draws of no numbers.
-/
import Derived.Test.YtekhnolpgoejdabRows
import Derived.Test.YtekhnolpgoejdabFlt
import Derived.WalkKit
import Derived.WalkLawsBesides
import Derived.WalkSpells
import Derived.ProofKit
import Derived.OpenShut
namespace Go.Proofs.Ytekhnolpgoejdab
open Go.ChangeShapes Go.WideShapes Go.ChangeAt Go.RowKit

theorem less_one (a : Nat) : wrap64 (wrap64 (-(IntKind.u64.wrap ((a : Int) * 2) / 2)) - 1) = -(IntKind.u64.wrap ((a : Int) * 2) / 2) - 1 := by
  have e2 : IntKind.u64.wrap ((a : Int) * 2) = (a : Int) * 2 % 18446744073709551616 := by simp [IntKind.wrap, IntKind.bits, IntKind.signed]
  rw [e2]
  unfold wrap64
  omega
theorem grown_drewN (w : World) (n : Nat) : Grown w (w.drewN n) := Grown.refl w
theorem hide {p : Prop} (h : p) : Hid p := h
theorem unhide {p : Prop} (h : Hid p) : p := h

theorem bits_run (b : Nat) (w : World) : (callFunc 33 #[.float .f64 b]).run Try.prog w = .ok (.value (.int .u64 b)) w := by
  rw [run_callFunc_extern Try.func33 (by kernel_rfl) (by kernel_rfl) (by kernel_rfl) (f := 33) (e := Extern.MathFloatBits.float64bits) (by kernel_rfl)]
  rfl

theorem from_run (b : Nat) (w : World) : (callFunc 32 #[.int .u64 b]).run Try.prog w = .ok (.value (.float .f64 b)) w := by
  rw [run_callFunc_extern Try.func32 (by kernel_rfl) (by kernel_rfl) (by kernel_rfl) (f := 32) (e := Extern.MathFloatBits.float64frombits) (by kernel_rfl)]
  rfl

theorem isNone_6 (a : Nat) (w : World) : Calls Try.prog 87 #[.float .f64 a] w fun e w' => e = .returned (.bool (nanK .f64 a)) ∧ w' = w := by
  have c := cmp_ne .f64
  have s := eqK_self .f64
  go_enter Try.func87, Try.ntmps87
  go_wp2
  go_ret
  exact ⟨by simp, rfl⟩

theorem isMinusNought_6 (a : Nat) (w : World) : Calls Try.prog 88 #[.float .f64 a] w fun e w' => e = .returned (.bool (mzK .f64 a)) ∧ w' = w := by
  have c1 := cmp_eq .f64
  have c2 := cmp_lt .f64
  have s := eqK_nought .f64
  have q := run_quo Try.prog
  by_cases h : rgK .f64 a = 0
  · have m := mz_of .f64 a w h
    have d := quo_one_draws .f64 a h
    unfold oneK at m d
    go_enter Try.func88, Try.ntmps88
    go_wp2
    go_ret
    exact ⟨by simp [mzK, h], rfl⟩
  · go_enter Try.func88, Try.ntmps88
    go_wp2
    go_ret
    exact ⟨by simp [mzK, h], rfl⟩

theorem same_6 (a b : Nat) (w : World) (ha : okK .f64 a) (hb : okK .f64 b) : Calls Try.prog 59 #[.float .f64 a, .float .f64 b] w fun e w' => e = .returned (.bool (smK .f64 a b)) ∧ w' = w := by
  have c1 := cmp_eq .f64
  cases na : nanK .f64 a <;> cases nb : nanK .f64 b
  · have hs := smK_of .f64 a b ha hb na nb
    by_cases he : eqK .f64 a b = true
    all_goals
      go_enter Try.func59, Try.ntmps59
      go_wp2_with (first | (go_at_call 87; refine (isNone_6 _ _).mono ?_; rintro e w' ⟨rfl, rfl⟩) | (go_at_call 88; refine (isMinusNought_6 _ _).mono ?_; rintro e w' ⟨rfl, rfl⟩))
      go_ret
      exact ⟨by simp [hs, he], rfl⟩
  all_goals
    have hs : smK .f64 a b = (nanK .f64 a && nanK .f64 b) := by unfold smK; simp [na, nb]
    go_enter Try.func59, Try.ntmps59
    go_wp2_with (first | (go_at_call 87; refine (isNone_6 _ _).mono ?_; rintro e w' ⟨rfl, rfl⟩) | (go_at_call 88; refine (isMinusNought_6 _ _).mono ?_; rintro e w' ⟨rfl, rfl⟩))
    go_ret
    exact ⟨by simp [hs, na, nb], rfl⟩

theorem finite_6 (a : Nat) (w : World) : Calls Try.prog 49 #[.float .f64 a] w fun e w' => ∃ n, e = .returned (.bool (finK .f64 a)) ∧ w' = w.drewN n := by
  have c1 := cmp_eq .f64
  have q := run_sub Try.prog
  have s := self_sub .f64 a
  go_enter Try.func49, Try.ntmps49
  go_wp2
  go_ret
  exact ⟨_, by simp, rfl⟩

theorem within_6 (a b : Nat) (w : World) : Calls Try.prog 34 #[.float .f64 a, .float .f64 b] w fun e w' => e = .returned (.bool (withinK .f64 a b)) ∧ w' = w := by
  have c1 := cmp_le .f64
  have c2 := run_neg Try.prog
  cases h : leK .f64 (Op.negFloat .f64 b) a
  all_goals
    go_enter Try.func34, Try.ntmps34
    go_wp2
    go_ret
    exact ⟨by simp [withinK, h], rfl⟩

theorem clamp_6 (a b c : Nat) (w : World) : Calls Try.prog 77 #[.float .f64 a, .float .f64 b, .float .f64 c] w fun e w' => e = .returned (.float .f64 (clK .f64 a b c)) ∧ w' = w := by
  have c1 := cmp_gt .f64
  cases h1 : ltK .f64 b a
  · go_enter Try.func77, Try.ntmps77
    go_wp2
    go_ret
    exact ⟨by simp [clK, h1], rfl⟩
  · cases h2 : ltK .f64 c a
    all_goals
      go_enter Try.func77, Try.ntmps77
      go_wp2
      go_ret
      exact ⟨by simp [clK, h1, h2], rfl⟩

theorem isAhead_any (a b : Nat) (w : World) : Calls Try.prog 60 #[.float .f64 a, .float .f64 b] w fun e w' => e = .returned (.bool (aheadK a b)) ∧ w' = w := by
  have c1 := cmp_lt .f64
  have c2 := cmp_eq .f64
  cases na : nanK .f64 a <;> cases nb : nanK .f64 b
  · cases h1 : ltK .f64 a b
    · cases h2 : eqK .f64 a b
      all_goals
        go_enter Try.func60, Try.ntmps60
        go_wp2_with (first | (go_at_call 87; refine (isNone_6 _ _).mono ?_; rintro e w' ⟨rfl, rfl⟩) | (go_at_call 88; refine (isMinusNought_6 _ _).mono ?_; rintro e w' ⟨rfl, rfl⟩))
        go_ret
        exact ⟨by simp [aheadK, na, nb, h1, h2], rfl⟩
    · go_enter Try.func60, Try.ntmps60
      go_wp2_with (first | (go_at_call 87; refine (isNone_6 _ _).mono ?_; rintro e w' ⟨rfl, rfl⟩) | (go_at_call 88; refine (isMinusNought_6 _ _).mono ?_; rintro e w' ⟨rfl, rfl⟩))
      go_ret
      exact ⟨by simp [aheadK, na, nb, h1], rfl⟩
  all_goals
    go_enter Try.func60, Try.ntmps60
    go_wp2_with (first | (go_at_call 87; refine (isNone_6 _ _).mono ?_; rintro e w' ⟨rfl, rfl⟩) | (go_at_call 88; refine (isMinusNought_6 _ _).mono ?_; rintro e w' ⟨rfl, rfl⟩))
    go_ret
    exact ⟨by simp [aheadK, na, nb], rfl⟩

theorem order_any (a b : Nat) (w : World) (ha : okK .f64 a) (hb : okK .f64 b) : Calls Try.prog 40 #[.float .f64 a, .float .f64 b] w fun e w' => e = .returned (.int .i64 (ordK a b)) ∧ w' = w := by
  cases h1 : smK .f64 a b
  · cases h2 : aheadK a b
    all_goals
      go_enter Try.func40, Try.ntmps40
      go_wp2_with (first | (go_at_call 59; refine (same_6 _ _ _ ha hb).mono ?_; rintro e w' ⟨rfl, rfl⟩) | (go_at_call 60; refine (isAhead_any _ _ _).mono ?_; rintro e w' ⟨rfl, rfl⟩))
      go_ret
      exact ⟨by simp [ordK, h1, h2], rfl⟩
  · go_enter Try.func40, Try.ntmps40
    go_wp2_with (first | (go_at_call 59; refine (same_6 _ _ _ ha hb).mono ?_; rintro e w' ⟨rfl, rfl⟩) | (go_at_call 60; refine (isAhead_any _ _ _).mono ?_; rintro e w' ⟨rfl, rfl⟩))
    go_ret
    exact ⟨by simp [ordK, h1], rfl⟩

end Go.Proofs.Ytekhnolpgoejdab
