/-
  What each function of package num answers, and what the reference of its chapter answers: one contract a function, for every float, no world changed but for draws of no numbers.
-/
import Derived.Test.YtfohggiehbplkaaRows
import Derived.Test.YtfohggiehbplkaaFlt
import Derived.WalkKit
import Derived.WalkLawsBesides
import Derived.WalkSpells
import Derived.ProofKit
import Derived.OpenShut
namespace Go.Proofs.Ytfohggiehbplkaa
open Go.ChangeShapes Go.WideShapes Go.ChangeAt Go.RowKit

theorem bits_run (b : Nat) (w : World) : (callFunc 64 #[.float .f64 b]).run Try.prog w = .ok (.value (.int .u64 b)) w := by
  rw [run_callFunc_extern Try.func64 (by kernel_rfl) (by kernel_rfl) (by kernel_rfl) (f := 64) (e := Extern.MathFloatBits.float64bits) (by kernel_rfl)]
  rfl

theorem isNone_6 (a : Nat) (w : World) : Calls Try.prog 128 #[.float .f64 a] w fun e w' => e = .returned (.bool (nanK .f64 a)) ∧ w' = w := by
  have c := cmp_ne .f64
  have s := eqK_self .f64
  go_enter Try.func128, Try.ntmps128
  go_wp2
  go_ret
  exact ⟨by simp, rfl⟩

theorem isMinusNought_6 (a : Nat) (w : World) : Calls Try.prog 129 #[.float .f64 a] w fun e w' => e = .returned (.bool (mzK .f64 a)) ∧ w' = w := by
  have c1 := cmp_eq .f64
  have c2 := cmp_lt .f64
  have s := eqK_nought .f64
  have q := run_quo Try.prog
  by_cases h : rgK .f64 a = 0
  · have m := mz_of .f64 a w h
    have d := quo_one_draws .f64 a h
    unfold oneK at m d
    go_enter Try.func129, Try.ntmps129
    go_wp2
    go_ret
    exact ⟨by simp [mzK, h], rfl⟩
  · go_enter Try.func129, Try.ntmps129
    go_wp2
    go_ret
    exact ⟨by simp [mzK, h], rfl⟩

theorem finite_6 (a : Nat) (w : World) : Calls Try.prog 99 #[.float .f64 a] w fun e w' => ∃ n, e = .returned (.bool (finK .f64 a)) ∧ w' = w.drewN n := by
  have c1 := cmp_eq .f64
  have q := run_sub Try.prog
  have s := self_sub .f64 a
  go_enter Try.func99, Try.ntmps99
  go_wp2
  go_ret
  exact ⟨_, by simp, rfl⟩

theorem clamp_6 (a b c : Nat) (w : World) : Calls Try.prog 100 #[.float .f64 a, .float .f64 b, .float .f64 c] w fun e w' => e = .returned (.float .f64 (clK .f64 a b c)) ∧ w' = w := by
  have c1 := cmp_gt .f64
  cases h1 : ltK .f64 b a
  · go_enter Try.func100, Try.ntmps100
    go_wp2
    go_ret
    exact ⟨by simp [clK, h1], rfl⟩
  · cases h2 : ltK .f64 c a
    all_goals
      go_enter Try.func100, Try.ntmps100
      go_wp2
      go_ret
      exact ⟨by simp [clK, h1, h2], rfl⟩

theorem most_6 (a b : Nat) (w : World) : Calls Try.prog 78 #[.float .f64 a, .float .f64 b] w fun e w' => e = .returned (.float .f64 (mostK .f64 a b)) ∧ w' = w := by
  have c1 := cmp_gt .f64
  have c2 := cmp_eq .f64
  have c3 := eqK_nought .f64
  cases h1 : nanK .f64 a
  · cases h2 : ltK .f64 a b
    · cases h3 : mzK .f64 a
      · go_enter Try.func78, Try.ntmps78
        go_wp2_with (first | (go_at_call 128; refine (isNone_6 _ _).mono ?_; rintro e w' ⟨rfl, rfl⟩) | (go_at_call 129; refine (isMinusNought_6 _ _).mono ?_; rintro e w' ⟨rfl, rfl⟩))
        go_ret
        exact ⟨by simp [mostK, h1, h2, h3], rfl⟩
      · by_cases h4 : rgK .f64 b = 0
        all_goals
          go_enter Try.func78, Try.ntmps78
          go_wp2_with (first | (go_at_call 128; refine (isNone_6 _ _).mono ?_; rintro e w' ⟨rfl, rfl⟩) | (go_at_call 129; refine (isMinusNought_6 _ _).mono ?_; rintro e w' ⟨rfl, rfl⟩))
          go_ret
          exact ⟨by simp [mostK, h1, h2, h3, h4], rfl⟩
    · go_enter Try.func78, Try.ntmps78
      go_wp2_with (first | (go_at_call 128; refine (isNone_6 _ _).mono ?_; rintro e w' ⟨rfl, rfl⟩) | (go_at_call 129; refine (isMinusNought_6 _ _).mono ?_; rintro e w' ⟨rfl, rfl⟩))
      go_ret
      exact ⟨by simp [mostK, h2], rfl⟩
  · go_enter Try.func78, Try.ntmps78
    go_wp2_with (first | (go_at_call 128; refine (isNone_6 _ _).mono ?_; rintro e w' ⟨rfl, rfl⟩) | (go_at_call 129; refine (isMinusNought_6 _ _).mono ?_; rintro e w' ⟨rfl, rfl⟩))
    go_ret
    exact ⟨by simp [mostK, h1], rfl⟩

end Go.Proofs.Ytfohggiehbplkaa
