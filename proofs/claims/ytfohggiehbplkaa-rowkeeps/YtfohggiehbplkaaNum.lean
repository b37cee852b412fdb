/-
  What each function of package num answers, and what the reference of its chapter answers: one contract a function, for every float, no world changed but for draws of no numbers.
-/
import Derived.Test.YtfohggiehbplkaaRows
import Derived.Test.YtfohggiehbplkaaFlt
import Derived.WalkKit
import Derived.WalkLawsBesides
import Derived.WalkSpells
import Derived.ProofKit
import Derived.OpenShut
namespace Go.Proofs.Ytfohggiehbplkaa
open Go.ChangeShapes Go.WideShapes Go.ChangeAt Go.RowKit

theorem less_one (a : Nat) : wrap64 (wrap64 (-(IntKind.u64.wrap ((a : Int) * 2) / 2)) - 1) = -(IntKind.u64.wrap ((a : Int) * 2) / 2) - 1 := by
  have e2 : IntKind.u64.wrap ((a : Int) * 2) = (a : Int) * 2 % 18446744073709551616 := by simp [IntKind.wrap, IntKind.bits, IntKind.signed]
  rw [e2]
  unfold wrap64
  omega
theorem grown_drewN (w : World) (n : Nat) : Grown w (w.drewN n) := Grown.refl w
theorem hide {p : Prop} (h : p) : Hid p := h
theorem unhide {p : Prop} (h : Hid p) : p := h

theorem bits_run (b : Nat) (w : World) : (callFunc 64 #[.float .f64 b]).run Try.prog w = .ok (.value (.int .u64 b)) w := by
  rw [run_callFunc_extern Try.func64 (by kernel_rfl) (by kernel_rfl) (by kernel_rfl) (f := 64) (e := Extern.MathFloatBits.float64bits) (by kernel_rfl)]
  rfl

theorem from_run (b : Nat) (w : World) : (callFunc 63 #[.int .u64 b]).run Try.prog w = .ok (.value (.float .f64 b)) w := by
  rw [run_callFunc_extern Try.func63 (by kernel_rfl) (by kernel_rfl) (by kernel_rfl) (f := 63) (e := Extern.MathFloatBits.float64frombits) (by kernel_rfl)]
  rfl

theorem isNone_6 (a : Nat) (w : World) : Calls Try.prog 128 #[.float .f64 a] w fun e w' => e = .returned (.bool (nanK .f64 a)) ∧ w' = w := by
  have c := cmp_ne .f64
  have s := eqK_self .f64
  go_enter Try.func128, Try.ntmps128
  go_wp2
  go_ret
  exact ⟨by simp, rfl⟩

theorem isMinusNought_6 (a : Nat) (w : World) : Calls Try.prog 129 #[.float .f64 a] w fun e w' => e = .returned (.bool (mzK .f64 a)) ∧ w' = w := by
  have c1 := cmp_eq .f64
  have c2 := cmp_lt .f64
  have s := eqK_nought .f64
  have q := run_quo Try.prog
  by_cases h : rgK .f64 a = 0
  · have m := mz_of .f64 a w h
    have d := quo_one_draws .f64 a h
    unfold oneK at m d
    go_enter Try.func129, Try.ntmps129
    go_wp2
    go_ret
    exact ⟨by simp [mzK, h], rfl⟩
  · go_enter Try.func129, Try.ntmps129
    go_wp2
    go_ret
    exact ⟨by simp [mzK, h], rfl⟩

theorem finite_6 (a : Nat) (w : World) : Calls Try.prog 99 #[.float .f64 a] w fun e w' => ∃ n, e = .returned (.bool (finK .f64 a)) ∧ w' = w.drewN n := by
  have c1 := cmp_eq .f64
  have q := run_sub Try.prog
  have s := self_sub .f64 a
  go_enter Try.func99, Try.ntmps99
  go_wp2
  go_ret
  exact ⟨_, by simp, rfl⟩

theorem within_6 (a b : Nat) (w : World) : Calls Try.prog 93 #[.float .f64 a, .float .f64 b] w fun e w' => e = .returned (.bool (withinK .f64 a b)) ∧ w' = w := by
  have c1 := cmp_le .f64
  have c2 := run_neg Try.prog
  cases h : leK .f64 (Op.negFloat .f64 b) a
  all_goals
    go_enter Try.func93, Try.ntmps93
    go_wp2
    go_ret
    exact ⟨by simp [withinK, h], rfl⟩

theorem clamp_6 (a b c : Nat) (w : World) : Calls Try.prog 100 #[.float .f64 a, .float .f64 b, .float .f64 c] w fun e w' => e = .returned (.float .f64 (clK .f64 a b c)) ∧ w' = w := by
  have c1 := cmp_gt .f64
  cases h1 : ltK .f64 b a
  · go_enter Try.func100, Try.ntmps100
    go_wp2
    go_ret
    exact ⟨by simp [clK, h1], rfl⟩
  · cases h2 : ltK .f64 c a
    all_goals
      go_enter Try.func100, Try.ntmps100
      go_wp2
      go_ret
      exact ⟨by simp [clK, h1, h2], rfl⟩

theorem most_6 (a b : Nat) (w : World) : Calls Try.prog 78 #[.float .f64 a, .float .f64 b] w fun e w' => e = .returned (.float .f64 (mostK .f64 a b)) ∧ w' = w := by
  have c1 := cmp_gt .f64
  have c2 := cmp_eq .f64
  have c3 := eqK_nought .f64
  cases h1 : nanK .f64 a
  · cases h2 : ltK .f64 a b
    · cases h3 : mzK .f64 a
      · go_enter Try.func78, Try.ntmps78
        go_wp2_with (first | (go_at_call 128; refine (isNone_6 _ _).mono ?_; rintro e w' ⟨rfl, rfl⟩) | (go_at_call 129; refine (isMinusNought_6 _ _).mono ?_; rintro e w' ⟨rfl, rfl⟩))
        go_ret
        exact ⟨by simp [mostK, h1, h2, h3], rfl⟩
      · by_cases h4 : rgK .f64 b = 0
        all_goals
          go_enter Try.func78, Try.ntmps78
          go_wp2_with (first | (go_at_call 128; refine (isNone_6 _ _).mono ?_; rintro e w' ⟨rfl, rfl⟩) | (go_at_call 129; refine (isMinusNought_6 _ _).mono ?_; rintro e w' ⟨rfl, rfl⟩))
          go_ret
          exact ⟨by simp [mostK, h1, h2, h3, h4], rfl⟩
    · go_enter Try.func78, Try.ntmps78
      go_wp2_with (first | (go_at_call 128; refine (isNone_6 _ _).mono ?_; rintro e w' ⟨rfl, rfl⟩) | (go_at_call 129; refine (isMinusNought_6 _ _).mono ?_; rintro e w' ⟨rfl, rfl⟩))
      go_ret
      exact ⟨by simp [mostK, h2], rfl⟩
  · go_enter Try.func78, Try.ntmps78
    go_wp2_with (first | (go_at_call 128; refine (isNone_6 _ _).mono ?_; rintro e w' ⟨rfl, rfl⟩) | (go_at_call 129; refine (isMinusNought_6 _ _).mono ?_; rintro e w' ⟨rfl, rfl⟩))
    go_ret
    exact ⟨by simp [mostK, h1], rfl⟩

theorem rNone_any (a : Nat) (w : World) (ha : okK .f64 a) : Calls Try.prog 130 #[.float .f64 a] w fun e w' => e = .returned (.bool (nanK .f64 a)) ∧ w' = w := by
  have hb := bits_run
  have hn := nan_bits a ha
  by_cases h : bits .and .u64 ((a : Int) / 4503599627370496) 2047 = 2047
  all_goals
    go_enter Try.func130, Try.ntmps130
    go_wp2
    go_ret
    exact ⟨by rw [hn]; simp [h], rfl⟩

theorem n1Same_any (a b : Nat) (w : World) (ha : okK .f64 a) (hb : okK .f64 b) : Calls Try.prog 151 #[.float .f64 a, .float .f64 b] w fun e w' => e = .returned (.bool (smK .f64 a b)) ∧ w' = w := by
  have hbr := bits_run
  cases na : nanK .f64 a <;> cases nb : nanK .f64 b
  all_goals
    go_enter Try.func151, Try.ntmps151
    go_wp2_with (first | (go_at_call 130; refine (rNone_any _ _ (by assumption)).mono ?_; rintro e w' ⟨rfl, rfl⟩))
    go_ret
    exact ⟨by simp [smK, na, nb, beq_cast], rfl⟩

theorem rPlace_any (a : Nat) (w : World) (ha : okK .f64 a) : Calls Try.prog 131 #[.float .f64 a] w fun e w' => e = .returned (.int .i64 (plK a)) ∧ w' = w := by
  have hb := bits_run
  have hp := hide (plK_bits a ha)
  have hw := half_wrap a
  have hv := less_one a
  by_cases h : (a : Int) / 9223372036854775808 = 1
  all_goals
    go_enter Try.func131, Try.ntmps131
    go_wp2
    go_ret
    exact ⟨by rw [unhide hp]; simp [h, hv], rfl⟩

theorem rWorth_any (a : Nat) (w : World) (ha : okK .f64 a) : Calls Try.prog 154 #[.float .f64 a] w fun e w' => e = .returned (.int .i64 (wtK a)) ∧ w' = w := by
  by_cases h : plK a = -1
  all_goals
    go_enter Try.func154, Try.ntmps154
    go_wp2_with (first | (go_at_call 131; refine (rPlace_any _ _ (by assumption)).mono ?_; rintro e w' ⟨rfl, rfl⟩))
    go_ret
    exact ⟨by simp [wtK, h], rfl⟩

theorem rAbove_any (a b : Nat) (w : World) (ha : okK .f64 a) (hb : okK .f64 b) : Calls Try.prog 150 #[.float .f64 a, .float .f64 b] w fun e w' => e = .returned (.bool (ltK .f64 b a)) ∧ w' = w := by
  have hw := wtK_lt b a
  cases na : nanK .f64 a <;> cases nb : nanK .f64 b
  all_goals
    go_enter Try.func150, Try.ntmps150
    go_wp2_with (first | (go_at_call 130; refine (rNone_any _ _ (by assumption)).mono ?_; rintro e w' ⟨rfl, rfl⟩) | (go_at_call 154; refine (rWorth_any _ _ (by assumption)).mono ?_; rintro e w' ⟨rfl, rfl⟩))
    go_ret
    exact ⟨by simp [ltK, na, nb], rfl⟩

theorem rClamp_any (a b c : Nat) (w : World) (ha : okK .f64 a) (hb : okK .f64 b) (hc : okK .f64 c) : Calls Try.prog 126 #[.float .f64 a, .float .f64 b, .float .f64 c] w fun e w' => e = .returned (.float .f64 (clK .f64 a b c)) ∧ w' = w := by
  cases h1 : ltK .f64 b a
  · go_enter Try.func126, Try.ntmps126
    go_wp2_with (first | (go_at_call 150; refine (rAbove_any _ _ _ (by assumption) (by assumption)).mono ?_; rintro e w' ⟨rfl, rfl⟩))
    go_ret
    exact ⟨by simp [clK, h1], rfl⟩
  · cases h2 : ltK .f64 c a
    all_goals
      go_enter Try.func126, Try.ntmps126
      go_wp2_with (first | (go_at_call 150; refine (rAbove_any _ _ _ (by assumption) (by assumption)).mono ?_; rintro e w' ⟨rfl, rfl⟩))
      go_ret
      exact ⟨by simp [clK, h1, h2], rfl⟩

theorem rMost_any (a b : Nat) (w : World) (ha : okK .f64 a) (hb : okK .f64 b) : Calls Try.prog 80 #[.float .f64 a, .float .f64 b] w fun e w' => e = .returned (.float .f64 (mostK .f64 a b)) ∧ w' = w := by
  have hr := most_ref a b ha hb
  cases na : nanK .f64 a
  · cases nb : nanK .f64 b
    · by_cases h : plK b ≤ plK a
      · have hv := hide (show mostK .f64 a b = a by rw [hr, na, nb]; simp [h])
        clear hr
        go_enter Try.func80, Try.ntmps80
        go_wp2_with (first | (go_at_call 130; refine (rNone_any _ _ (by assumption)).mono ?_; rintro e w' ⟨rfl, rfl⟩) | (go_at_call 131; refine (rPlace_any _ _ (by assumption)).mono ?_; rintro e w' ⟨rfl, rfl⟩))
        go_ret
        exact ⟨by rw [unhide hv]; rfl, rfl⟩
      · have hv := hide (show mostK .f64 a b = b by rw [hr, na, nb]; simp [h])
        clear hr
        go_enter Try.func80, Try.ntmps80
        go_wp2_with (first | (go_at_call 130; refine (rNone_any _ _ (by assumption)).mono ?_; rintro e w' ⟨rfl, rfl⟩) | (go_at_call 131; refine (rPlace_any _ _ (by assumption)).mono ?_; rintro e w' ⟨rfl, rfl⟩))
        go_ret
        exact ⟨by rw [unhide hv]; rfl, rfl⟩
    · go_enter Try.func80, Try.ntmps80
      go_wp2_with (first | (go_at_call 130; refine (rNone_any _ _ (by assumption)).mono ?_; rintro e w' ⟨rfl, rfl⟩) | (go_at_call 131; refine (rPlace_any _ _ (by assumption)).mono ?_; rintro e w' ⟨rfl, rfl⟩))
      go_ret
      exact ⟨by simp [hr, na, nb], rfl⟩
  · go_enter Try.func80, Try.ntmps80
    go_wp2_with (first | (go_at_call 130; refine (rNone_any _ _ (by assumption)).mono ?_; rintro e w' ⟨rfl, rfl⟩) | (go_at_call 131; refine (rPlace_any _ _ (by assumption)).mono ?_; rintro e w' ⟨rfl, rfl⟩))
    go_ret
    exact ⟨by simp [hr, na], rfl⟩

end Go.Proofs.Ytfohggiehbplkaa
