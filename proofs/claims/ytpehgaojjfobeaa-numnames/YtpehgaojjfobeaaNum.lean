/-
  What each function of package num answers, and what the reference of its chapter answers: one contract a function, for every float, no world changed but for draws of no numbers.
-/
import Derived.Test.YtpehgaojjfobeaaRows
import Derived.Test.YtpehgaojjfobeaaFlt
import Derived.WalkKit
import Derived.WalkLawsBesides
import Derived.WalkSpells
import Derived.ProofKit
import Derived.OpenShut
namespace Go.Proofs.Ytpehgaojjfobeaa
open Go.ChangeShapes Go.WideShapes Go.ChangeAt Go.RowKit

theorem less_one (a : Nat) : wrap64 (wrap64 (-(IntKind.u64.wrap ((a : Int) * 2) / 2)) - 1) = -(IntKind.u64.wrap ((a : Int) * 2) / 2) - 1 := by
  have e2 : IntKind.u64.wrap ((a : Int) * 2) = (a : Int) * 2 % 18446744073709551616 := by simp [IntKind.wrap, IntKind.bits, IntKind.signed]
  rw [e2]
  unfold wrap64
  omega
theorem grown_drewN (w : World) (n : Nat) : Grown w (w.drewN n) := Grown.refl w
theorem hide {p : Prop} (h : p) : Hid p := h
theorem unhide {p : Prop} (h : Hid p) : p := h

theorem bits_run (b : Nat) (w : World) : (callFunc 63 #[.float .f64 b]).run Try.prog w = .ok (.value (.int .u64 b)) w := by
  rw [run_callFunc_extern Try.func63 (by kernel_rfl) (by kernel_rfl) (by kernel_rfl) (f := 63) (e := Extern.MathFloatBits.float64bits) (by kernel_rfl)]
  rfl

theorem from_run (b : Nat) (w : World) : (callFunc 62 #[.int .u64 b]).run Try.prog w = .ok (.value (.float .f64 b)) w := by
  rw [run_callFunc_extern Try.func62 (by kernel_rfl) (by kernel_rfl) (by kernel_rfl) (f := 62) (e := Extern.MathFloatBits.float64frombits) (by kernel_rfl)]
  rfl

theorem from32_run (b : Nat) (w : World) : (callFunc 67 #[.int .u32 b]).run Try.prog w = .ok (.value (.float .f32 b)) w := by
  rw [run_callFunc_extern Try.func67 (by kernel_rfl) (by kernel_rfl) (by kernel_rfl) (f := 67) (e := Extern.MathFloatBits.float32frombits) (by kernel_rfl)]
  rfl

theorem isNone_6 (a : Nat) (w : World) : Calls Try.prog 64 #[.float .f64 a] w fun e w' => e = .returned (.bool (nanK .f64 a)) ∧ w' = w := by
  have c := cmp_ne .f64
  have s := eqK_self .f64
  go_enter Try.func64, Try.ntmps64
  go_wp2
  go_ret
  exact ⟨by simp, rfl⟩

theorem isMinusNought_6 (a : Nat) (w : World) : Calls Try.prog 65 #[.float .f64 a] w fun e w' => e = .returned (.bool (mzK .f64 a)) ∧ w' = w := by
  have c1 := cmp_eq .f64
  have c2 := cmp_lt .f64
  have s := eqK_nought .f64
  have q := run_quo Try.prog
  by_cases h : rgK .f64 a = 0
  · have m := mz_of .f64 a w h
    have d := quo_one_draws .f64 a h
    unfold oneK at m d
    go_enter Try.func65, Try.ntmps65
    go_wp2
    go_ret
    exact ⟨by simp [mzK, h], rfl⟩
  · go_enter Try.func65, Try.ntmps65
    go_wp2
    go_ret
    exact ⟨by simp [mzK, h], rfl⟩

theorem same_6 (a b : Nat) (w : World) (ha : okK .f64 a) (hb : okK .f64 b) : Calls Try.prog 25 #[.float .f64 a, .float .f64 b] w fun e w' => e = .returned (.bool (smK .f64 a b)) ∧ w' = w := by
  have c1 := cmp_eq .f64
  cases na : nanK .f64 a <;> cases nb : nanK .f64 b
  · have hs := smK_of .f64 a b ha hb na nb
    by_cases he : eqK .f64 a b = true
    all_goals
      go_enter Try.func25, Try.ntmps25
      go_wp2_with (first | (go_at_call 64; refine (isNone_6 _ _).mono ?_; rintro e w' ⟨rfl, rfl⟩) | (go_at_call 65; refine (isMinusNought_6 _ _).mono ?_; rintro e w' ⟨rfl, rfl⟩))
      go_ret
      exact ⟨by simp [hs, he], rfl⟩
  all_goals
    have hs : smK .f64 a b = (nanK .f64 a && nanK .f64 b) := by unfold smK; simp [na, nb]
    go_enter Try.func25, Try.ntmps25
    go_wp2_with (first | (go_at_call 64; refine (isNone_6 _ _).mono ?_; rintro e w' ⟨rfl, rfl⟩) | (go_at_call 65; refine (isMinusNought_6 _ _).mono ?_; rintro e w' ⟨rfl, rfl⟩))
    go_ret
    exact ⟨by simp [hs, na, nb], rfl⟩

theorem finite_6 (a : Nat) (w : World) : Calls Try.prog 12 #[.float .f64 a] w fun e w' => ∃ n, e = .returned (.bool (finK .f64 a)) ∧ w' = w.drewN n := by
  have c1 := cmp_eq .f64
  have q := run_sub Try.prog
  have s := self_sub .f64 a
  go_enter Try.func12, Try.ntmps12
  go_wp2
  go_ret
  exact ⟨_, by simp, rfl⟩

theorem within_6 (a b : Nat) (w : World) : Calls Try.prog 13 #[.float .f64 a, .float .f64 b] w fun e w' => e = .returned (.bool (withinK .f64 a b)) ∧ w' = w := by
  have c1 := cmp_le .f64
  have c2 := run_neg Try.prog
  cases h : leK .f64 (Op.negFloat .f64 b) a
  all_goals
    go_enter Try.func13, Try.ntmps13
    go_wp2
    go_ret
    exact ⟨by simp [withinK, h], rfl⟩

theorem clamp_6 (a b c : Nat) (w : World) : Calls Try.prog 14 #[.float .f64 a, .float .f64 b, .float .f64 c] w fun e w' => e = .returned (.float .f64 (clK .f64 a b c)) ∧ w' = w := by
  have c1 := cmp_gt .f64
  cases h1 : ltK .f64 b a
  · go_enter Try.func14, Try.ntmps14
    go_wp2
    go_ret
    exact ⟨by simp [clK, h1], rfl⟩
  · cases h2 : ltK .f64 c a
    all_goals
      go_enter Try.func14, Try.ntmps14
      go_wp2
      go_ret
      exact ⟨by simp [clK, h1, h2], rfl⟩

theorem least_6 (a b : Nat) (w : World) : Calls Try.prog 43 #[.float .f64 a, .float .f64 b] w fun e w' => e = .returned (.float .f64 (leastK .f64 a b)) ∧ w' = w := by
  have c1 := cmp_lt .f64
  have c2 := cmp_eq .f64
  have c3 := eqK_nought .f64
  cases h1 : nanK .f64 a
  · cases h2 : ltK .f64 b a
    · cases h3 : mzK .f64 b
      · go_enter Try.func43, Try.ntmps43
        go_wp2_with (first | (go_at_call 64; refine (isNone_6 _ _).mono ?_; rintro e w' ⟨rfl, rfl⟩) | (go_at_call 65; refine (isMinusNought_6 _ _).mono ?_; rintro e w' ⟨rfl, rfl⟩))
        go_ret
        exact ⟨by simp [leastK, h1, h2, h3], rfl⟩
      · by_cases h4 : rgK .f64 a = 0
        all_goals
          go_enter Try.func43, Try.ntmps43
          go_wp2_with (first | (go_at_call 64; refine (isNone_6 _ _).mono ?_; rintro e w' ⟨rfl, rfl⟩) | (go_at_call 65; refine (isMinusNought_6 _ _).mono ?_; rintro e w' ⟨rfl, rfl⟩))
          go_ret
          exact ⟨by simp [leastK, h1, h2, h3, h4], rfl⟩
    · go_enter Try.func43, Try.ntmps43
      go_wp2_with (first | (go_at_call 64; refine (isNone_6 _ _).mono ?_; rintro e w' ⟨rfl, rfl⟩) | (go_at_call 65; refine (isMinusNought_6 _ _).mono ?_; rintro e w' ⟨rfl, rfl⟩))
      go_ret
      exact ⟨by simp [leastK, h2], rfl⟩
  · go_enter Try.func43, Try.ntmps43
    go_wp2_with (first | (go_at_call 64; refine (isNone_6 _ _).mono ?_; rintro e w' ⟨rfl, rfl⟩) | (go_at_call 65; refine (isMinusNought_6 _ _).mono ?_; rintro e w' ⟨rfl, rfl⟩))
    go_ret
    exact ⟨by simp [leastK, h1], rfl⟩

theorem most_6 (a b : Nat) (w : World) : Calls Try.prog 15 #[.float .f64 a, .float .f64 b] w fun e w' => e = .returned (.float .f64 (mostK .f64 a b)) ∧ w' = w := by
  have c1 := cmp_gt .f64
  have c2 := cmp_eq .f64
  have c3 := eqK_nought .f64
  cases h1 : nanK .f64 a
  · cases h2 : ltK .f64 a b
    · cases h3 : mzK .f64 a
      · go_enter Try.func15, Try.ntmps15
        go_wp2_with (first | (go_at_call 64; refine (isNone_6 _ _).mono ?_; rintro e w' ⟨rfl, rfl⟩) | (go_at_call 65; refine (isMinusNought_6 _ _).mono ?_; rintro e w' ⟨rfl, rfl⟩))
        go_ret
        exact ⟨by simp [mostK, h1, h2, h3], rfl⟩
      · by_cases h4 : rgK .f64 b = 0
        all_goals
          go_enter Try.func15, Try.ntmps15
          go_wp2_with (first | (go_at_call 64; refine (isNone_6 _ _).mono ?_; rintro e w' ⟨rfl, rfl⟩) | (go_at_call 65; refine (isMinusNought_6 _ _).mono ?_; rintro e w' ⟨rfl, rfl⟩))
          go_ret
          exact ⟨by simp [mostK, h1, h2, h3, h4], rfl⟩
    · go_enter Try.func15, Try.ntmps15
      go_wp2_with (first | (go_at_call 64; refine (isNone_6 _ _).mono ?_; rintro e w' ⟨rfl, rfl⟩) | (go_at_call 65; refine (isMinusNought_6 _ _).mono ?_; rintro e w' ⟨rfl, rfl⟩))
      go_ret
      exact ⟨by simp [mostK, h2], rfl⟩
  · go_enter Try.func15, Try.ntmps15
    go_wp2_with (first | (go_at_call 64; refine (isNone_6 _ _).mono ?_; rintro e w' ⟨rfl, rfl⟩) | (go_at_call 65; refine (isMinusNought_6 _ _).mono ?_; rintro e w' ⟨rfl, rfl⟩))
    go_ret
    exact ⟨by simp [mostK, h1], rfl⟩

theorem sign_6 (a : Nat) (w : World) : Calls Try.prog 17 #[.float .f64 a] w fun e w' => e = .returned (.int .i64 (sgK .f64 a)) ∧ w' = w := by
  have c1 := cmp_lt .f64
  have c2 := cmp_gt .f64
  cases h1 : ltK .f64 0 a
  · cases h2 : ltK .f64 a 0
    all_goals
      go_enter Try.func17, Try.ntmps17
      go_wp2
      go_ret
      exact ⟨by simp [sgK, h1, h2], rfl⟩
  · go_enter Try.func17, Try.ntmps17
    go_wp2
    go_ret
    exact ⟨by simp [sgK, h1], rfl⟩

theorem isNone_h (a : Nat) (w : World) : Calls Try.prog 69 #[.float .f64 a] w fun e w' => e = .returned (.bool (nanK .f64 a)) ∧ w' = w := by
  have c := cmp_ne .f64
  have s := eqK_self .f64
  go_enter Try.func69, Try.ntmps69
  go_wp2
  go_ret
  exact ⟨by simp, rfl⟩

theorem isMinusNought_h (a : Nat) (w : World) : Calls Try.prog 70 #[.float .f64 a] w fun e w' => e = .returned (.bool (mzK .f64 a)) ∧ w' = w := by
  have c1 := cmp_eq .f64
  have c2 := cmp_lt .f64
  have s := eqK_nought .f64
  have q := run_quo Try.prog
  by_cases h : rgK .f64 a = 0
  · have m := mz_of .f64 a w h
    have d := quo_one_draws .f64 a h
    unfold oneK at m d
    go_enter Try.func70, Try.ntmps70
    go_wp2
    go_ret
    exact ⟨by simp [mzK, h], rfl⟩
  · go_enter Try.func70, Try.ntmps70
    go_wp2
    go_ret
    exact ⟨by simp [mzK, h], rfl⟩

theorem same_h (a b : Nat) (w : World) (ha : okK .f64 a) (hb : okK .f64 b) : Calls Try.prog 27 #[.float .f64 a, .float .f64 b] w fun e w' => e = .returned (.bool (smK .f64 a b)) ∧ w' = w := by
  have c1 := cmp_eq .f64
  cases na : nanK .f64 a <;> cases nb : nanK .f64 b
  · have hs := smK_of .f64 a b ha hb na nb
    by_cases he : eqK .f64 a b = true
    all_goals
      go_enter Try.func27, Try.ntmps27
      go_wp2_with (first | (go_at_call 69; refine (isNone_h _ _).mono ?_; rintro e w' ⟨rfl, rfl⟩) | (go_at_call 70; refine (isMinusNought_h _ _).mono ?_; rintro e w' ⟨rfl, rfl⟩))
      go_ret
      exact ⟨by simp [hs, he], rfl⟩
  all_goals
    have hs : smK .f64 a b = (nanK .f64 a && nanK .f64 b) := by unfold smK; simp [na, nb]
    go_enter Try.func27, Try.ntmps27
    go_wp2_with (first | (go_at_call 69; refine (isNone_h _ _).mono ?_; rintro e w' ⟨rfl, rfl⟩) | (go_at_call 70; refine (isMinusNought_h _ _).mono ?_; rintro e w' ⟨rfl, rfl⟩))
    go_ret
    exact ⟨by simp [hs, na, nb], rfl⟩

theorem finite_h (a : Nat) (w : World) : Calls Try.prog 32 #[.float .f64 a] w fun e w' => ∃ n, e = .returned (.bool (finK .f64 a)) ∧ w' = w.drewN n := by
  have c1 := cmp_eq .f64
  have q := run_sub Try.prog
  have s := self_sub .f64 a
  go_enter Try.func32, Try.ntmps32
  go_wp2
  go_ret
  exact ⟨_, by simp, rfl⟩

theorem within_h (a b : Nat) (w : World) : Calls Try.prog 36 #[.float .f64 a, .float .f64 b] w fun e w' => e = .returned (.bool (withinK .f64 a b)) ∧ w' = w := by
  have c1 := cmp_le .f64
  have c2 := run_neg Try.prog
  cases h : leK .f64 (Op.negFloat .f64 b) a
  all_goals
    go_enter Try.func36, Try.ntmps36
    go_wp2
    go_ret
    exact ⟨by simp [withinK, h], rfl⟩

theorem clamp_h (a b c : Nat) (w : World) : Calls Try.prog 40 #[.float .f64 a, .float .f64 b, .float .f64 c] w fun e w' => e = .returned (.float .f64 (clK .f64 a b c)) ∧ w' = w := by
  have c1 := cmp_gt .f64
  cases h1 : ltK .f64 b a
  · go_enter Try.func40, Try.ntmps40
    go_wp2
    go_ret
    exact ⟨by simp [clK, h1], rfl⟩
  · cases h2 : ltK .f64 c a
    all_goals
      go_enter Try.func40, Try.ntmps40
      go_wp2
      go_ret
      exact ⟨by simp [clK, h1, h2], rfl⟩

theorem least_h (a b : Nat) (w : World) : Calls Try.prog 46 #[.float .f64 a, .float .f64 b] w fun e w' => e = .returned (.float .f64 (leastK .f64 a b)) ∧ w' = w := by
  have c1 := cmp_lt .f64
  have c2 := cmp_eq .f64
  have c3 := eqK_nought .f64
  cases h1 : nanK .f64 a
  · cases h2 : ltK .f64 b a
    · cases h3 : mzK .f64 b
      · go_enter Try.func46, Try.ntmps46
        go_wp2_with (first | (go_at_call 69; refine (isNone_h _ _).mono ?_; rintro e w' ⟨rfl, rfl⟩) | (go_at_call 70; refine (isMinusNought_h _ _).mono ?_; rintro e w' ⟨rfl, rfl⟩))
        go_ret
        exact ⟨by simp [leastK, h1, h2, h3], rfl⟩
      · by_cases h4 : rgK .f64 a = 0
        all_goals
          go_enter Try.func46, Try.ntmps46
          go_wp2_with (first | (go_at_call 69; refine (isNone_h _ _).mono ?_; rintro e w' ⟨rfl, rfl⟩) | (go_at_call 70; refine (isMinusNought_h _ _).mono ?_; rintro e w' ⟨rfl, rfl⟩))
          go_ret
          exact ⟨by simp [leastK, h1, h2, h3, h4], rfl⟩
    · go_enter Try.func46, Try.ntmps46
      go_wp2_with (first | (go_at_call 69; refine (isNone_h _ _).mono ?_; rintro e w' ⟨rfl, rfl⟩) | (go_at_call 70; refine (isMinusNought_h _ _).mono ?_; rintro e w' ⟨rfl, rfl⟩))
      go_ret
      exact ⟨by simp [leastK, h2], rfl⟩
  · go_enter Try.func46, Try.ntmps46
    go_wp2_with (first | (go_at_call 69; refine (isNone_h _ _).mono ?_; rintro e w' ⟨rfl, rfl⟩) | (go_at_call 70; refine (isMinusNought_h _ _).mono ?_; rintro e w' ⟨rfl, rfl⟩))
    go_ret
    exact ⟨by simp [leastK, h1], rfl⟩

theorem most_h (a b : Nat) (w : World) : Calls Try.prog 47 #[.float .f64 a, .float .f64 b] w fun e w' => e = .returned (.float .f64 (mostK .f64 a b)) ∧ w' = w := by
  have c1 := cmp_gt .f64
  have c2 := cmp_eq .f64
  have c3 := eqK_nought .f64
  cases h1 : nanK .f64 a
  · cases h2 : ltK .f64 a b
    · cases h3 : mzK .f64 a
      · go_enter Try.func47, Try.ntmps47
        go_wp2_with (first | (go_at_call 69; refine (isNone_h _ _).mono ?_; rintro e w' ⟨rfl, rfl⟩) | (go_at_call 70; refine (isMinusNought_h _ _).mono ?_; rintro e w' ⟨rfl, rfl⟩))
        go_ret
        exact ⟨by simp [mostK, h1, h2, h3], rfl⟩
      · by_cases h4 : rgK .f64 b = 0
        all_goals
          go_enter Try.func47, Try.ntmps47
          go_wp2_with (first | (go_at_call 69; refine (isNone_h _ _).mono ?_; rintro e w' ⟨rfl, rfl⟩) | (go_at_call 70; refine (isMinusNought_h _ _).mono ?_; rintro e w' ⟨rfl, rfl⟩))
          go_ret
          exact ⟨by simp [mostK, h1, h2, h3, h4], rfl⟩
    · go_enter Try.func47, Try.ntmps47
      go_wp2_with (first | (go_at_call 69; refine (isNone_h _ _).mono ?_; rintro e w' ⟨rfl, rfl⟩) | (go_at_call 70; refine (isMinusNought_h _ _).mono ?_; rintro e w' ⟨rfl, rfl⟩))
      go_ret
      exact ⟨by simp [mostK, h2], rfl⟩
  · go_enter Try.func47, Try.ntmps47
    go_wp2_with (first | (go_at_call 69; refine (isNone_h _ _).mono ?_; rintro e w' ⟨rfl, rfl⟩) | (go_at_call 70; refine (isMinusNought_h _ _).mono ?_; rintro e w' ⟨rfl, rfl⟩))
    go_ret
    exact ⟨by simp [mostK, h1], rfl⟩

theorem sign_h (a : Nat) (w : World) : Calls Try.prog 52 #[.float .f64 a] w fun e w' => e = .returned (.int .i64 (sgK .f64 a)) ∧ w' = w := by
  have c1 := cmp_lt .f64
  have c2 := cmp_gt .f64
  cases h1 : ltK .f64 0 a
  · cases h2 : ltK .f64 a 0
    all_goals
      go_enter Try.func52, Try.ntmps52
      go_wp2
      go_ret
      exact ⟨by simp [sgK, h1, h2], rfl⟩
  · go_enter Try.func52, Try.ntmps52
    go_wp2
    go_ret
    exact ⟨by simp [sgK, h1], rfl⟩

theorem isNone_3 (a : Nat) (w : World) : Calls Try.prog 71 #[.float .f32 a] w fun e w' => e = .returned (.bool (nanK .f32 a)) ∧ w' = w := by
  have c := cmp_ne .f32
  have s := eqK_self .f32
  go_enter Try.func71, Try.ntmps71
  go_wp2
  go_ret
  exact ⟨by simp, rfl⟩

theorem isMinusNought_3 (a : Nat) (w : World) : Calls Try.prog 72 #[.float .f32 a] w fun e w' => e = .returned (.bool (mzK .f32 a)) ∧ w' = w := by
  have c1 := cmp_eq .f32
  have c2 := cmp_lt .f32
  have s := eqK_nought .f32
  have q := run_quo Try.prog
  by_cases h : rgK .f32 a = 0
  · have m := mz_of .f32 a w h
    have d := quo_one_draws .f32 a h
    unfold oneK at m d
    go_enter Try.func72, Try.ntmps72
    go_wp2
    go_ret
    exact ⟨by simp [mzK, h], rfl⟩
  · go_enter Try.func72, Try.ntmps72
    go_wp2
    go_ret
    exact ⟨by simp [mzK, h], rfl⟩

theorem same_3 (a b : Nat) (w : World) (ha : okK .f32 a) (hb : okK .f32 b) : Calls Try.prog 28 #[.float .f32 a, .float .f32 b] w fun e w' => e = .returned (.bool (smK .f32 a b)) ∧ w' = w := by
  have c1 := cmp_eq .f32
  cases na : nanK .f32 a <;> cases nb : nanK .f32 b
  · have hs := smK_of .f32 a b ha hb na nb
    by_cases he : eqK .f32 a b = true
    all_goals
      go_enter Try.func28, Try.ntmps28
      go_wp2_with (first | (go_at_call 71; refine (isNone_3 _ _).mono ?_; rintro e w' ⟨rfl, rfl⟩) | (go_at_call 72; refine (isMinusNought_3 _ _).mono ?_; rintro e w' ⟨rfl, rfl⟩))
      go_ret
      exact ⟨by simp [hs, he], rfl⟩
  all_goals
    have hs : smK .f32 a b = (nanK .f32 a && nanK .f32 b) := by unfold smK; simp [na, nb]
    go_enter Try.func28, Try.ntmps28
    go_wp2_with (first | (go_at_call 71; refine (isNone_3 _ _).mono ?_; rintro e w' ⟨rfl, rfl⟩) | (go_at_call 72; refine (isMinusNought_3 _ _).mono ?_; rintro e w' ⟨rfl, rfl⟩))
    go_ret
    exact ⟨by simp [hs, na, nb], rfl⟩

theorem finite_3 (a : Nat) (w : World) : Calls Try.prog 33 #[.float .f32 a] w fun e w' => ∃ n, e = .returned (.bool (finK .f32 a)) ∧ w' = w.drewN n := by
  have c1 := cmp_eq .f32
  have q := run_sub Try.prog
  have s := self_sub .f32 a
  go_enter Try.func33, Try.ntmps33
  go_wp2
  go_ret
  exact ⟨_, by simp, rfl⟩

theorem within_3 (a b : Nat) (w : World) : Calls Try.prog 37 #[.float .f32 a, .float .f32 b] w fun e w' => e = .returned (.bool (withinK .f32 a b)) ∧ w' = w := by
  have c1 := cmp_le .f32
  have c2 := run_neg Try.prog
  cases h : leK .f32 (Op.negFloat .f32 b) a
  all_goals
    go_enter Try.func37, Try.ntmps37
    go_wp2
    go_ret
    exact ⟨by simp [withinK, h], rfl⟩

theorem clamp_3 (a b c : Nat) (w : World) : Calls Try.prog 41 #[.float .f32 a, .float .f32 b, .float .f32 c] w fun e w' => e = .returned (.float .f32 (clK .f32 a b c)) ∧ w' = w := by
  have c1 := cmp_gt .f32
  cases h1 : ltK .f32 b a
  · go_enter Try.func41, Try.ntmps41
    go_wp2
    go_ret
    exact ⟨by simp [clK, h1], rfl⟩
  · cases h2 : ltK .f32 c a
    all_goals
      go_enter Try.func41, Try.ntmps41
      go_wp2
      go_ret
      exact ⟨by simp [clK, h1, h2], rfl⟩

theorem least_3 (a b : Nat) (w : World) : Calls Try.prog 48 #[.float .f32 a, .float .f32 b] w fun e w' => e = .returned (.float .f32 (leastK .f32 a b)) ∧ w' = w := by
  have c1 := cmp_lt .f32
  have c2 := cmp_eq .f32
  have c3 := eqK_nought .f32
  cases h1 : nanK .f32 a
  · cases h2 : ltK .f32 b a
    · cases h3 : mzK .f32 b
      · go_enter Try.func48, Try.ntmps48
        go_wp2_with (first | (go_at_call 71; refine (isNone_3 _ _).mono ?_; rintro e w' ⟨rfl, rfl⟩) | (go_at_call 72; refine (isMinusNought_3 _ _).mono ?_; rintro e w' ⟨rfl, rfl⟩))
        go_ret
        exact ⟨by simp [leastK, h1, h2, h3], rfl⟩
      · by_cases h4 : rgK .f32 a = 0
        all_goals
          go_enter Try.func48, Try.ntmps48
          go_wp2_with (first | (go_at_call 71; refine (isNone_3 _ _).mono ?_; rintro e w' ⟨rfl, rfl⟩) | (go_at_call 72; refine (isMinusNought_3 _ _).mono ?_; rintro e w' ⟨rfl, rfl⟩))
          go_ret
          exact ⟨by simp [leastK, h1, h2, h3, h4], rfl⟩
    · go_enter Try.func48, Try.ntmps48
      go_wp2_with (first | (go_at_call 71; refine (isNone_3 _ _).mono ?_; rintro e w' ⟨rfl, rfl⟩) | (go_at_call 72; refine (isMinusNought_3 _ _).mono ?_; rintro e w' ⟨rfl, rfl⟩))
      go_ret
      exact ⟨by simp [leastK, h2], rfl⟩
  · go_enter Try.func48, Try.ntmps48
    go_wp2_with (first | (go_at_call 71; refine (isNone_3 _ _).mono ?_; rintro e w' ⟨rfl, rfl⟩) | (go_at_call 72; refine (isMinusNought_3 _ _).mono ?_; rintro e w' ⟨rfl, rfl⟩))
    go_ret
    exact ⟨by simp [leastK, h1], rfl⟩

theorem most_3 (a b : Nat) (w : World) : Calls Try.prog 49 #[.float .f32 a, .float .f32 b] w fun e w' => e = .returned (.float .f32 (mostK .f32 a b)) ∧ w' = w := by
  have c1 := cmp_gt .f32
  have c2 := cmp_eq .f32
  have c3 := eqK_nought .f32
  cases h1 : nanK .f32 a
  · cases h2 : ltK .f32 a b
    · cases h3 : mzK .f32 a
      · go_enter Try.func49, Try.ntmps49
        go_wp2_with (first | (go_at_call 71; refine (isNone_3 _ _).mono ?_; rintro e w' ⟨rfl, rfl⟩) | (go_at_call 72; refine (isMinusNought_3 _ _).mono ?_; rintro e w' ⟨rfl, rfl⟩))
        go_ret
        exact ⟨by simp [mostK, h1, h2, h3], rfl⟩
      · by_cases h4 : rgK .f32 b = 0
        all_goals
          go_enter Try.func49, Try.ntmps49
          go_wp2_with (first | (go_at_call 71; refine (isNone_3 _ _).mono ?_; rintro e w' ⟨rfl, rfl⟩) | (go_at_call 72; refine (isMinusNought_3 _ _).mono ?_; rintro e w' ⟨rfl, rfl⟩))
          go_ret
          exact ⟨by simp [mostK, h1, h2, h3, h4], rfl⟩
    · go_enter Try.func49, Try.ntmps49
      go_wp2_with (first | (go_at_call 71; refine (isNone_3 _ _).mono ?_; rintro e w' ⟨rfl, rfl⟩) | (go_at_call 72; refine (isMinusNought_3 _ _).mono ?_; rintro e w' ⟨rfl, rfl⟩))
      go_ret
      exact ⟨by simp [mostK, h2], rfl⟩
  · go_enter Try.func49, Try.ntmps49
    go_wp2_with (first | (go_at_call 71; refine (isNone_3 _ _).mono ?_; rintro e w' ⟨rfl, rfl⟩) | (go_at_call 72; refine (isMinusNought_3 _ _).mono ?_; rintro e w' ⟨rfl, rfl⟩))
    go_ret
    exact ⟨by simp [mostK, h1], rfl⟩

theorem sign_3 (a : Nat) (w : World) : Calls Try.prog 53 #[.float .f32 a] w fun e w' => e = .returned (.int .i64 (sgK .f32 a)) ∧ w' = w := by
  have c1 := cmp_lt .f32
  have c2 := cmp_gt .f32
  cases h1 : ltK .f32 0 a
  · cases h2 : ltK .f32 a 0
    all_goals
      go_enter Try.func53, Try.ntmps53
      go_wp2
      go_ret
      exact ⟨by simp [sgK, h1, h2], rfl⟩
  · go_enter Try.func53, Try.ntmps53
    go_wp2
    go_ret
    exact ⟨by simp [sgK, h1], rfl⟩

theorem isNone_l (a : Nat) (w : World) : Calls Try.prog 73 #[.float .f32 a] w fun e w' => e = .returned (.bool (nanK .f32 a)) ∧ w' = w := by
  have c := cmp_ne .f32
  have s := eqK_self .f32
  go_enter Try.func73, Try.ntmps73
  go_wp2
  go_ret
  exact ⟨by simp, rfl⟩

theorem isMinusNought_l (a : Nat) (w : World) : Calls Try.prog 74 #[.float .f32 a] w fun e w' => e = .returned (.bool (mzK .f32 a)) ∧ w' = w := by
  have c1 := cmp_eq .f32
  have c2 := cmp_lt .f32
  have s := eqK_nought .f32
  have q := run_quo Try.prog
  by_cases h : rgK .f32 a = 0
  · have m := mz_of .f32 a w h
    have d := quo_one_draws .f32 a h
    unfold oneK at m d
    go_enter Try.func74, Try.ntmps74
    go_wp2
    go_ret
    exact ⟨by simp [mzK, h], rfl⟩
  · go_enter Try.func74, Try.ntmps74
    go_wp2
    go_ret
    exact ⟨by simp [mzK, h], rfl⟩

theorem same_l (a b : Nat) (w : World) (ha : okK .f32 a) (hb : okK .f32 b) : Calls Try.prog 30 #[.float .f32 a, .float .f32 b] w fun e w' => e = .returned (.bool (smK .f32 a b)) ∧ w' = w := by
  have c1 := cmp_eq .f32
  cases na : nanK .f32 a <;> cases nb : nanK .f32 b
  · have hs := smK_of .f32 a b ha hb na nb
    by_cases he : eqK .f32 a b = true
    all_goals
      go_enter Try.func30, Try.ntmps30
      go_wp2_with (first | (go_at_call 73; refine (isNone_l _ _).mono ?_; rintro e w' ⟨rfl, rfl⟩) | (go_at_call 74; refine (isMinusNought_l _ _).mono ?_; rintro e w' ⟨rfl, rfl⟩))
      go_ret
      exact ⟨by simp [hs, he], rfl⟩
  all_goals
    have hs : smK .f32 a b = (nanK .f32 a && nanK .f32 b) := by unfold smK; simp [na, nb]
    go_enter Try.func30, Try.ntmps30
    go_wp2_with (first | (go_at_call 73; refine (isNone_l _ _).mono ?_; rintro e w' ⟨rfl, rfl⟩) | (go_at_call 74; refine (isMinusNought_l _ _).mono ?_; rintro e w' ⟨rfl, rfl⟩))
    go_ret
    exact ⟨by simp [hs, na, nb], rfl⟩

theorem finite_l (a : Nat) (w : World) : Calls Try.prog 34 #[.float .f32 a] w fun e w' => ∃ n, e = .returned (.bool (finK .f32 a)) ∧ w' = w.drewN n := by
  have c1 := cmp_eq .f32
  have q := run_sub Try.prog
  have s := self_sub .f32 a
  go_enter Try.func34, Try.ntmps34
  go_wp2
  go_ret
  exact ⟨_, by simp, rfl⟩

theorem within_l (a b : Nat) (w : World) : Calls Try.prog 38 #[.float .f32 a, .float .f32 b] w fun e w' => e = .returned (.bool (withinK .f32 a b)) ∧ w' = w := by
  have c1 := cmp_le .f32
  have c2 := run_neg Try.prog
  cases h : leK .f32 (Op.negFloat .f32 b) a
  all_goals
    go_enter Try.func38, Try.ntmps38
    go_wp2
    go_ret
    exact ⟨by simp [withinK, h], rfl⟩

theorem clamp_l (a b c : Nat) (w : World) : Calls Try.prog 42 #[.float .f32 a, .float .f32 b, .float .f32 c] w fun e w' => e = .returned (.float .f32 (clK .f32 a b c)) ∧ w' = w := by
  have c1 := cmp_gt .f32
  cases h1 : ltK .f32 b a
  · go_enter Try.func42, Try.ntmps42
    go_wp2
    go_ret
    exact ⟨by simp [clK, h1], rfl⟩
  · cases h2 : ltK .f32 c a
    all_goals
      go_enter Try.func42, Try.ntmps42
      go_wp2
      go_ret
      exact ⟨by simp [clK, h1, h2], rfl⟩

theorem most_l (a b : Nat) (w : World) : Calls Try.prog 50 #[.float .f32 a, .float .f32 b] w fun e w' => e = .returned (.float .f32 (mostK .f32 a b)) ∧ w' = w := by
  have c1 := cmp_gt .f32
  have c2 := cmp_eq .f32
  have c3 := eqK_nought .f32
  cases h1 : nanK .f32 a
  · cases h2 : ltK .f32 a b
    · cases h3 : mzK .f32 a
      · go_enter Try.func50, Try.ntmps50
        go_wp2_with (first | (go_at_call 73; refine (isNone_l _ _).mono ?_; rintro e w' ⟨rfl, rfl⟩) | (go_at_call 74; refine (isMinusNought_l _ _).mono ?_; rintro e w' ⟨rfl, rfl⟩))
        go_ret
        exact ⟨by simp [mostK, h1, h2, h3], rfl⟩
      · by_cases h4 : rgK .f32 b = 0
        all_goals
          go_enter Try.func50, Try.ntmps50
          go_wp2_with (first | (go_at_call 73; refine (isNone_l _ _).mono ?_; rintro e w' ⟨rfl, rfl⟩) | (go_at_call 74; refine (isMinusNought_l _ _).mono ?_; rintro e w' ⟨rfl, rfl⟩))
          go_ret
          exact ⟨by simp [mostK, h1, h2, h3, h4], rfl⟩
    · go_enter Try.func50, Try.ntmps50
      go_wp2_with (first | (go_at_call 73; refine (isNone_l _ _).mono ?_; rintro e w' ⟨rfl, rfl⟩) | (go_at_call 74; refine (isMinusNought_l _ _).mono ?_; rintro e w' ⟨rfl, rfl⟩))
      go_ret
      exact ⟨by simp [mostK, h2], rfl⟩
  · go_enter Try.func50, Try.ntmps50
    go_wp2_with (first | (go_at_call 73; refine (isNone_l _ _).mono ?_; rintro e w' ⟨rfl, rfl⟩) | (go_at_call 74; refine (isMinusNought_l _ _).mono ?_; rintro e w' ⟨rfl, rfl⟩))
    go_ret
    exact ⟨by simp [mostK, h1], rfl⟩

theorem sign_l (a : Nat) (w : World) : Calls Try.prog 54 #[.float .f32 a] w fun e w' => e = .returned (.int .i64 (sgK .f32 a)) ∧ w' = w := by
  have c1 := cmp_lt .f32
  have c2 := cmp_gt .f32
  cases h1 : ltK .f32 0 a
  · cases h2 : ltK .f32 a 0
    all_goals
      go_enter Try.func54, Try.ntmps54
      go_wp2
      go_ret
      exact ⟨by simp [sgK, h1, h2], rfl⟩
  · go_enter Try.func54, Try.ntmps54
    go_wp2
    go_ret
    exact ⟨by simp [sgK, h1], rfl⟩

theorem isAhead_any (a b : Nat) (w : World) : Calls Try.prog 66 #[.float .f64 a, .float .f64 b] w fun e w' => e = .returned (.bool (aheadK a b)) ∧ w' = w := by
  have c1 := cmp_lt .f64
  have c2 := cmp_eq .f64
  cases na : nanK .f64 a <;> cases nb : nanK .f64 b
  · cases h1 : ltK .f64 a b
    · cases h2 : eqK .f64 a b
      all_goals
        go_enter Try.func66, Try.ntmps66
        go_wp2_with (first | (go_at_call 64; refine (isNone_6 _ _).mono ?_; rintro e w' ⟨rfl, rfl⟩) | (go_at_call 65; refine (isMinusNought_6 _ _).mono ?_; rintro e w' ⟨rfl, rfl⟩))
        go_ret
        exact ⟨by simp [aheadK, na, nb, h1, h2], rfl⟩
    · go_enter Try.func66, Try.ntmps66
      go_wp2_with (first | (go_at_call 64; refine (isNone_6 _ _).mono ?_; rintro e w' ⟨rfl, rfl⟩) | (go_at_call 65; refine (isMinusNought_6 _ _).mono ?_; rintro e w' ⟨rfl, rfl⟩))
      go_ret
      exact ⟨by simp [aheadK, na, nb, h1], rfl⟩
  all_goals
    go_enter Try.func66, Try.ntmps66
    go_wp2_with (first | (go_at_call 64; refine (isNone_6 _ _).mono ?_; rintro e w' ⟨rfl, rfl⟩) | (go_at_call 65; refine (isMinusNought_6 _ _).mono ?_; rintro e w' ⟨rfl, rfl⟩))
    go_ret
    exact ⟨by simp [aheadK, na, nb], rfl⟩

theorem order_any (a b : Nat) (w : World) (ha : okK .f64 a) (hb : okK .f64 b) : Calls Try.prog 18 #[.float .f64 a, .float .f64 b] w fun e w' => e = .returned (.int .i64 (ordK a b)) ∧ w' = w := by
  cases h1 : smK .f64 a b
  · cases h2 : aheadK a b
    all_goals
      go_enter Try.func18, Try.ntmps18
      go_wp2_with (first | (go_at_call 25; refine (same_6 _ _ _ ha hb).mono ?_; rintro e w' ⟨rfl, rfl⟩) | (go_at_call 66; refine (isAhead_any _ _ _).mono ?_; rintro e w' ⟨rfl, rfl⟩))
      go_ret
      exact ⟨by simp [ordK, h1, h2], rfl⟩
  · go_enter Try.func18, Try.ntmps18
    go_wp2_with (first | (go_at_call 25; refine (same_6 _ _ _ ha hb).mono ?_; rintro e w' ⟨rfl, rfl⟩) | (go_at_call 66; refine (isAhead_any _ _ _).mono ?_; rintro e w' ⟨rfl, rfl⟩))
    go_ret
    exact ⟨by simp [ordK, h1], rfl⟩

theorem bits_any (a : Nat) (w : World) : Calls Try.prog 20 #[.float .f64 a] w fun e w' => e = .returned (.int .u64 (bitsK a)) ∧ w' = w := by
  have hb := bits_run
  cases na : nanK .f64 a
  all_goals
    go_enter Try.func20, Try.ntmps20
    go_wp2_with (first | (go_at_call 64; refine (isNone_6 _ _).mono ?_; rintro e w' ⟨rfl, rfl⟩))
    go_ret
    exact ⟨by simp [bitsK, na], rfl⟩

theorem from_any (a : Nat) (w : World) : Calls Try.prog 57 #[.int .u64 a] w fun e w' => e = .returned (.float .f64 a) ∧ w' = w := by
  have hb := from_run
  go_enter Try.func57, Try.ntmps57
  go_wp2
  go_ret
  exact ⟨rfl, rfl⟩

theorem between_any (a b c : Nat) (w : World) : Calls Try.prog 21 #[.float .f64 a, .float .f64 b, .float .f64 c] w fun e w' => ∃ x y z n, resK .sub .f64 b a x ∧ resK .mul .f64 c x y ∧ resK .add .f64 a y z ∧ e = .returned (.float .f64 z) ∧ w' = w.drewN n := by
  have q1 := run_sub Try.prog
  have q2 := run_mul Try.prog
  have q3 := run_add Try.prog
  go_enter Try.func21, Try.ntmps21
  go_wp2
  go_ret
  exact ⟨_, _, _, _, fv_res _ _ _ _ _, fv_res _ _ _ _ _, fv_res _ _ _ _ _, rfl, rfl⟩

theorem f_any (a : Nat) (w : World) : Calls Try.prog 23 #[.int .u64 a] w fun e w' => e = .returned (.float .f64 a) ∧ w' = w := by
  have hb := from_run
  go_enter Try.func23, Try.ntmps23
  go_wp2
  go_ret
  exact ⟨rfl, rfl⟩

theorem g_any (a : Nat) (w : World) : Calls Try.prog 24 #[.int .u32 a] w fun e w' => e = .returned (.float .f32 a) ∧ w' = w := by
  have hb := from32_run
  go_enter Try.func24, Try.ntmps24
  go_wp2
  go_ret
  exact ⟨rfl, rfl⟩

theorem wide_any (a : Nat) (w : World) : Calls Try.prog 29 #[.float .f32 a] w fun e w' => ∃ x n, Wid a x ∧ e = .returned (.float .f64 x) ∧ w' = w.drewN n := by
  have q1 := fun (x : Nat) (w : World) => run_wide Try.prog 37 22 x w Try.underlying37 Try.underlying22
  go_enter Try.func29, Try.ntmps29
  go_wp2
  go_ret
  exact ⟨_, _, wv_wid a w, rfl, rfl⟩

theorem rNone_any (a : Nat) (w : World) (ha : okK .f64 a) : Calls Try.prog 68 #[.float .f64 a] w fun e w' => e = .returned (.bool (nanK .f64 a)) ∧ w' = w := by
  have hb := bits_run
  have hn := nan_bits a ha
  by_cases h : bits .and .u64 ((a : Int) / 4503599627370496) 2047 = 2047
  all_goals
    go_enter Try.func68, Try.ntmps68
    go_wp2
    go_ret
    exact ⟨by rw [hn]; simp [h], rfl⟩

theorem rSame_any (a b : Nat) (w : World) (ha : okK .f64 a) (hb : okK .f64 b) : Calls Try.prog 26 #[.float .f64 a, .float .f64 b] w fun e w' => e = .returned (.bool (smK .f64 a b)) ∧ w' = w := by
  have hbr := bits_run
  cases na : nanK .f64 a <;> cases nb : nanK .f64 b
  all_goals
    go_enter Try.func26, Try.ntmps26
    go_wp2_with (first | (go_at_call 68; refine (rNone_any _ _ (by assumption)).mono ?_; rintro e w' ⟨rfl, rfl⟩))
    go_ret
    exact ⟨by simp [smK, na, nb, beq_cast], rfl⟩

theorem rFinite_any (a : Nat) (w : World) (ha : okK .f64 a) : Calls Try.prog 31 #[.float .f64 a] w fun e w' => e = .returned (.bool (finK .f64 a)) ∧ w' = w := by
  have hb := bits_run
  have hn := fin_bits a ha
  go_enter Try.func31, Try.ntmps31
  go_wp2
  go_ret
  exact ⟨by rw [hn]; simp, rfl⟩

theorem rPlace_any (a : Nat) (w : World) (ha : okK .f64 a) : Calls Try.prog 76 #[.float .f64 a] w fun e w' => e = .returned (.int .i64 (plK a)) ∧ w' = w := by
  have hb := bits_run
  have hp := hide (plK_bits a ha)
  have hw := half_wrap a
  have hv := less_one a
  by_cases h : (a : Int) / 9223372036854775808 = 1
  all_goals
    go_enter Try.func76, Try.ntmps76
    go_wp2
    go_ret
    exact ⟨by rw [unhide hp]; simp [h, hv], rfl⟩

theorem rWorth_any (a : Nat) (w : World) (ha : okK .f64 a) : Calls Try.prog 77 #[.float .f64 a] w fun e w' => e = .returned (.int .i64 (wtK a)) ∧ w' = w := by
  by_cases h : plK a = -1
  all_goals
    go_enter Try.func77, Try.ntmps77
    go_wp2_with (first | (go_at_call 76; refine (rPlace_any _ _ (by assumption)).mono ?_; rintro e w' ⟨rfl, rfl⟩))
    go_ret
    exact ⟨by simp [wtK, h], rfl⟩

theorem rAbove_any (a b : Nat) (w : World) (ha : okK .f64 a) (hb : okK .f64 b) : Calls Try.prog 75 #[.float .f64 a, .float .f64 b] w fun e w' => e = .returned (.bool (ltK .f64 b a)) ∧ w' = w := by
  have hw := wtK_lt b a
  cases na : nanK .f64 a <;> cases nb : nanK .f64 b
  all_goals
    go_enter Try.func75, Try.ntmps75
    go_wp2_with (first | (go_at_call 68; refine (rNone_any _ _ (by assumption)).mono ?_; rintro e w' ⟨rfl, rfl⟩) | (go_at_call 77; refine (rWorth_any _ _ (by assumption)).mono ?_; rintro e w' ⟨rfl, rfl⟩))
    go_ret
    exact ⟨by simp [ltK, na, nb], rfl⟩

theorem rWithin_any (a b : Nat) (w : World) (ha : okK .f64 a) (hb : okK .f64 b) : Calls Try.prog 35 #[.float .f64 a, .float .f64 b] w fun e w' => e = .returned (.bool (withinK .f64 a b)) ∧ w' = w := by
  have c2 := run_neg Try.prog
  have hm := (neg_facts .f64 b hb).2.2
  have hr := within_ref a b hb
  cases na : nanK .f64 a <;> cases nb : nanK .f64 b
  · cases h1 : ltK .f64 b a
    all_goals
      go_enter Try.func35, Try.ntmps35
      go_wp2_with (first | (go_at_call 68; refine (rNone_any _ _ (by assumption)).mono ?_; rintro e w' ⟨rfl, rfl⟩) | (go_at_call 75; refine (rAbove_any _ _ _ (by assumption) (by assumption)).mono ?_; rintro e w' ⟨rfl, rfl⟩))
      go_ret
      exact ⟨by simp [hr, na, nb, h1], rfl⟩
  all_goals
    go_enter Try.func35, Try.ntmps35
    go_wp2_with (first | (go_at_call 68; refine (rNone_any _ _ (by assumption)).mono ?_; rintro e w' ⟨rfl, rfl⟩) | (go_at_call 75; refine (rAbove_any _ _ _ (by assumption) (by assumption)).mono ?_; rintro e w' ⟨rfl, rfl⟩))
    go_ret
    exact ⟨by simp [hr, na, nb], rfl⟩

theorem rClamp_any (a b c : Nat) (w : World) (ha : okK .f64 a) (hb : okK .f64 b) (hc : okK .f64 c) : Calls Try.prog 39 #[.float .f64 a, .float .f64 b, .float .f64 c] w fun e w' => e = .returned (.float .f64 (clK .f64 a b c)) ∧ w' = w := by
  cases h1 : ltK .f64 b a
  · go_enter Try.func39, Try.ntmps39
    go_wp2_with (first | (go_at_call 75; refine (rAbove_any _ _ _ (by assumption) (by assumption)).mono ?_; rintro e w' ⟨rfl, rfl⟩))
    go_ret
    exact ⟨by simp [clK, h1], rfl⟩
  · cases h2 : ltK .f64 c a
    all_goals
      go_enter Try.func39, Try.ntmps39
      go_wp2_with (first | (go_at_call 75; refine (rAbove_any _ _ _ (by assumption) (by assumption)).mono ?_; rintro e w' ⟨rfl, rfl⟩))
      go_ret
      exact ⟨by simp [clK, h1, h2], rfl⟩

theorem rLeast_any (a b : Nat) (w : World) (ha : okK .f64 a) (hb : okK .f64 b) : Calls Try.prog 44 #[.float .f64 a, .float .f64 b] w fun e w' => e = .returned (.float .f64 (leastK .f64 a b)) ∧ w' = w := by
  have hr := least_ref a b ha hb
  cases na : nanK .f64 a
  · cases nb : nanK .f64 b
    · by_cases h : plK a ≤ plK b
      · have hv := hide (show leastK .f64 a b = a by rw [hr, na, nb]; simp [h])
        clear hr
        go_enter Try.func44, Try.ntmps44
        go_wp2_with (first | (go_at_call 68; refine (rNone_any _ _ (by assumption)).mono ?_; rintro e w' ⟨rfl, rfl⟩) | (go_at_call 76; refine (rPlace_any _ _ (by assumption)).mono ?_; rintro e w' ⟨rfl, rfl⟩))
        go_ret
        exact ⟨by rw [unhide hv]; rfl, rfl⟩
      · have hv := hide (show leastK .f64 a b = b by rw [hr, na, nb]; simp [h])
        clear hr
        go_enter Try.func44, Try.ntmps44
        go_wp2_with (first | (go_at_call 68; refine (rNone_any _ _ (by assumption)).mono ?_; rintro e w' ⟨rfl, rfl⟩) | (go_at_call 76; refine (rPlace_any _ _ (by assumption)).mono ?_; rintro e w' ⟨rfl, rfl⟩))
        go_ret
        exact ⟨by rw [unhide hv]; rfl, rfl⟩
    · go_enter Try.func44, Try.ntmps44
      go_wp2_with (first | (go_at_call 68; refine (rNone_any _ _ (by assumption)).mono ?_; rintro e w' ⟨rfl, rfl⟩) | (go_at_call 76; refine (rPlace_any _ _ (by assumption)).mono ?_; rintro e w' ⟨rfl, rfl⟩))
      go_ret
      exact ⟨by simp [hr, na, nb], rfl⟩
  · go_enter Try.func44, Try.ntmps44
    go_wp2_with (first | (go_at_call 68; refine (rNone_any _ _ (by assumption)).mono ?_; rintro e w' ⟨rfl, rfl⟩) | (go_at_call 76; refine (rPlace_any _ _ (by assumption)).mono ?_; rintro e w' ⟨rfl, rfl⟩))
    go_ret
    exact ⟨by simp [hr, na], rfl⟩

theorem rMost_any (a b : Nat) (w : World) (ha : okK .f64 a) (hb : okK .f64 b) : Calls Try.prog 45 #[.float .f64 a, .float .f64 b] w fun e w' => e = .returned (.float .f64 (mostK .f64 a b)) ∧ w' = w := by
  have hr := most_ref a b ha hb
  cases na : nanK .f64 a
  · cases nb : nanK .f64 b
    · by_cases h : plK b ≤ plK a
      · have hv := hide (show mostK .f64 a b = a by rw [hr, na, nb]; simp [h])
        clear hr
        go_enter Try.func45, Try.ntmps45
        go_wp2_with (first | (go_at_call 68; refine (rNone_any _ _ (by assumption)).mono ?_; rintro e w' ⟨rfl, rfl⟩) | (go_at_call 76; refine (rPlace_any _ _ (by assumption)).mono ?_; rintro e w' ⟨rfl, rfl⟩))
        go_ret
        exact ⟨by rw [unhide hv]; rfl, rfl⟩
      · have hv := hide (show mostK .f64 a b = b by rw [hr, na, nb]; simp [h])
        clear hr
        go_enter Try.func45, Try.ntmps45
        go_wp2_with (first | (go_at_call 68; refine (rNone_any _ _ (by assumption)).mono ?_; rintro e w' ⟨rfl, rfl⟩) | (go_at_call 76; refine (rPlace_any _ _ (by assumption)).mono ?_; rintro e w' ⟨rfl, rfl⟩))
        go_ret
        exact ⟨by rw [unhide hv]; rfl, rfl⟩
    · go_enter Try.func45, Try.ntmps45
      go_wp2_with (first | (go_at_call 68; refine (rNone_any _ _ (by assumption)).mono ?_; rintro e w' ⟨rfl, rfl⟩) | (go_at_call 76; refine (rPlace_any _ _ (by assumption)).mono ?_; rintro e w' ⟨rfl, rfl⟩))
      go_ret
      exact ⟨by simp [hr, na, nb], rfl⟩
  · go_enter Try.func45, Try.ntmps45
    go_wp2_with (first | (go_at_call 68; refine (rNone_any _ _ (by assumption)).mono ?_; rintro e w' ⟨rfl, rfl⟩) | (go_at_call 76; refine (rPlace_any _ _ (by assumption)).mono ?_; rintro e w' ⟨rfl, rfl⟩))
    go_ret
    exact ⟨by simp [hr, na], rfl⟩

theorem rSign_any (a : Nat) (w : World) (ha : okK .f64 a) : Calls Try.prog 51 #[.float .f64 a] w fun e w' => e = .returned (.int .i64 (sgK .f64 a)) ∧ w' = w := by
  have h0 : okK .f64 0 := by rw [okK64]; omega
  cases h1 : ltK .f64 0 a
  · cases h2 : ltK .f64 a 0
    all_goals
      go_enter Try.func51, Try.ntmps51
      go_wp2_with (first | (go_at_call 75; refine (rAbove_any _ _ _ (by assumption) (by assumption)).mono ?_; rintro e w' ⟨rfl, rfl⟩))
      go_ret
      exact ⟨by simp [sgK, h1, h2], rfl⟩
  · go_enter Try.func51, Try.ntmps51
    go_wp2_with (first | (go_at_call 75; refine (rAbove_any _ _ _ (by assumption) (by assumption)).mono ?_; rintro e w' ⟨rfl, rfl⟩))
    go_ret
    exact ⟨by simp [sgK, h1], rfl⟩

theorem rOrder_any (a b : Nat) (w : World) (ha : okK .f64 a) (hb : okK .f64 b) : Calls Try.prog 55 #[.float .f64 a, .float .f64 b] w fun e w' => e = .returned (.int .i64 (ordK a b)) ∧ w' = w := by
  have hr := ord_ref a b ha hb
  cases na : nanK .f64 a <;> cases nb : nanK .f64 b
  · have hx : plK a < plK b ∨ (¬ plK a < plK b ∧ plK b < plK a) ∨ (¬ plK a < plK b ∧ ¬ plK b < plK a) := by omega
    rcases hx with h1 | ⟨h1, h2⟩ | ⟨h1, h2⟩
    · have hv := hide (show ordK a b = -1 by rw [hr, na, nb]; simp [h1])
      clear hr
      go_enter Try.func55, Try.ntmps55
      go_wp2_with (first | (go_at_call 68; refine (rNone_any _ _ (by assumption)).mono ?_; rintro e w' ⟨rfl, rfl⟩) | (go_at_call 76; refine (rPlace_any _ _ (by assumption)).mono ?_; rintro e w' ⟨rfl, rfl⟩))
      go_ret
      exact ⟨by rw [unhide hv]; rfl, rfl⟩
    · have hv := hide (show ordK a b = 1 by rw [hr, na, nb]; simp [h1, h2])
      clear hr
      go_enter Try.func55, Try.ntmps55
      go_wp2_with (first | (go_at_call 68; refine (rNone_any _ _ (by assumption)).mono ?_; rintro e w' ⟨rfl, rfl⟩) | (go_at_call 76; refine (rPlace_any _ _ (by assumption)).mono ?_; rintro e w' ⟨rfl, rfl⟩))
      go_ret
      exact ⟨by rw [unhide hv]; rfl, rfl⟩
    · have hv := hide (show ordK a b = 0 by rw [hr, na, nb]; simp [h1, h2])
      clear hr
      go_enter Try.func55, Try.ntmps55
      go_wp2_with (first | (go_at_call 68; refine (rNone_any _ _ (by assumption)).mono ?_; rintro e w' ⟨rfl, rfl⟩) | (go_at_call 76; refine (rPlace_any _ _ (by assumption)).mono ?_; rintro e w' ⟨rfl, rfl⟩))
      go_ret
      exact ⟨by rw [unhide hv]; rfl, rfl⟩
  all_goals
    go_enter Try.func55, Try.ntmps55
    go_wp2_with (first | (go_at_call 68; refine (rNone_any _ _ (by assumption)).mono ?_; rintro e w' ⟨rfl, rfl⟩))
    go_ret
    exact ⟨by simp [hr, na, nb], rfl⟩

theorem rBits_any (a : Nat) (w : World) (ha : okK .f64 a) : Calls Try.prog 56 #[.float .f64 a] w fun e w' => e = .returned (.int .u64 (bitsK a)) ∧ w' = w := by
  have hb := bits_run
  cases na : nanK .f64 a
  all_goals
    go_enter Try.func56, Try.ntmps56
    go_wp2_with (first | (go_at_call 68; refine (rNone_any _ _ (by assumption)).mono ?_; rintro e w' ⟨rfl, rfl⟩))
    go_ret
    exact ⟨by simp [bitsK, na], rfl⟩

theorem rBetween_any (a b c : Nat) (w : World) : Calls Try.prog 58 #[.float .f64 a, .float .f64 b, .float .f64 c] w fun e w' => ∃ x y z n, resK .sub .f64 b a x ∧ resK .mul .f64 c x y ∧ resK .add .f64 a y z ∧ e = .returned (.float .f64 z) ∧ w' = w.drewN n := by
  have q1 := run_sub Try.prog
  have q2 := run_mul Try.prog
  have q3 := run_add Try.prog
  go_enter Try.func58, Try.ntmps58
  go_wp2
  go_ret
  exact ⟨_, _, _, _, fv_res _ _ _ _ _, fv_res _ _ _ _ _, fv_res _ _ _ _ _, rfl, rfl⟩

theorem rSame_wid {a b A B : Nat} (hA : Wid a A) (hB : Wid b B) (ha : okK .f32 a) (hb : okK .f32 b) (w : World) : Calls Try.prog 26 #[.float .f64 A, .float .f64 B] w fun e w' => e = .returned (.bool (smK .f32 a b)) ∧ w' = w := by
  rw [← wid_sm hA hB ha hb]
  exact rSame_any A B w hA.1 hB.1
theorem rFinite_wid {a A : Nat} (hA : Wid a A) (w : World) : Calls Try.prog 31 #[.float .f64 A] w fun e w' => e = .returned (.bool (finK .f32 a)) ∧ w' = w := by
  rw [← wid_fin hA]
  exact rFinite_any A w hA.1
theorem rWithin_wid {a b A B : Nat} (hA : Wid a A) (hB : Wid b B) (hb : okK .f32 b) (w : World) : Calls Try.prog 35 #[.float .f64 A, .float .f64 B] w fun e w' => e = .returned (.bool (withinK .f32 a b)) ∧ w' = w := by
  rw [← wid_within hb hA hB]
  exact rWithin_any A B w hA.1 hB.1
theorem rSign_wid {a A : Nat} (hA : Wid a A) (w : World) : Calls Try.prog 51 #[.float .f64 A] w fun e w' => e = .returned (.int .i64 (sgK .f32 a)) ∧ w' = w := by
  rw [← wid_sg hA]
  exact rSign_any A w hA.1
theorem rClamp_wid {a b c A B C : Nat} (hA : Wid a A) (hB : Wid b B) (hC : Wid c C) (w : World) : Calls Try.prog 39 #[.float .f64 A, .float .f64 B, .float .f64 C] w fun e w' => ∃ X, Wid (clK .f32 a b c) X ∧ e = .returned (.float .f64 X) ∧ w' = w :=
  (rClamp_any A B C w hA.1 hB.1 hC.1).mono fun _ _ ⟨h1, h2⟩ => ⟨_, wid_cl hA hB hC, h1, h2⟩
theorem rLeast_wid {a b A B : Nat} (hA : Wid a A) (hB : Wid b B) (w : World) : Calls Try.prog 44 #[.float .f64 A, .float .f64 B] w fun e w' => ∃ X, Wid (leastK .f32 a b) X ∧ e = .returned (.float .f64 X) ∧ w' = w :=
  (rLeast_any A B w hA.1 hB.1).mono fun _ _ ⟨h1, h2⟩ => ⟨_, wid_least hA hB, h1, h2⟩
theorem rMost_wid {a b A B : Nat} (hA : Wid a A) (hB : Wid b B) (w : World) : Calls Try.prog 45 #[.float .f64 A, .float .f64 B] w fun e w' => ∃ X, Wid (mostK .f32 a b) X ∧ e = .returned (.float .f64 X) ∧ w' = w :=
  (rMost_any A B w hA.1 hB.1).mono fun _ _ ⟨h1, h2⟩ => ⟨_, wid_most hA hB, h1, h2⟩

end Go.Proofs.Ytpehgaojjfobeaa
