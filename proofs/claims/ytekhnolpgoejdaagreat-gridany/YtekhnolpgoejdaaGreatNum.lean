/-
  What each function of package num answers, and what the reference of its chapter answers: one contract a function, for every float, no world changed but for draws of no numbers.
-/
import Derived.Test.YtekhnolpgoejdaaGreatRows
import Derived.Test.YtekhnolpgoejdaaGreatFlt
import Derived.WalkKit
import Derived.WalkLawsBesides
import Derived.WalkSpells
import Derived.ProofKit
import Derived.OpenShut
namespace Go.Proofs.YtekhnolpgoejdaaGreat
open Go.ChangeShapes Go.WideShapes Go.ChangeAt Go.RowKit

theorem less_one (a : Nat) : wrap64 (wrap64 (-(IntKind.u64.wrap ((a : Int) * 2) / 2)) - 1) = -(IntKind.u64.wrap ((a : Int) * 2) / 2) - 1 := by
  have e2 : IntKind.u64.wrap ((a : Int) * 2) = (a : Int) * 2 % 18446744073709551616 := by simp [IntKind.wrap, IntKind.bits, IntKind.signed]
  rw [e2]
  unfold wrap64
  omega
theorem grown_drewN (w : World) (n : Nat) : Grown w (w.drewN n) := Grown.refl w
theorem hide {p : Prop} (h : p) : Hid p := h
theorem unhide {p : Prop} (h : Hid p) : p := h

theorem bits_run (b : Nat) (w : World) : (callFunc 71 #[.float .f64 b]).run Tryz.prog w = .ok (.value (.int .u64 b)) w := by
  rw [run_callFunc_extern Tryz.func71 (by kernel_rfl) (by kernel_rfl) (by kernel_rfl) (f := 71) (e := Extern.MathFloatBits.float64bits) (by kernel_rfl)]
  rfl

theorem from_run (b : Nat) (w : World) : (callFunc 132 #[.int .u64 b]).run Tryz.prog w = .ok (.value (.float .f64 b)) w := by
  rw [run_callFunc_extern Tryz.func132 (by kernel_rfl) (by kernel_rfl) (by kernel_rfl) (f := 132) (e := Extern.MathFloatBits.float64frombits) (by kernel_rfl)]
  rfl

theorem isNone_6 (a : Nat) (w : World) : Calls Tryz.prog 104 #[.float .f64 a] w fun e w' => e = .returned (.bool (nanK .f64 a)) ∧ w' = w := by
  have c := cmp_ne .f64
  have s := eqK_self .f64
  go_enter Tryz.func104, Tryz.ntmps104
  go_wp2
  go_ret
  exact ⟨by simp, rfl⟩

theorem isMinusNought_6 (a : Nat) (w : World) : Calls Tryz.prog 105 #[.float .f64 a] w fun e w' => e = .returned (.bool (mzK .f64 a)) ∧ w' = w := by
  have c1 := cmp_eq .f64
  have c2 := cmp_lt .f64
  have s := eqK_nought .f64
  have q := run_quo Tryz.prog
  by_cases h : rgK .f64 a = 0
  · have m := mz_of .f64 a w h
    have d := quo_one_draws .f64 a h
    unfold oneK at m d
    go_enter Tryz.func105, Tryz.ntmps105
    go_wp2
    go_ret
    exact ⟨by simp [mzK, h], rfl⟩
  · go_enter Tryz.func105, Tryz.ntmps105
    go_wp2
    go_ret
    exact ⟨by simp [mzK, h], rfl⟩

theorem same_6 (a b : Nat) (w : World) (ha : okK .f64 a) (hb : okK .f64 b) : Calls Tryz.prog 66 #[.float .f64 a, .float .f64 b] w fun e w' => e = .returned (.bool (smK .f64 a b)) ∧ w' = w := by
  have c1 := cmp_eq .f64
  cases na : nanK .f64 a <;> cases nb : nanK .f64 b
  · have hs := smK_of .f64 a b ha hb na nb
    by_cases he : eqK .f64 a b = true
    all_goals
      go_enter Tryz.func66, Tryz.ntmps66
      go_wp2_with (first | (go_at_call 104; refine (isNone_6 _ _).mono ?_; rintro e w' ⟨rfl, rfl⟩) | (go_at_call 105; refine (isMinusNought_6 _ _).mono ?_; rintro e w' ⟨rfl, rfl⟩))
      go_ret
      exact ⟨by simp [hs, he], rfl⟩
  all_goals
    have hs : smK .f64 a b = (nanK .f64 a && nanK .f64 b) := by unfold smK; simp [na, nb]
    go_enter Tryz.func66, Tryz.ntmps66
    go_wp2_with (first | (go_at_call 104; refine (isNone_6 _ _).mono ?_; rintro e w' ⟨rfl, rfl⟩) | (go_at_call 105; refine (isMinusNought_6 _ _).mono ?_; rintro e w' ⟨rfl, rfl⟩))
    go_ret
    exact ⟨by simp [hs, na, nb], rfl⟩

theorem finite_6 (a : Nat) (w : World) : Calls Tryz.prog 78 #[.float .f64 a] w fun e w' => ∃ n, e = .returned (.bool (finK .f64 a)) ∧ w' = w.drewN n := by
  have c1 := cmp_eq .f64
  have q := run_sub Tryz.prog
  have s := self_sub .f64 a
  go_enter Tryz.func78, Tryz.ntmps78
  go_wp2
  go_ret
  exact ⟨_, by simp, rfl⟩

theorem within_6 (a b : Nat) (w : World) : Calls Tryz.prog 50 #[.float .f64 a, .float .f64 b] w fun e w' => e = .returned (.bool (withinK .f64 a b)) ∧ w' = w := by
  have c1 := cmp_le .f64
  have c2 := run_neg Tryz.prog
  cases h : leK .f64 (Op.negFloat .f64 b) a
  all_goals
    go_enter Tryz.func50, Tryz.ntmps50
    go_wp2
    go_ret
    exact ⟨by simp [withinK, h], rfl⟩

theorem clamp_6 (a b c : Nat) (w : World) : Calls Tryz.prog 111 #[.float .f64 a, .float .f64 b, .float .f64 c] w fun e w' => e = .returned (.float .f64 (clK .f64 a b c)) ∧ w' = w := by
  have c1 := cmp_gt .f64
  cases h1 : ltK .f64 b a
  · go_enter Tryz.func111, Tryz.ntmps111
    go_wp2
    go_ret
    exact ⟨by simp [clK, h1], rfl⟩
  · cases h2 : ltK .f64 c a
    all_goals
      go_enter Tryz.func111, Tryz.ntmps111
      go_wp2
      go_ret
      exact ⟨by simp [clK, h1, h2], rfl⟩

theorem isAhead_any (a b : Nat) (w : World) : Calls Tryz.prog 67 #[.float .f64 a, .float .f64 b] w fun e w' => e = .returned (.bool (aheadK a b)) ∧ w' = w := by
  have c1 := cmp_lt .f64
  have c2 := cmp_eq .f64
  cases na : nanK .f64 a <;> cases nb : nanK .f64 b
  · cases h1 : ltK .f64 a b
    · cases h2 : eqK .f64 a b
      all_goals
        go_enter Tryz.func67, Tryz.ntmps67
        go_wp2_with (first | (go_at_call 104; refine (isNone_6 _ _).mono ?_; rintro e w' ⟨rfl, rfl⟩) | (go_at_call 105; refine (isMinusNought_6 _ _).mono ?_; rintro e w' ⟨rfl, rfl⟩))
        go_ret
        exact ⟨by simp [aheadK, na, nb, h1, h2], rfl⟩
    · go_enter Tryz.func67, Tryz.ntmps67
      go_wp2_with (first | (go_at_call 104; refine (isNone_6 _ _).mono ?_; rintro e w' ⟨rfl, rfl⟩) | (go_at_call 105; refine (isMinusNought_6 _ _).mono ?_; rintro e w' ⟨rfl, rfl⟩))
      go_ret
      exact ⟨by simp [aheadK, na, nb, h1], rfl⟩
  all_goals
    go_enter Tryz.func67, Tryz.ntmps67
    go_wp2_with (first | (go_at_call 104; refine (isNone_6 _ _).mono ?_; rintro e w' ⟨rfl, rfl⟩) | (go_at_call 105; refine (isMinusNought_6 _ _).mono ?_; rintro e w' ⟨rfl, rfl⟩))
    go_ret
    exact ⟨by simp [aheadK, na, nb], rfl⟩

theorem order_any (a b : Nat) (w : World) (ha : okK .f64 a) (hb : okK .f64 b) : Calls Tryz.prog 39 #[.float .f64 a, .float .f64 b] w fun e w' => e = .returned (.int .i64 (ordK a b)) ∧ w' = w := by
  cases h1 : smK .f64 a b
  · cases h2 : aheadK a b
    all_goals
      go_enter Tryz.func39, Tryz.ntmps39
      go_wp2_with (first | (go_at_call 66; refine (same_6 _ _ _ ha hb).mono ?_; rintro e w' ⟨rfl, rfl⟩) | (go_at_call 67; refine (isAhead_any _ _ _).mono ?_; rintro e w' ⟨rfl, rfl⟩))
      go_ret
      exact ⟨by simp [ordK, h1, h2], rfl⟩
  · go_enter Tryz.func39, Tryz.ntmps39
    go_wp2_with (first | (go_at_call 66; refine (same_6 _ _ _ ha hb).mono ?_; rintro e w' ⟨rfl, rfl⟩) | (go_at_call 67; refine (isAhead_any _ _ _).mono ?_; rintro e w' ⟨rfl, rfl⟩))
    go_ret
    exact ⟨by simp [ordK, h1], rfl⟩

theorem rNone_any (a : Nat) (w : World) (ha : okK .f64 a) : Calls Tryz.prog 69 #[.float .f64 a] w fun e w' => e = .returned (.bool (nanK .f64 a)) ∧ w' = w := by
  have hb := bits_run
  have hn := nan_bits a ha
  by_cases h : bits .and .u64 ((a : Int) / 4503599627370496) 2047 = 2047
  all_goals
    go_enter Tryz.func69, Tryz.ntmps69
    go_wp2
    go_ret
    exact ⟨by rw [hn]; simp [h], rfl⟩

theorem rPlace_any (a : Nat) (w : World) (ha : okK .f64 a) : Calls Tryz.prog 70 #[.float .f64 a] w fun e w' => e = .returned (.int .i64 (plK a)) ∧ w' = w := by
  have hb := bits_run
  have hp := hide (plK_bits a ha)
  have hw := half_wrap a
  have hv := less_one a
  by_cases h : (a : Int) / 9223372036854775808 = 1
  all_goals
    go_enter Tryz.func70, Tryz.ntmps70
    go_wp2
    go_ret
    exact ⟨by rw [unhide hp]; simp [h, hv], rfl⟩

theorem rOrder_any (a b : Nat) (w : World) (ha : okK .f64 a) (hb : okK .f64 b) : Calls Tryz.prog 43 #[.float .f64 a, .float .f64 b] w fun e w' => e = .returned (.int .i64 (ordK a b)) ∧ w' = w := by
  have hr := ord_ref a b ha hb
  cases na : nanK .f64 a <;> cases nb : nanK .f64 b
  · have hx : plK a < plK b ∨ (¬ plK a < plK b ∧ plK b < plK a) ∨ (¬ plK a < plK b ∧ ¬ plK b < plK a) := by omega
    rcases hx with h1 | ⟨h1, h2⟩ | ⟨h1, h2⟩
    · have hv := hide (show ordK a b = -1 by rw [hr, na, nb]; simp [h1])
      clear hr
      go_enter Tryz.func43, Tryz.ntmps43
      go_wp2_with (first | (go_at_call 69; refine (rNone_any _ _ (by assumption)).mono ?_; rintro e w' ⟨rfl, rfl⟩) | (go_at_call 70; refine (rPlace_any _ _ (by assumption)).mono ?_; rintro e w' ⟨rfl, rfl⟩))
      go_ret
      exact ⟨by rw [unhide hv]; rfl, rfl⟩
    · have hv := hide (show ordK a b = 1 by rw [hr, na, nb]; simp [h1, h2])
      clear hr
      go_enter Tryz.func43, Tryz.ntmps43
      go_wp2_with (first | (go_at_call 69; refine (rNone_any _ _ (by assumption)).mono ?_; rintro e w' ⟨rfl, rfl⟩) | (go_at_call 70; refine (rPlace_any _ _ (by assumption)).mono ?_; rintro e w' ⟨rfl, rfl⟩))
      go_ret
      exact ⟨by rw [unhide hv]; rfl, rfl⟩
    · have hv := hide (show ordK a b = 0 by rw [hr, na, nb]; simp [h1, h2])
      clear hr
      go_enter Tryz.func43, Tryz.ntmps43
      go_wp2_with (first | (go_at_call 69; refine (rNone_any _ _ (by assumption)).mono ?_; rintro e w' ⟨rfl, rfl⟩) | (go_at_call 70; refine (rPlace_any _ _ (by assumption)).mono ?_; rintro e w' ⟨rfl, rfl⟩))
      go_ret
      exact ⟨by rw [unhide hv]; rfl, rfl⟩
  all_goals
    go_enter Tryz.func43, Tryz.ntmps43
    go_wp2_with (first | (go_at_call 69; refine (rNone_any _ _ (by assumption)).mono ?_; rintro e w' ⟨rfl, rfl⟩))
    go_ret
    exact ⟨by simp [hr, na, nb], rfl⟩

end Go.Proofs.YtekhnolpgoejdaaGreat
