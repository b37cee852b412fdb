/-
  What each function of package num answers, and what the reference of its chapter answers: one contract a function, for every float, no world changed but for draws of no numbers.
-/
import Derived.Test.YtfjlonnmhioleaaRows
import Derived.Test.YtfjlonnmhioleaaFlt
import Derived.WalkKit
import Derived.WalkLawsBesides
import Derived.WalkSpells
import Derived.ProofKit
import Derived.OpenShut
namespace Go.Proofs.Ytfjlonnmhioleaa
open Go.ChangeShapes Go.WideShapes Go.ChangeAt Go.RowKit

theorem less_one (a : Nat) : wrap64 (wrap64 (-(IntKind.u64.wrap ((a : Int) * 2) / 2)) - 1) = -(IntKind.u64.wrap ((a : Int) * 2) / 2) - 1 := by
  have e2 : IntKind.u64.wrap ((a : Int) * 2) = (a : Int) * 2 % 18446744073709551616 := by simp [IntKind.wrap, IntKind.bits, IntKind.signed]
  rw [e2]
  unfold wrap64
  omega
theorem grown_drewN (w : World) (n : Nat) : Grown w (w.drewN n) := Grown.refl w
theorem hide {p : Prop} (h : p) : Hid p := h
theorem unhide {p : Prop} (h : Hid p) : p := h

theorem bits_run (b : Nat) (w : World) : (callFunc 22 #[.float .f64 b]).run Try.prog w = .ok (.value (.int .u64 b)) w := by
  rw [run_callFunc_extern Try.func22 (by kernel_rfl) (by kernel_rfl) (by kernel_rfl) (f := 22) (e := Extern.MathFloatBits.float64bits) (by kernel_rfl)]
  rfl

theorem from_run (b : Nat) (w : World) : (callFunc 21 #[.int .u64 b]).run Try.prog w = .ok (.value (.float .f64 b)) w := by
  rw [run_callFunc_extern Try.func21 (by kernel_rfl) (by kernel_rfl) (by kernel_rfl) (f := 21) (e := Extern.MathFloatBits.float64frombits) (by kernel_rfl)]
  rfl

theorem within_6 (a b : Nat) (w : World) : Calls Try.prog 15 #[.float .f64 a, .float .f64 b] w fun e w' => e = .returned (.bool (withinK .f64 a b)) ∧ w' = w := by
  have c1 := cmp_le .f64
  have c2 := run_neg Try.prog
  cases h : leK .f64 (Op.negFloat .f64 b) a
  all_goals
    go_enter Try.func15, Try.ntmps15
    go_wp2
    go_ret
    exact ⟨by simp [withinK, h], rfl⟩

theorem clamp_6 (a b c : Nat) (w : World) : Calls Try.prog 31 #[.float .f64 a, .float .f64 b, .float .f64 c] w fun e w' => e = .returned (.float .f64 (clK .f64 a b c)) ∧ w' = w := by
  have c1 := cmp_gt .f64
  cases h1 : ltK .f64 b a
  · go_enter Try.func31, Try.ntmps31
    go_wp2
    go_ret
    exact ⟨by simp [clK, h1], rfl⟩
  · cases h2 : ltK .f64 c a
    all_goals
      go_enter Try.func31, Try.ntmps31
      go_wp2
      go_ret
      exact ⟨by simp [clK, h1, h2], rfl⟩

theorem rNone_any (a : Nat) (w : World) (ha : okK .f64 a) : Calls Try.prog 26 #[.float .f64 a] w fun e w' => e = .returned (.bool (nanK .f64 a)) ∧ w' = w := by
  have hb := bits_run
  have hn := nan_bits a ha
  by_cases h : bits .and .u64 ((a : Int) / 4503599627370496) 2047 = 2047
  all_goals
    go_enter Try.func26, Try.ntmps26
    go_wp2
    go_ret
    exact ⟨by rw [hn]; simp [h], rfl⟩

theorem rSame_any (a b : Nat) (w : World) (ha : okK .f64 a) (hb : okK .f64 b) : Calls Try.prog 28 #[.float .f64 a, .float .f64 b] w fun e w' => e = .returned (.bool (smK .f64 a b)) ∧ w' = w := by
  have hbr := bits_run
  cases na : nanK .f64 a <;> cases nb : nanK .f64 b
  all_goals
    go_enter Try.func28, Try.ntmps28
    go_wp2_with (first | (go_at_call 26; refine (rNone_any _ _ (by assumption)).mono ?_; rintro e w' ⟨rfl, rfl⟩))
    go_ret
    exact ⟨by simp [smK, na, nb, beq_cast], rfl⟩

theorem rPlace_any (a : Nat) (w : World) (ha : okK .f64 a) : Calls Try.prog 32 #[.float .f64 a] w fun e w' => e = .returned (.int .i64 (plK a)) ∧ w' = w := by
  have hb := bits_run
  have hp := hide (plK_bits a ha)
  have hw := half_wrap a
  have hv := less_one a
  by_cases h : (a : Int) / 9223372036854775808 = 1
  all_goals
    go_enter Try.func32, Try.ntmps32
    go_wp2
    go_ret
    exact ⟨by rw [unhide hp]; simp [h, hv], rfl⟩

theorem rWorth_any (a : Nat) (w : World) (ha : okK .f64 a) : Calls Try.prog 30 #[.float .f64 a] w fun e w' => e = .returned (.int .i64 (wtK a)) ∧ w' = w := by
  by_cases h : plK a = -1
  all_goals
    go_enter Try.func30, Try.ntmps30
    go_wp2_with (first | (go_at_call 32; refine (rPlace_any _ _ (by assumption)).mono ?_; rintro e w' ⟨rfl, rfl⟩))
    go_ret
    exact ⟨by simp [wtK, h], rfl⟩

theorem rAbove_any (a b : Nat) (w : World) (ha : okK .f64 a) (hb : okK .f64 b) : Calls Try.prog 27 #[.float .f64 a, .float .f64 b] w fun e w' => e = .returned (.bool (ltK .f64 b a)) ∧ w' = w := by
  have hw := wtK_lt b a
  cases na : nanK .f64 a <;> cases nb : nanK .f64 b
  all_goals
    go_enter Try.func27, Try.ntmps27
    go_wp2_with (first | (go_at_call 26; refine (rNone_any _ _ (by assumption)).mono ?_; rintro e w' ⟨rfl, rfl⟩) | (go_at_call 30; refine (rWorth_any _ _ (by assumption)).mono ?_; rintro e w' ⟨rfl, rfl⟩))
    go_ret
    exact ⟨by simp [ltK, na, nb], rfl⟩

theorem nWithin_any (a b : Nat) (w : World) (ha : okK .f64 a) (hb : okK .f64 b) : Calls Try.prog 20 #[.float .f64 a, .float .f64 b] w fun e w' => e = .returned (.bool (withinK .f64 a b)) ∧ w' = w := by
  have c2 := run_neg Try.prog
  have hm := (neg_facts .f64 b hb).2.2
  have hr := within_ref a b hb
  cases na : nanK .f64 a <;> cases nb : nanK .f64 b
  · cases h1 : ltK .f64 b a
    all_goals
      go_enter Try.func20, Try.ntmps20
      go_wp2_with (first | (go_at_call 26; refine (rNone_any _ _ (by assumption)).mono ?_; rintro e w' ⟨rfl, rfl⟩) | (go_at_call 27; refine (rAbove_any _ _ _ (by assumption) (by assumption)).mono ?_; rintro e w' ⟨rfl, rfl⟩))
      go_ret
      exact ⟨by simp [hr, na, nb, h1], rfl⟩
  all_goals
    go_enter Try.func20, Try.ntmps20
    go_wp2_with (first | (go_at_call 26; refine (rNone_any _ _ (by assumption)).mono ?_; rintro e w' ⟨rfl, rfl⟩) | (go_at_call 27; refine (rAbove_any _ _ _ (by assumption) (by assumption)).mono ?_; rintro e w' ⟨rfl, rfl⟩))
    go_ret
    exact ⟨by simp [hr, na, nb], rfl⟩

end Go.Proofs.Ytfjlonnmhioleaa
