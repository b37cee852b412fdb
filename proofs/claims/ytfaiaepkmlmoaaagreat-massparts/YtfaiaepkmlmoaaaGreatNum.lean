/-
  What each function of package num answers, and what the reference of its chapter answers: one contract a function, for every float, no world changed but for draws of no numbers.
-/
import Derived.Test.YtfaiaepkmlmoaaaGreatRows
import Derived.Test.YtfaiaepkmlmoaaaGreatFlt
import Derived.WalkKit
import Derived.WalkLawsBesides
import Derived.WalkSpells
import Derived.ProofKit
import Derived.OpenShut
namespace Go.Proofs.YtfaiaepkmlmoaaaGreat
open Go.ChangeShapes Go.WideShapes Go.ChangeAt Go.RowKit

theorem less_one (a : Nat) : wrap64 (wrap64 (-(IntKind.u64.wrap ((a : Int) * 2) / 2)) - 1) = -(IntKind.u64.wrap ((a : Int) * 2) / 2) - 1 := by
  have e2 : IntKind.u64.wrap ((a : Int) * 2) = (a : Int) * 2 % 18446744073709551616 := by simp [IntKind.wrap, IntKind.bits, IntKind.signed]
  rw [e2]
  unfold wrap64
  omega
theorem hide {p : Prop} (h : p) : Hid p := h
theorem unhide {p : Prop} (h : Hid p) : p := h

theorem bits_run (b : Nat) (w : World) : (callFunc 69 #[.float .f64 b]).run Tryz.prog w = .ok (.value (.int .u64 b)) w := by
  rw [run_callFunc_extern Tryz.func69 (by kernel_rfl) (by kernel_rfl) (by kernel_rfl) (f := 69) (e := Extern.MathFloatBits.float64bits) (by kernel_rfl)]
  rfl

theorem finite_6 (a : Nat) (w : World) : Calls Tryz.prog 55 #[.float .f64 a] w fun e w' => ∃ n, e = .returned (.bool (finK .f64 a)) ∧ w' = w.drewN n := by
  have c1 := cmp_eq .f64
  have q := run_sub Tryz.prog
  have s := self_sub .f64 a
  go_enter Tryz.func55, Tryz.ntmps55
  go_wp2
  go_ret
  exact ⟨_, by simp, rfl⟩

theorem within_6 (a b : Nat) (w : World) : Calls Tryz.prog 54 #[.float .f64 a, .float .f64 b] w fun e w' => e = .returned (.bool (withinK .f64 a b)) ∧ w' = w := by
  have c1 := cmp_le .f64
  have c2 := run_neg Tryz.prog
  cases h : leK .f64 (Op.negFloat .f64 b) a
  all_goals
    go_enter Tryz.func54, Tryz.ntmps54
    go_wp2
    go_ret
    exact ⟨by simp [withinK, h], rfl⟩

theorem rNone_any (a : Nat) (w : World) (ha : okK .f64 a) : Calls Tryz.prog 92 #[.float .f64 a] w fun e w' => e = .returned (.bool (nanK .f64 a)) ∧ w' = w := by
  have hb := bits_run
  have hn := nan_bits a ha
  by_cases h : bits .and .u64 ((a : Int) / 4503599627370496) 2047 = 2047
  all_goals
    go_enter Tryz.func92, Tryz.ntmps92
    go_wp2
    go_ret
    exact ⟨by rw [hn]; simp [h], rfl⟩

theorem rPlace_any (a : Nat) (w : World) (ha : okK .f64 a) : Calls Tryz.prog 97 #[.float .f64 a] w fun e w' => e = .returned (.int .i64 (plK a)) ∧ w' = w := by
  have hb := bits_run
  have hp := hide (plK_bits a ha)
  have hw := half_wrap a
  have hv := less_one a
  by_cases h : (a : Int) / 9223372036854775808 = 1
  all_goals
    go_enter Tryz.func97, Tryz.ntmps97
    go_wp2
    go_ret
    exact ⟨by rw [unhide hp]; simp [h, hv], rfl⟩

theorem rWorth_any (a : Nat) (w : World) (ha : okK .f64 a) : Calls Tryz.prog 96 #[.float .f64 a] w fun e w' => e = .returned (.int .i64 (wtK a)) ∧ w' = w := by
  by_cases h : plK a = -1
  all_goals
    go_enter Tryz.func96, Tryz.ntmps96
    go_wp2_with (first | (go_at_call 97; refine (rPlace_any _ _ (by assumption)).mono ?_; rintro e w' ⟨rfl, rfl⟩))
    go_ret
    exact ⟨by simp [wtK, h], rfl⟩

theorem rAbove_any (a b : Nat) (w : World) (ha : okK .f64 a) (hb : okK .f64 b) : Calls Tryz.prog 93 #[.float .f64 a, .float .f64 b] w fun e w' => e = .returned (.bool (ltK .f64 b a)) ∧ w' = w := by
  have hw := wtK_lt b a
  cases na : nanK .f64 a <;> cases nb : nanK .f64 b
  all_goals
    go_enter Tryz.func93, Tryz.ntmps93
    go_wp2_with (first | (go_at_call 92; refine (rNone_any _ _ (by assumption)).mono ?_; rintro e w' ⟨rfl, rfl⟩) | (go_at_call 96; refine (rWorth_any _ _ (by assumption)).mono ?_; rintro e w' ⟨rfl, rfl⟩))
    go_ret
    exact ⟨by simp [ltK, na, nb], rfl⟩

theorem nWithin_any (a b : Nat) (w : World) (ha : okK .f64 a) (hb : okK .f64 b) : Calls Tryz.prog 88 #[.float .f64 a, .float .f64 b] w fun e w' => e = .returned (.bool (withinK .f64 a b)) ∧ w' = w := by
  have c2 := run_neg Tryz.prog
  have hm := (neg_facts .f64 b hb).2.2
  have hr := within_ref a b hb
  cases na : nanK .f64 a <;> cases nb : nanK .f64 b
  · cases h1 : ltK .f64 b a
    all_goals
      go_enter Tryz.func88, Tryz.ntmps88
      go_wp2_with (first | (go_at_call 92; refine (rNone_any _ _ (by assumption)).mono ?_; rintro e w' ⟨rfl, rfl⟩) | (go_at_call 93; refine (rAbove_any _ _ _ (by assumption) (by assumption)).mono ?_; rintro e w' ⟨rfl, rfl⟩))
      go_ret
      exact ⟨by simp [hr, na, nb, h1], rfl⟩
  all_goals
    go_enter Tryz.func88, Tryz.ntmps88
    go_wp2_with (first | (go_at_call 92; refine (rNone_any _ _ (by assumption)).mono ?_; rintro e w' ⟨rfl, rfl⟩) | (go_at_call 93; refine (rAbove_any _ _ _ (by assumption) (by assumption)).mono ?_; rintro e w' ⟨rfl, rfl⟩))
    go_ret
    exact ⟨by simp [hr, na, nb], rfl⟩

end Go.Proofs.YtfaiaepkmlmoaaaGreat
