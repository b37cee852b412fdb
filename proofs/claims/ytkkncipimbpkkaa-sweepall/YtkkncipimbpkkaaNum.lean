/-
  What each function of package num answers, and what the reference of its chapter answers: one contract a function, for every float, no world changed but for draws of no numbers.
-/
import Derived.Test.YtkkncipimbpkkaaRows
import Derived.Test.YtkkncipimbpkkaaFlt
import Derived.WalkKit
import Derived.WalkLawsBesides
import Derived.WalkSpells
import Derived.ProofKit
import Derived.OpenShut
namespace Go.Proofs.Ytkkncipimbpkkaa
open Go.ChangeShapes Go.WideShapes Go.ChangeAt Go.RowKit

theorem less_one (a : Nat) : wrap64 (wrap64 (-(IntKind.u64.wrap ((a : Int) * 2) / 2)) - 1) = -(IntKind.u64.wrap ((a : Int) * 2) / 2) - 1 := by
  have e2 : IntKind.u64.wrap ((a : Int) * 2) = (a : Int) * 2 % 18446744073709551616 := by simp [IntKind.wrap, IntKind.bits, IntKind.signed]
  rw [e2]
  unfold wrap64
  omega
theorem grown_drewN (w : World) (n : Nat) : Grown w (w.drewN n) := Grown.refl w
theorem hide {p : Prop} (h : p) : Hid p := h
theorem unhide {p : Prop} (h : Hid p) : p := h

theorem bits_run (b : Nat) (w : World) : (callFunc 71 #[.float .f64 b]).run Try.prog w = .ok (.value (.int .u64 b)) w := by
  rw [run_callFunc_extern Try.func71 (by kernel_rfl) (by kernel_rfl) (by kernel_rfl) (f := 71) (e := Extern.MathFloatBits.float64bits) (by kernel_rfl)]
  rfl

theorem from_run (b : Nat) (w : World) : (callFunc 47 #[.int .u64 b]).run Try.prog w = .ok (.value (.float .f64 b)) w := by
  rw [run_callFunc_extern Try.func47 (by kernel_rfl) (by kernel_rfl) (by kernel_rfl) (f := 47) (e := Extern.MathFloatBits.float64frombits) (by kernel_rfl)]
  rfl

theorem finite_6 (a : Nat) (w : World) : Calls Try.prog 51 #[.float .f64 a] w fun e w' => ∃ n, e = .returned (.bool (finK .f64 a)) ∧ w' = w.drewN n := by
  have c1 := cmp_eq .f64
  have q := run_sub Try.prog
  have s := self_sub .f64 a
  go_enter Try.func51, Try.ntmps51
  go_wp2
  go_ret
  exact ⟨_, by simp, rfl⟩

theorem rNone_any (a : Nat) (w : World) (ha : okK .f64 a) : Calls Try.prog 70 #[.float .f64 a] w fun e w' => e = .returned (.bool (nanK .f64 a)) ∧ w' = w := by
  have hb := bits_run
  have hn := nan_bits a ha
  by_cases h : bits .and .u64 ((a : Int) / 4503599627370496) 2047 = 2047
  all_goals
    go_enter Try.func70, Try.ntmps70
    go_wp2
    go_ret
    exact ⟨by rw [hn]; simp [h], rfl⟩

theorem rSame_any (a b : Nat) (w : World) (ha : okK .f64 a) (hb : okK .f64 b) : Calls Try.prog 58 #[.float .f64 a, .float .f64 b] w fun e w' => e = .returned (.bool (smK .f64 a b)) ∧ w' = w := by
  have hbr := bits_run
  cases na : nanK .f64 a <;> cases nb : nanK .f64 b
  all_goals
    go_enter Try.func58, Try.ntmps58
    go_wp2_with (first | (go_at_call 70; refine (rNone_any _ _ (by assumption)).mono ?_; rintro e w' ⟨rfl, rfl⟩))
    go_ret
    exact ⟨by simp [smK, na, nb, beq_cast], rfl⟩

end Go.Proofs.Ytkkncipimbpkkaa
