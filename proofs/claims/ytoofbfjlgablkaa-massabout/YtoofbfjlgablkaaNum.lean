/-
  What each function of package num answers, and what the reference of its chapter answers: one contract a function, for every float, no world changed but for draws of no numbers.
-/
import Derived.Test.YtoofbfjlgablkaaRows
import Derived.Test.YtoofbfjlgablkaaFlt
import Derived.WalkKit
import Derived.WalkLawsBesides
import Derived.WalkSpells
import Derived.ProofKit
import Derived.OpenShut
namespace Go.Proofs.Ytoofbfjlgablkaa
open Go.ChangeShapes Go.WideShapes Go.ChangeAt Go.RowKit

theorem less_one (a : Nat) : wrap64 (wrap64 (-(IntKind.u64.wrap ((a : Int) * 2) / 2)) - 1) = -(IntKind.u64.wrap ((a : Int) * 2) / 2) - 1 := by
  have e2 : IntKind.u64.wrap ((a : Int) * 2) = (a : Int) * 2 % 18446744073709551616 := by simp [IntKind.wrap, IntKind.bits, IntKind.signed]
  rw [e2]
  unfold wrap64
  omega
theorem grown_drewN (w : World) (n : Nat) : Grown w (w.drewN n) := Grown.refl w
theorem hide {p : Prop} (h : p) : Hid p := h
theorem unhide {p : Prop} (h : Hid p) : p := h

theorem bits_run (b : Nat) (w : World) : (callFunc 34 #[.float .f64 b]).run Try.prog w = .ok (.value (.int .u64 b)) w := by
  rw [run_callFunc_extern Try.func34 (by kernel_rfl) (by kernel_rfl) (by kernel_rfl) (f := 34) (e := Extern.MathFloatBits.float64bits) (by kernel_rfl)]
  rfl

theorem from_run (b : Nat) (w : World) : (callFunc 33 #[.int .u64 b]).run Try.prog w = .ok (.value (.float .f64 b)) w := by
  rw [run_callFunc_extern Try.func33 (by kernel_rfl) (by kernel_rfl) (by kernel_rfl) (f := 33) (e := Extern.MathFloatBits.float64frombits) (by kernel_rfl)]
  rfl

theorem finite_6 (a : Nat) (w : World) : Calls Try.prog 49 #[.float .f64 a] w fun e w' => ∃ n, e = .returned (.bool (finK .f64 a)) ∧ w' = w.drewN n := by
  have c1 := cmp_eq .f64
  have q := run_sub Try.prog
  have s := self_sub .f64 a
  go_enter Try.func49, Try.ntmps49
  go_wp2
  go_ret
  exact ⟨_, by simp, rfl⟩

theorem within_6 (a b : Nat) (w : World) : Calls Try.prog 36 #[.float .f64 a, .float .f64 b] w fun e w' => e = .returned (.bool (withinK .f64 a b)) ∧ w' = w := by
  have c1 := cmp_le .f64
  have c2 := run_neg Try.prog
  cases h : leK .f64 (Op.negFloat .f64 b) a
  all_goals
    go_enter Try.func36, Try.ntmps36
    go_wp2
    go_ret
    exact ⟨by simp [withinK, h], rfl⟩

end Go.Proofs.Ytoofbfjlgablkaa
