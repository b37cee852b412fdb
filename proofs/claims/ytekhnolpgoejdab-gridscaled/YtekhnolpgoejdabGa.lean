/-
  What each function of package grid answers: one contract a function.
-/
import Derived.Test.YtekhnolpgoejdabNum
import Derived.Test.YtekhnolpgoejdabBprog
import Derived.Test.YtekhnolpgoejdabColm
import Derived.Test.YtekhnolpgoejdabBel
import Derived.Test.YtekhnolpgoejdabSwh
import Derived.Test.YtekhnolpgoejdabOnc7
import Derived.Test.YtekhnolpgoejdabGsy
import Derived.Laws.FloatArith
import Derived.Laws.StructEq
import Derived.Deep.DeepCutAuto
import Derived.Laws.MakeOwn
import Derived.Below
import Derived.BigQuiet
import Derived.OwnWalk
import Derived.Laws.AppendOwn
import Derived.Laws.AppendOwnNone
import Derived.WalkKit
import Derived.WalkLawsBesides
import Derived.WalkSpells
import Derived.ProofKit
import Derived.OpenShut
import Derived.Deep.RegionHeld3
import Derived.Deep.LoopGhost
namespace Go.Proofs.Ytekhnolpgoejdab
open Go.ChangeShapes Go.WideShapes Go.ChangeAt Go.RowKit Go.Shelf Go.Lib Go.Sort
set_option linter.unusedVariables false
set_option linter.unusedSimpArgs false


theorem at_one {α : Type} {x : Nat} {v : α} {G : (Nat → α) → Prop} (h : G (fun _ => v)) (hG : ∀ dec, G dec = G (fun _ => dec x)) : ∀ dec : Nat → α, dec x = v → G dec := fun dec e => by
  rw [hG, e]; exact h
theorem floor_run {x : Nat} (n : nanK .f64 x = false) (w : World) : (callFunc 75 #[.float .f64 x]).run Try.prog w = .ok (.value (.float .f64 (flK x))) w := by
  rw [run_callFunc_extern Try.func75 (by kernel_rfl) (by kernel_rfl) (by kernel_rfl) (f := 75) (e := Extern.MathFloor.toIntegral "math.archFloor" .down) (by kernel_rfl)]
  unfold flK
  cases hf : finK .f64 x
  · have e : FloatKind.f64.decode x = .infinity (ngK .f64 x) := read_inf _ (okF .f64) x (fin_inf hf n)
    unfold Extern.MathFloor.toIntegral
    revert e
    generalize FloatKind.f64.decode = dec
    revert dec
    refine at_one (x := x) ?_ (fun _ => rfl)
    rfl
  · obtain ⟨m, p, e, _⟩ := read_num64 x hf
    have e : FloatKind.f64.decode x = _ := e
    unfold Extern.MathFloor.toIntegral
    revert e
    generalize FloatKind.f64.decode = dec
    revert dec
    refine at_one (x := x) ?_ (fun _ => rfl)
    rfl
theorem floor_s {x : Nat} (n : nanK .f64 x = false) (w : World) : Calls Try.prog 55 #[.float .f64 x] w fun e w' => e = .returned (.float .f64 (flK x)) ∧ w' = w := by
  have q := fun w => floor_run n w
  go_enter Try.func55, Try.ntmps55
  go_wp2
  go_ret
  exact ⟨rfl, rfl⟩
theorem run_quo_some (t : TypeId) {x y v : Nat} (h : floatBits .quo .f64 x y = some v) (w : World) : (binOp .quo t (.float .f64 x) (.float .f64 y)).run Try.prog w = .ok (.float .f64 v) w := by
  rw [run_quo]
  unfold fv fd
  rw [h]
  rfl
theorem widths_s {x d : Nat} (n : nanK .f64 x = false) (h : mayW d = true) (w : World) : Calls Try.prog 36 #[.float .f64 x, .float .f64 d] w fun e w' => e = .returned (.float .f64 (flK (Dv .quo x d))) ∧ w' = w := by
  obtain ⟨hq, nq, _⟩ := qu_num n h
  have q := fun w => run_quo_some 23 hq w
  go_enter Try.func36, Try.ntmps36
  go_wp2_with (first | (go_at_call 55; (with_reducible refine (floor_s nq _).mono ?_); rintro e w' ⟨rfl, hw⟩; rw [hw]; clear hw))
  go_ret
  exact ⟨rfl, rfl⟩
theorem conv_int {x : Nat} {n : Int} (h : (FloatKind.f64.decode x).toInt .zero = some n) (h1 : -9007199254740992 ≤ n) (h2 : n ≤ 9007199254740992) (w : World) : (convert 23 2 (.float .f64 x)).run Try.prog w = .ok (.int .i64 n) w := by
  refine run_convert_float_int w 23 2 .f64 .i64 x n (by rw [Try.underlying23]; rfl) Try.underlying2 ?_
  unfold floatToIntVal
  rw [h]
  have e1 : IntKind.i64.min = -9223372036854775808 := by decide +kernel
  have e2 : IntKind.i64.max = 9223372036854775807 := by decide +kernel
  simp only [e1, e2]
  rw [if_pos (by omega)]
theorem column_s {x d : Nat} (n : nanK .f64 x = false) (h : mayW d = true) (w : World) : Calls Try.prog 56 #[.float .f64 x, .float .f64 d] w fun e w' => e = .returned (.int .i64 (coK x d)) ∧ w' = w := by
  obtain ⟨_, nq, nf, ht, h1, h2⟩ := co_all n h
  have ok := (fl_num nq).2
  have q := fun w => conv_int ht h1 h2 w
  go_enter Try.func56, Try.ntmps56
  go_wp2_with (first | (go_at_call 36; (with_reducible refine (widths_s n h _).mono ?_); rintro e w' ⟨rfl, hw⟩; rw [hw]; clear hw) | (go_at_call 77; (with_reducible refine (clamp_6 _ _ _ _).mono ?_); rintro e w' ⟨rfl, hw⟩; rw [hw]; clear hw; rw [show clK .f64 (flK (Dv .quo x d)) 14069245235905429504 4845873199050653696 = coW x d from rfl]))
  go_ret
  exact ⟨rfl, rfl⟩

end Go.Proofs.Ytekhnolpgoejdab
