/-
  What each function of package grid answers: one contract a function.
-/
import Derived.Test.YtekhnolpgoejdabGq
import Derived.Test.YtekhnolpgoejdabGpu
import Derived.Laws.FloatArith
import Derived.Laws.StructEq
import Derived.Deep.DeepCutAuto
import Derived.Laws.MakeOwn
import Derived.Below
import Derived.BigQuiet
import Derived.OwnWalk
import Derived.Laws.AppendOwn
import Derived.Laws.AppendOwnNone
import Derived.WalkKit
import Derived.WalkLawsBesides
import Derived.WalkSpells
import Derived.ProofKit
import Derived.OpenShut
import Derived.Deep.RegionHeld3
import Derived.Deep.LoopGhost
namespace Go.Proofs.Ytekhnolpgoejdab
open Go.ChangeShapes Go.WideShapes Go.ChangeAt Go.RowKit Go.Shelf Go.Lib Go.Sort
set_option linter.unusedVariables false
set_option linter.unusedSimpArgs false

theorem isInf_one (w : World) : Calls Try.prog 50 #[.float .f64 4607182418800017408, .int .i64 0] w fun e w' => e = .returned (.bool false) ∧ w' = w := by
  have c3 := cmp_gt .f64
  have o1 : okK .f64 4607182418800017408 := one_okK
  have r1 : rgK .f64 4607182418800017408 = 4607182418800017408 := by decide +kernel
  have e1 : ltK .f64 9218868437227405311 4607182418800017408 = false := by decide +kernel
  go_enter Try.func50, Try.ntmps50
  go_wp2_with (first | (go_at_call 12; refine (abs_any _ _ (by assumption)).mono ?_; rintro e w' ⟨rfl, rfl⟩))
  go_ret
  exact ⟨rfl, rfl⟩
theorem isNaN_one (w : World) : Calls Try.prog 51 #[.float .f64 4607182418800017408] w fun e w' => e = .returned (.bool false) ∧ w' = w := by
  have c1 := cmp_ne .f64
  have e1 : eqK .f64 4607182418800017408 4607182418800017408 = true := by decide +kernel
  go_enter Try.func51, Try.ntmps51
  go_wp2
  go_ret
  exact ⟨rfl, rfl⟩
theorem normalize_one (w : World) : Calls Try.prog 52 #[.float .f64 4607182418800017408] w fun e w' => e = .returned (.tuple #[.float .f64 4607182418800017408, .int .i64 0]) ∧ w' = w := by
  have c2 := cmp_lt .f64
  have o1 : okK .f64 4607182418800017408 := one_okK
  have r1 : rgK .f64 4607182418800017408 = 4607182418800017408 := by decide +kernel
  have e1 : ltK .f64 4607182418800017408 4503599627370496 = false := by decide +kernel
  go_enter Try.func52, Try.ntmps52
  go_wp2_with (first | (go_at_call 12; refine (abs_any _ _ (by assumption)).mono ?_; rintro e w' ⟨rfl, rfl⟩))
  go_ret2
  exact ⟨rfl, rfl⟩
theorem ldexp_in (e : Int) (h1 : -100 ≤ e) (h2 : e ≤ 100) (w : World) : Calls Try.prog 31 #[.float .f64 4607182418800017408, .int .i64 e] w fun e' w' => e' = .returned (.float .f64 (pw e)) ∧ w' = w := by
  have c1 := cmp_eq .f64
  have e0 : eqK .f64 4607182418800017408 0 = false := by decide +kernel
  have hb := bits_run
  have hf := from_int
  have e1 : bits .and .i64 1023 2047 = 1023 := by decide +kernel
  have e2 : bits .andNot .u64 4607182418800017408 9218868437227405312 = 0 := by decide +kernel
  have e3 : (bits .or .u64 0 ((e + 1023) * 4503599627370496)).toNat = pw e := by
    obtain ⟨n, hn⟩ : ∃ n : Nat, (e + 1023) * 4503599627370496 = (n : Int) := ⟨((e + 1023) * 4503599627370496).toNat, by omega⟩
    have := u64_or_nat 0 n (by omega) (by omega)
    rw [Nat.zero_or, Int.natCast_zero] at this
    unfold pw
    rw [hn, this]
  have e4 : ∀ (t : TypeId) (w : World), (binOp .mul t (.float .f64 4607182418800017408) (.float .f64 (pw e))).run Try.prog w = .ok (.float .f64 (pw e)) w := by
    intro t w
    obtain ⟨j, _, _, ff, fo⟩ := pw_sc h1 h2
    have := one_mul (pw e) ff fo
    rw [run_mul]
    unfold fv fd
    rw [show floatBits .mul .f64 4607182418800017408 (pw e) = some (pw e) from this]
    rfl
  go_enter Try.func31, Try.ntmps31
  go_wp2_with (first | (go_at_call 50; refine (isInf_one _).mono ?_; rintro e w' ⟨rfl, rfl⟩) | (go_at_call 51; refine (isNaN_one _).mono ?_; rintro e w' ⟨rfl, rfl⟩) | (go_at_call 52; refine (normalize_one _).mono ?_; rintro e w' ⟨rfl, rfl⟩))
  go_ret
  exact ⟨rfl, rfl⟩
theorem ldexp_one (e : Int) (h1 : -100 ≤ e) (h2 : e ≤ 100) (w : World) : Calls Try.prog 11 #[.float .f64 4607182418800017408, .int .i64 e] w fun e' w' => e' = .returned (.float .f64 (pw e)) ∧ w' = w := by
  go_enter Try.func11, Try.ntmps11
  go_wp2_with (first | (go_at_call 31; refine (ldexp_in _ (by assumption) (by assumption) _).mono ?_; rintro e w' ⟨rfl, rfl⟩))
  go_ret
  exact ⟨rfl, rfl⟩

end Go.Proofs.Ytekhnolpgoejdab
