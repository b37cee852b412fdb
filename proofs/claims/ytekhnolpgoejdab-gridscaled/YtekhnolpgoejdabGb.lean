/-
  What each function of package grid answers: one contract a function.
-/
import Derived.Test.YtekhnolpgoejdabGa
import Derived.Laws.FloatArith
import Derived.Laws.StructEq
import Derived.Deep.DeepCutAuto
import Derived.Laws.MakeOwn
import Derived.Below
import Derived.BigQuiet
import Derived.OwnWalk
import Derived.Laws.AppendOwn
import Derived.Laws.AppendOwnNone
import Derived.WalkKit
import Derived.WalkLawsBesides
import Derived.WalkSpells
import Derived.ProofKit
import Derived.OpenShut
import Derived.Deep.RegionHeld3
import Derived.Deep.LoopGhost
namespace Go.Proofs.Ytekhnolpgoejdab
open Go.ChangeShapes Go.WideShapes Go.ChangeAt Go.RowKit Go.Shelf Go.Lib Go.Sort
set_option linter.unusedVariables false
set_option linter.unusedSimpArgs false


theorem info_int : (Try.prog.info? 3).map (fun i => (i.zero, i.size, i.bytes)) = some (some (.int .i64 0), 1, 8) := by kernel_rfl
theorem info_pair : (Try.prog.info? 37).map (fun i => (i.zero, i.size, i.bytes)) = some (some (.agg #[.int .i64 0, .int .i64 0]), 2, 16) := by kernel_rfl
theorem info_box : (Try.prog.info? 35).map (fun i => (i.zero, i.size, i.bytes)) = some (some (.agg #[.float .f64 0, .float .f64 0, .float .f64 0, .float .f64 0]), 4, 32) := by kernel_rfl

theorem mayBe_s (d : Nat) (w : World) : Calls Try.prog 35 #[.float .f64 d] w fun e w' => e = .returned (.bool (mayW d)) ∧ w' = w := by
  have c1 := cmp_le .f64
  cases h1 : leK .f64 4472074429978902528 d
  · go_enter Try.func35, Try.ntmps35
    go_wp2
    go_ret
    exact ⟨by simp [mayW, h1], rfl⟩
  · cases h2 : leK .f64 d 4787326403894837248
    all_goals
      go_enter Try.func35, Try.ntmps35
      go_wp2
      go_ret
      exact ⟨by simp [mayW, h1, h2], rfl⟩
theorem chk_may (b : Bo) : (chkN (bChk b.1 b.2.1 b.2.2.1 b.2.2.2) == 0) = mayO b := by
  unfold mayO chkN
  cases bChk b.1 b.2.1 b.2.2.1 b.2.2.2 <;> rfl
theorem lies_s (b : Bo) (w : World) : Calls Try.prog 26 #[.agg #[.float .f64 b.1, .float .f64 b.2.1, .float .f64 b.2.2.1, .float .f64 b.2.2.2]] w fun e w' => e = .returned (.bool (mayO b)) ∧ Bel w w' := by
  have h := chk_may b
  go_enter Try.func26, Try.ntmps26
  go_wp2_with (first | (go_at_call 9; (with_reducible refine (xCheck_any _ _ _ _ _).mono ?_); rintro e w' ⟨rfl, hb⟩))
  go_ret
  exact ⟨rfl, bl_trans (bl_alloc (bl_refl _) _ _) hb⟩
def ckG (n d : Nat) : Int := if 16384 < n then 4 else if mayW d then 0 else 140
theorem check_s (sa : Option Addr) (n cap d : Nat) (w : World) : Calls Try.prog 18 #[.slice sa n cap, .float .f64 d] w fun e w' => e = .returned (.int .i64 (ckG n d)) ∧ w' = w := by
  by_cases hn : 16384 < n
  · have hz : (16384 : Int) < (n : Int) := by omega
    go_enter Try.func18, Try.ntmps18
    go_wp2
    go_ret
    exact ⟨by simp [ckG, hn], rfl⟩
  · have hz : ¬ (16384 : Int) < (n : Int) := by omega
    cases hm : mayW d
    all_goals
      go_enter Try.func18, Try.ntmps18
      go_wp2_with (first | (go_at_call 35; (with_reducible refine (mayBe_s _ _).mono ?_); rintro e w' ⟨rfl, hw⟩; rw [hw, hm]; clear hw))
      go_ret
      exact ⟨by simp [ckG, hn, hm], rfl⟩
theorem limit_s (m : Nat) (w : World) (h : m ≤ 65536) : Calls Try.prog 63 #[.int .i64 (m : Int)] w fun e w' => e = .returned (.int .i64 0) ∧ w' = w := by
  have hz : ¬ (65536 : Int) < (m : Int) := by omega
  go_enter Try.func63, Try.ntmps63
  go_wp2
  go_ret
  exact ⟨rfl, rfl⟩
theorem isWide_s (a : Sp4) (w : World) (h : inSp a) : Calls Try.prog 42 #[.agg #[.int .i64 a.1.1, .int .i64 a.1.2, .int .i64 a.2.1, .int .i64 a.2.2]] w fun e w' => e = .returned (.bool (wideS a)) ∧ Bel w w' := by
  obtain ⟨⟨l, m⟩, ⟨p, q⟩⟩ := a
  obtain ⟨h1, h2, h3, h4⟩ := h
  unfold near53 at h1 h2 h3 h4
  simp only at h1 h2 h3 h4 ⊢
  have e1 : IntKind.wrap .i64 (p - l) = p - l := by rw [IntKind.wrap_i64]; omega
  have e2 : IntKind.wrap .i64 (q - m) = q - m := by rw [IntKind.wrap_i64]; omega
  have B0 := bl_alloc (bl_refl w) #[.int .i64 l, .int .i64 m, .int .i64 p, .int .i64 q] 81
  by_cases g1 : 4 ≤ p - l
  · go_enter Try.func42, Try.ntmps42
    go_wp2
    go_ret
    exact ⟨by simp [wideS, g1], B0⟩
  · by_cases g2 : 4 ≤ q - m
    all_goals
      go_enter Try.func42, Try.ntmps42
      go_wp2
      go_ret
      exact ⟨by simp [wideS, g1, g2], B0⟩

end Go.Proofs.Ytekhnolpgoejdab
