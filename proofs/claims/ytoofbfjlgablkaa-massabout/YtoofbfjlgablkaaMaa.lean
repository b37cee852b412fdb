/-
  MassAbout: what the law calls, and its walk.
-/
import Derived.Test.YtoofbfjlgablkaaVec
import Derived.Test.YtoofbfjlgablkaaMy
import Derived.Test.YtoofbfjlgablkaaMi
import Derived.Test.YtoofbfjlgablkaaMod
import Derived.Below
import Derived.OwnWalk
import Derived.Laws.AppendOwn
import Derived.Laws.StructEq
import Derived.WalkKit
import Derived.WalkLawsBesides
import Derived.WalkSpells
import Derived.ProofKit
import Derived.OpenShut
import Derived.Deep.RegionHeld3
namespace Go.Proofs.Ytoofbfjlgablkaa
open Go.ChangeShapes Go.WideShapes Go.ChangeAt Go.RowKit
set_option linter.unusedVariables false
set_option linter.unusedSimpArgs false
theorem same8 (a b c d a' b' c' d' : Nat) (w : World) (h1 : smK .f64 a a' = true) (h2 : smK .f64 b b' = true) (h3 : smK .f64 c c' = true) (h4 : smK .f64 d d' = true) : Calls Try.prog 8 #[.agg #[.float .f64 a, .float .f64 b, .float .f64 c, .float .f64 d], .agg #[.float .f64 a', .float .f64 b', .float .f64 c', .float .f64 d']] w fun e w' => e = .returned (.bool true) ∧ Bel w w' := by
  go_enter Try.func8, Try.ntmps8
  go_wp2_with (first | (go_at_call 31; refine (rIs_any _ _ _).mono ?_; rintro e w' ⟨rfl, rfl⟩; (first | rw [h1] | rw [h2])) | (go_at_call 32; refine (rSame_any _ _ _ _ _).mono ?_; rintro e w' ⟨rfl, hb⟩; rw [h3, h4]))
  go_ret
  refine ⟨rfl, ?_⟩
  repeat (first | exact bl_refl _ | assumption | apply bl_drewN | apply bl_drew | apply bl_alloc | refine bl_set ?_ (by simp <;> omega) | refine bl_trans ?_ (by assumption))
theorem nearly_any (a b c p : Nat) (oc : okK .f64 c) (w : World) : Calls Try.prog 13 #[.float .f64 a, .float .f64 b, .float .f64 c, .float .f64 p] w fun e w' => ∃ d q, resK .sub .f64 a b d ∧ resK .mul .f64 p (rgK .f64 c) q ∧ e = .returned (.bool (leK .f64 (rgK .f64 d) q)) ∧ Bel w w' := by
  have q1 := run_sub Try.prog
  have q2 := run_mul Try.prog
  have c1 := cmp_le .f64
  have od : ∀ w, okK .f64 (fv .sub .f64 a b w) := fun w => (fv_res .sub .f64 a b w).1
  go_enter Try.func13, Try.ntmps13
  go_wp2_with (first | (go_at_call 9; refine (abs_any _ _ (by first | exact od _ | assumption)).mono ?_; rintro e w1 ⟨rfl, rfl⟩))
  go_ret
  refine ⟨_, _, fv_res .sub .f64 _ _ _, fv_res .mul .f64 _ _ _, rfl, ?_⟩
  repeat (first | exact bl_refl _ | refine bl_drewN ?_ _)
/-- the greater of two floats, as the machine tells it -/
def mx2 (x y : Nat) (w : World) : Nat := match FloatKind.f64.format.order x y with
  | none => (Question.nanMinMax .f64 true x y).cut (w.tape w.drawn (.nanMinMax .f64 true x y))
  | some .lt => y
  | some .gt => x
  | some .eq => if (FloatKind.f64.decode x).neg then y else x
def md2 (x y : Nat) : Nat := match FloatKind.f64.format.order x y with
  | none => 1
  | _ => 0
theorem run_mx2 (x y : Nat) (w : World) : (Builtin.max2 (.float .f64 x) (.float .f64 y)).run Try.prog w = .ok (.float .f64 (mx2 x y w)) (w.drewN (md2 x y)) := by
  unfold Builtin.max2 mx2 md2
  dsimp only
  cases h : FloatKind.f64.format.order x y with
  | none => rfl
  | some o => cases o <;> rfl
theorem run_mx3 (ts : Array TypeId) (t : TypeId) (x y z : Nat) (w : World) : (Builtin.max_ ts t #[.float .f64 x, .float .f64 y, .float .f64 z]).run Try.prog w = .ok (.float .f64 (mx2 (mx2 x y w) z (w.drewN (md2 x y)))) ((w.drewN (md2 x y)).drewN (md2 (mx2 x y w) z)) := by
  show (List.foldlM Builtin.max2 (.float .f64 x) [.float .f64 y, .float .f64 z]).run Try.prog w = _
  simp only [List.foldlM_cons, List.foldlM_nil, Sem.run_bind, run_mx2, Result.andThen_ok, Sem.run_pure]
theorem mx2_ok (x y : Nat) (w : World) (hx : okK .f64 x) (hy : okK .f64 y) : okK .f64 (mx2 x y w) := by
  unfold mx2
  split
  · exact (cut_nan .f64 x y _).1
  · exact hy
  · exact hx
  · split <;> assumption
/-- the greater of two that are no less than nought -/
theorem mx2_is {x y : Nat} (w : World) (fx : finK .f64 x = true) (fy : finK .f64 y = true) (px : rv x = av x) (py : rv y = av y) : finK .f64 (mx2 x y w) = true ∧ rv (mx2 x y w) = av (mx2 x y w) ∧ av x ≤ av (mx2 x y w) ∧ av y ≤ av (mx2 x y w) := by
  have nx := fin_num fx
  have ny := fin_num fy
  unfold mx2
  have h1 := cmp_lt .f64 x y
  have h2 := cmp_gt .f64 x y
  have h3 := cmp_eq .f64 x y
  have l1 := lt_rv nx ny
  have l2 := lt_rv ny nx
  split
  · rename_i ho
    exfalso
    rw [ho] at h1 h2 h3
    have a1 : ltK .f64 x y = false := h1.symm
    have a2 : ltK .f64 y x = false := h2.symm
    have a3 : eqK .f64 x y = false := h3.symm
    unfold ltK at a1 a2
    unfold eqK at a3
    rw [nx, ny] at a1 a2 a3
    simp only [Bool.not_false, Bool.true_and, decide_eq_false_iff_not] at a1 a2 a3
    omega
  · rename_i ho
    rw [ho] at h1
    have := l1.1 (h1.symm.trans rfl)
    rw [px, py] at this
    exact ⟨fy, py, Rat.le_of_lt this, Rat.le_refl⟩
  · rename_i ho
    rw [ho] at h2
    have := l2.1 (h2.symm.trans rfl)
    rw [px, py] at this
    exact ⟨fx, px, Rat.le_refl, Rat.le_of_lt this⟩
  · rename_i ho
    rw [ho] at h3
    have a3 : eqK .f64 x y = true := h3.symm.trans rfl
    have e : av x = av y := by
      unfold eqK at a3
      simp only [Bool.and_eq_true, decide_eq_true_eq] at a3
      have s1 := (rv_le x y).2 ((wo_sv x y).1 (by omega))
      have s2 := (rv_le y x).2 ((wo_sv y x).1 (by omega))
      rw [px, py] at s1 s2
      exact Rat.le_antisymm s1 s2
    split
    · exact ⟨fy, py, by rw [e]; exact Rat.le_refl, Rat.le_refl⟩
    · exact ⟨fx, px, Rat.le_refl, by rw [e]; exact Rat.le_refl⟩
/-- the greatest part of the first so many, if they are numbers -/
def MX (xs ys : Nat → Nat) (q X : Nat) : Prop := okK .f64 X ∧ ((∀ i, i < q → finK .f64 (xs i) = true ∧ finK .f64 (ys i) = true) → finK .f64 X = true ∧ rv X = av X ∧ ∀ i, i < q → av (xs i) ≤ av X ∧ av (ys i) ≤ av X)
theorem MX.zero (xs ys : Nat → Nat) : MX xs ys 0 0 := ⟨by unfold okK; decide, fun _ => ⟨by decide +kernel, by decide +kernel, fun i hi => by omega⟩⟩
theorem av_rg (x : Nat) : av (rgK .f64 x) = av x := by unfold av mg; rw [(rg_abs x).1]
theorem MX.step {xs ys : Nat → Nat} {q X : Nat} (h : MX xs ys q X) (w w2 : World) (ox : okK .f64 (xs q)) (oy : okK .f64 (ys q)) : MX xs ys (q + 1) (mx2 (mx2 X (rgK .f64 (xs q)) w) (rgK .f64 (ys q)) w2) := by
  have o1 : ∀ {z : Nat}, okK .f64 z → okK .f64 (rgK .f64 z) := fun {z} hz => by rw [okK64] at hz ⊢; rw [rg64]; omega
  refine ⟨mx2_ok _ _ _ (mx2_ok _ _ _ h.1 (o1 ox)) (o1 oy), fun hv => ?_⟩
  obtain ⟨f1, f2, f3⟩ := h.2 (fun i hi => hv i (by omega))
  obtain ⟨v1, v2⟩ := hv q (by omega)
  have r : ∀ z, rv (rgK .f64 z) = av (rgK .f64 z) := fun z => by rw [rv_abs, av_rg]
  obtain ⟨a1, a2, a3, a4⟩ := mx2_is w f1 (by rw [fin_abs]; exact v1) f2 (r (xs q))
  obtain ⟨b1, b2, b3, b4⟩ := mx2_is w2 a1 (by rw [fin_abs]; exact v2) a2 (r (ys q))
  rw [av_rg] at a4 b4
  refine ⟨b1, b2, fun i hi => ?_⟩
  rcases Nat.lt_or_ge i q with g | g
  · have := f3 i g
    exact ⟨Rat.le_trans (Rat.le_trans this.1 a3) b3, Rat.le_trans (Rat.le_trans this.2 a3) b3⟩
  · obtain rfl : i = q := by omega
    exact ⟨Rat.le_trans a4 b3, b4⟩
theorem mRow_snoc (ms js xs ys : Nat → Nat) (q : Nat) : mRow ms js xs ys (q + 1) = mRow ms js xs ys q ++ [.float .f64 (ms q), .float .f64 (js q), .float .f64 (xs q), .float .f64 (ys q)] := by
  unfold mRow
  rw [show (q + 1) * 4 = q * 4 + 1 + 1 + 1 + 1 by omega, List.range_succ, List.range_succ, List.range_succ, List.range_succ]
  simp only [List.map_append, List.map_cons, List.map_nil, List.append_assoc, List.cons_append, List.nil_append]
  rw [show q * 4 % 4 = 0 by omega, show q * 4 / 4 = q by omega, show (q * 4 + 1) % 4 = 1 by omega, show (q * 4 + 1) / 4 = q by omega, show (q * 4 + 1 + 1) % 4 = 2 by omega, show (q * 4 + 1 + 1) / 4 = q by omega, show (q * 4 + 1 + 1 + 1) % 4 = 3 by omega, show (q * 4 + 1 + 1 + 1) / 4 = q by omega]
  rfl
theorem mRow_congr {ms js xs ys ms' js' xs' ys' : Nat → Nat} {n : Nat} : True := trivial
end Go.Proofs.Ytoofbfjlgablkaa
