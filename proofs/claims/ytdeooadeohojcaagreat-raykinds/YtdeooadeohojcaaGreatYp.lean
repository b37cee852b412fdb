/-
  What each function of package poly answers, and what the reference of its chapter answers: one contract a function, for every float: the answer stands in the relation of its formula to what was given; of the memory that was there nothing has turned.
-/
import Derived.Test.YtdeooadeohojcaaGreatVec
import Derived.Test.YtdeooadeohojcaaGreatYb
import Derived.Below
import Derived.WalkKit
import Derived.WalkLawsBesides
import Derived.WalkSpells
import Derived.ProofKit
import Derived.OpenShut
import Derived.Deep.RegionHeld3
namespace Go.Proofs.YtdeooadeohojcaaGreat
open Go.ChangeShapes Go.WideShapes Go.ChangeAt Go.RowKit
set_option linter.unusedVariables false
set_option linter.unusedSimpArgs false


theorem rSub_n {ax ay bx b_y : Nat} {A B : Vp} (w : World) (ha : isP ax ay A) (hb_ : isP bx b_y B) : Calls Tryz.prog 30 #[.agg #[.float .f64 ax, .float .f64 ay], .agg #[.float .f64 bx, .float .f64 b_y]] w fun e w' => ∃ x y, isP x y (suF A B) ∧ e = .returned (.agg #[.float .f64 x, .float .f64 y]) ∧ Bel w w' :=
  (rSub_any _ _ _ _ w).mono fun e w' ⟨x, y, h, he, hb⟩ => ⟨x, y, h.is ha hb_, he, hb⟩
theorem rDot_n {ax ay bx b_y : Nat} {A B : Vp} (w : World) (ha : isP ax ay A) (hb_ : isP bx b_y B) : Calls Tryz.prog 32 #[.agg #[.float .f64 ax, .float .f64 ay], .agg #[.float .f64 bx, .float .f64 b_y]] w fun e w' => ∃ r, isF r (dtF A B) ∧ e = .returned (.float .f64 r) ∧ Bel w w' :=
  (rDot_any _ _ _ _ w).mono fun e w' ⟨r, h, he, hb⟩ => ⟨r, h.is ha hb_, he, hb⟩
theorem rCross_n {ax ay bx b_y : Nat} {A B : Vp} (w : World) (ha : isP ax ay A) (hb_ : isP bx b_y B) : Calls Tryz.prog 42 #[.agg #[.float .f64 ax, .float .f64 ay], .agg #[.float .f64 bx, .float .f64 b_y]] w fun e w' => ∃ r, isF r (crF A B) ∧ e = .returned (.float .f64 r) ∧ Bel w w' :=
  (rCross_any _ _ _ _ w).mono fun e w' ⟨r, h, he, hb⟩ => ⟨r, h.is ha hb_, he, hb⟩
theorem rSquare_n {ax ay : Nat} {A : Vp} (w : World) (ha : isP ax ay A) : Calls Tryz.prog 31 #[.agg #[.float .f64 ax, .float .f64 ay]] w fun e w' => ∃ r, isF r (dtF A A) ∧ e = .returned (.float .f64 r) ∧ Bel w w' :=
  (rSquare_any _ _ w).mono fun e w' ⟨r, h, he, hb⟩ => ⟨r, h.is ha ha, he, hb⟩
theorem rLength_n {ax ay : Nat} {A : Vp} (w : World) (ha : isP ax ay A) : Calls Tryz.prog 41 #[.agg #[.float .f64 ax, .float .f64 ay]] w fun e w' => ∃ r, isF r (lnF A) ∧ e = .returned (.float .f64 r) ∧ Bel w w' :=
  (rLength_any _ _ w).mono fun e w' ⟨r, h, he, hb⟩ => ⟨r, h.is ha, he, hb⟩
theorem rMore_n {ax ay q bx b_y Q : Nat} {A B : Vp} (w : World) (ha : isP ax ay A) (hq : isF q Q) (hb_ : isP bx b_y B) : Calls Tryz.prog 35 #[.agg #[.float .f64 ax, .float .f64 ay], .float .f64 q, .agg #[.float .f64 bx, .float .f64 b_y]] w fun e w' => ∃ x y, isP x y (moF A Q B) ∧ e = .returned (.agg #[.float .f64 x, .float .f64 y]) ∧ Bel w w' :=
  (rMore_any _ _ _ _ _ w).mono fun e w' ⟨x, y, h, he, hb⟩ => ⟨x, y, h.is ha hq hb_, he, hb⟩
theorem rUnit_n {ax ay : Nat} {A : Vp} (w : World) (ha : isP ax ay A) : Calls Tryz.prog 61 #[.agg #[.float .f64 ax, .float .f64 ay]] w fun e w' => ∃ x y b, isP x y (uvF A) ∧ b = uvO A ∧ e = .returned (.tuple #[.agg #[.float .f64 x, .float .f64 y], .bool b]) ∧ Bel w w' :=
  (rUnit_any _ _ w).mono fun e w' ⟨x, y, b, h, he, hb⟩ => ⟨x, y, b, (h.uv ha).1, (h.uv ha).2, he, hb⟩
theorem rRight_n {ax ay : Nat} {A : Vp} (w : World) (ha : isP ax ay A) : Calls Tryz.prog 43 #[.agg #[.float .f64 ax, .float .f64 ay]] w fun e w' => ∃ x y, isP x y (rtP A) ∧ e = .returned (.agg #[.float .f64 x, .float .f64 y]) ∧ Bel w w' :=
  (rRight_any _ _ w ha.1 ha.2.1).mono fun e w' ⟨he, hb⟩ => ⟨_, _, rtP_is ha, he, hb⟩
theorem rNeg_n {ax ay : Nat} {A : Vp} (w : World) (ha : isP ax ay A) : Calls Tryz.prog 44 #[.agg #[.float .f64 ax, .float .f64 ay]] w fun e w' => ∃ x y, isP x y (ngP A) ∧ e = .returned (.agg #[.float .f64 x, .float .f64 y]) ∧ Bel w w' :=
  (rNeg_any _ _ w ha.1 ha.2.1).mono fun e w' ⟨he, hb⟩ => ⟨_, _, ngP_is ha, he, hb⟩
theorem rIn_n {ax ay : Nat} {A : Vp} (w : World) (ha : isP ax ay A) : Calls Tryz.prog 59 #[.agg #[.float .f64 ax, .float .f64 ay], .float .f64 4787326403894837248] w fun e w' => e = .returned (.bool (inB A.1 A.2)) ∧ Bel w w' :=
  (rWithin_any _ _ _ ha.1 ha.2.1 (by rw [okK64]; decide) w).mono fun e w' ⟨he, hb⟩ => ⟨by rw [he, ← ib_is ha]; rfl, hb⟩


theorem real_n {ax ay : Nat} {A : Vp} (w : World) (ha : isP ax ay A) : Calls Tryz.prog 28 #[.agg #[.float .f64 ax, .float .f64 ay]] w fun e w' => e = .returned (.int .i64 (if inB A.1 A.2 then 0 else 5)) ∧ Bel w w' := by
  have z0_0 : (w.alloc (.cells #[.float .f64 ax, .float .f64 ay] 24)).cell? ⟨w.heap.size, 0, none⟩ = some (.float .f64 ax) := by rw [World.cell?_alloc_new]; rfl
  have z0_1 : (w.alloc (.cells #[.float .f64 ax, .float .f64 ay] 24)).cell? ⟨w.heap.size, 1, none⟩ = some (.float .f64 ay) := by rw [World.cell?_alloc_new]; rfl
  have B0 : Bel w (w.alloc (.cells #[.float .f64 ax, .float .f64 ay] 24)) := bl_alloc (bl_refl w) _ _
  cases q : inB A.1 A.2
  all_goals
    go_enter Tryz.func28, Tryz.ntmps28
    go_wp2_with (first | (go_at_call 59; (with_reducible refine (rIn_n _ ha).mono ?_); rintro e w1 ⟨rfl, hb⟩; rw [q]))
    go_ret
    exact ⟨rfl, bl_trans B0 hb⟩

theorem real_q {ax ay : Nat} {A : Vp} {c : Bool} (w : World) (ha : isP ax ay A) (q : inB A.1 A.2 = c) : Calls Tryz.prog 28 #[.agg #[.float .f64 ax, .float .f64 ay]] w fun e w' => e = .returned (.int .i64 (bif c then 0 else 5)) ∧ Bel w w' := by
  have h := real_n w ha
  rw [q] at h
  cases c <;> exact h
theorem le_lt {a b : Nat} (ha : nanK .f64 a = false) (hb : nanK .f64 b = false) : leK .f64 a b = !ltK .f64 b a := by
  unfold leK ltK
  rw [ha, hb]
  simp only [Bool.not_false, Bool.true_and]
  by_cases h : woK .f64 a ≤ woK .f64 b
  · rw [decide_eq_true h, decide_eq_false (by omega)]; rfl
  · rw [decide_eq_false h, decide_eq_true (by omega)]; rfl
theorem ln_numY {x y : Nat} {Y : Vp} (h : isP x y Y) (hi : inB Y.1 Y.2 = true) : nanK .f64 (lnF Y) = false := by
  have hb : BdP 40 Y := by
    have e := ib_is h
    obtain ⟨h1, h2, rfl⟩ := h
    exact inp_bd h1 h2 (by rw [e]; exact hi)
  rw [lnF_eq hb (by omega)]
  cases hn : nanK .f64 (lnK Y.1 Y.2) with
  | false => rfl
  | true =>
    have hl : ltK .f64 (lnK Y.1 Y.2) 4472074429978902528 = false := by unfold ltK; rw [hn]; rfl
    have hf := (ln_facts (bd_mono hb.1 (by omega)) (bd_mono hb.2 (by omega)) hl).1
    rw [fin_nan hf] at hn
    cases hn
set_option maxRecDepth 100000 in
set_option maxHeartbeats 1000000 in
theorem rray_n {fx fy wx wy : Nat} {F Y : Vp} (w : World) (hf : isP fx fy F) (hw : isP wx wy Y) : Calls Tryz.prog 29 #[.agg #[.float .f64 fx, .float .f64 fy], .agg #[.float .f64 wx, .float .f64 wy]] w fun e w' => e = .returned (.int .i64 (ryE F Y)) ∧ Bel w w' := by
  have c1 := cmp_ge .f64
  have z0_0 : (w.alloc (.cells #[.float .f64 fx, .float .f64 fy] 24)).cell? ⟨w.heap.size, 0, none⟩ = some (.float .f64 fx) := by rw [World.cell?_alloc_new]; rfl
  replace z0_0 := up_alloc (o := .cells #[.float .f64 wx, .float .f64 wy] 24) z0_0
  have z0_1 : (w.alloc (.cells #[.float .f64 fx, .float .f64 fy] 24)).cell? ⟨w.heap.size, 1, none⟩ = some (.float .f64 fy) := by rw [World.cell?_alloc_new]; rfl
  replace z0_1 := up_alloc (o := .cells #[.float .f64 wx, .float .f64 wy] 24) z0_1
  have z1_0 : ((w.alloc (.cells #[.float .f64 fx, .float .f64 fy] 24)).alloc (.cells #[.float .f64 wx, .float .f64 wy] 24)).cell? ⟨w.heap.size + 1, 0, none⟩ = some (.float .f64 wx) := by rw [← (show (w.alloc (.cells #[.float .f64 fx, .float .f64 fy] 24)).heap.size = w.heap.size + 1 by simp only [World.size_alloc]), World.cell?_alloc_new]; rfl
  have z1_1 : ((w.alloc (.cells #[.float .f64 fx, .float .f64 fy] 24)).alloc (.cells #[.float .f64 wx, .float .f64 wy] 24)).cell? ⟨w.heap.size + 1, 1, none⟩ = some (.float .f64 wy) := by rw [← (show (w.alloc (.cells #[.float .f64 fx, .float .f64 fy] 24)).heap.size = w.heap.size + 1 by simp only [World.size_alloc]), World.cell?_alloc_new]; rfl
  have B0 : Bel w ((w.alloc (.cells #[.float .f64 fx, .float .f64 fy] 24)).alloc (.cells #[.float .f64 wx, .float .f64 wy] 24)) := bl_alloc (bl_alloc (bl_refl w) _ _) _ _
  cases q1 : inB F.1 F.2 with
  | false =>
    have e0 : ryE F Y = 5 := by unfold ryE; rw [q1]; rfl
    rw [e0]
    go_enter Tryz.func29, Tryz.ntmps29
    go_wp2_with (first | (go_at_call 28; (with_reducible refine (real_q _ hf q1).mono ?_); rintro e w1 ⟨rfl, hb⟩; replace z0_0 : w1.cell? ⟨w.heap.size, 0, none⟩ = some (.float .f64 fx) := keep hb (by first | exact z0_0 | go_keep); replace z0_1 : w1.cell? ⟨w.heap.size, 1, none⟩ = some (.float .f64 fy) := keep hb (by first | exact z0_1 | go_keep); replace z1_0 : w1.cell? ⟨w.heap.size + 1, 0, none⟩ = some (.float .f64 wx) := keep hb (by first | exact z1_0 | go_keep); replace z1_1 : w1.cell? ⟨w.heap.size + 1, 1, none⟩ = some (.float .f64 wy) := keep hb (by first | exact z1_1 | go_keep); have BF := hb; clear hb))
    go_ret
    exact ⟨rfl, bl_trans B0 BF⟩
  | true =>
    cases q2 : inB Y.1 Y.2 with
    | false =>
      have e0 : ryE F Y = 120 := by unfold ryE; rw [q1, q2]; rfl
      rw [e0]
      go_enter Tryz.func29, Tryz.ntmps29
      go_wp2_with (first | (go_at_call 28; (with_reducible refine (real_q _ hf q1).mono ?_); rintro e w1 ⟨rfl, hb⟩; replace z0_0 : w1.cell? ⟨w.heap.size, 0, none⟩ = some (.float .f64 fx) := keep hb (by first | exact z0_0 | go_keep); replace z0_1 : w1.cell? ⟨w.heap.size, 1, none⟩ = some (.float .f64 fy) := keep hb (by first | exact z0_1 | go_keep); replace z1_0 : w1.cell? ⟨w.heap.size + 1, 0, none⟩ = some (.float .f64 wx) := keep hb (by first | exact z1_0 | go_keep); replace z1_1 : w1.cell? ⟨w.heap.size + 1, 1, none⟩ = some (.float .f64 wy) := keep hb (by first | exact z1_1 | go_keep); have BF := hb; clear hb) | (go_at_call 28; (with_reducible refine (real_q _ hw q2).mono ?_); rintro e w2 ⟨rfl, hb⟩; replace z0_0 : w2.cell? ⟨w.heap.size, 0, none⟩ = some (.float .f64 fx) := keep hb (by first | exact z0_0 | go_keep); replace z0_1 : w2.cell? ⟨w.heap.size, 1, none⟩ = some (.float .f64 fy) := keep hb (by first | exact z0_1 | go_keep); replace z1_0 : w2.cell? ⟨w.heap.size + 1, 0, none⟩ = some (.float .f64 wx) := keep hb (by first | exact z1_0 | go_keep); replace z1_1 : w2.cell? ⟨w.heap.size + 1, 1, none⟩ = some (.float .f64 wy) := keep hb (by first | exact z1_1 | go_keep); replace BF := bl_trans BF hb; clear hb))
      go_ret
      exact ⟨rfl, bl_trans B0 BF⟩
    | true =>
      have nl := ln_numY hw q2
      cases q3 : leK .f64 4472074429978902528 (lnF Y) with
      | false =>
        have e0 : ryE F Y = 120 := by
          have := le_lt (a := 4472074429978902528) (b := lnF Y) (by decide +kernel) nl
          rw [q3] at this
          unfold ryE; rw [q1, q2, show ltK .f64 (lnF Y) 4472074429978902528 = true by simpa using this.symm]; rfl
        rw [e0]
        go_enter Tryz.func29, Tryz.ntmps29
        go_wp2_with (first | (go_at_call 28; (with_reducible refine (real_q _ hf q1).mono ?_); rintro e w1 ⟨rfl, hb⟩; replace z0_0 : w1.cell? ⟨w.heap.size, 0, none⟩ = some (.float .f64 fx) := keep hb (by first | exact z0_0 | go_keep); replace z0_1 : w1.cell? ⟨w.heap.size, 1, none⟩ = some (.float .f64 fy) := keep hb (by first | exact z0_1 | go_keep); replace z1_0 : w1.cell? ⟨w.heap.size + 1, 0, none⟩ = some (.float .f64 wx) := keep hb (by first | exact z1_0 | go_keep); replace z1_1 : w1.cell? ⟨w.heap.size + 1, 1, none⟩ = some (.float .f64 wy) := keep hb (by first | exact z1_1 | go_keep); have BF := hb; clear hb) | (go_at_call 28; (with_reducible refine (real_q _ hw q2).mono ?_); rintro e w2 ⟨rfl, hb⟩; replace z0_0 : w2.cell? ⟨w.heap.size, 0, none⟩ = some (.float .f64 fx) := keep hb (by first | exact z0_0 | go_keep); replace z0_1 : w2.cell? ⟨w.heap.size, 1, none⟩ = some (.float .f64 fy) := keep hb (by first | exact z0_1 | go_keep); replace z1_0 : w2.cell? ⟨w.heap.size + 1, 0, none⟩ = some (.float .f64 wx) := keep hb (by first | exact z1_0 | go_keep); replace z1_1 : w2.cell? ⟨w.heap.size + 1, 1, none⟩ = some (.float .f64 wy) := keep hb (by first | exact z1_1 | go_keep); replace BF := bl_trans BF hb; clear hb) | (go_at_call 41; (with_reducible refine (rLength_n _ hw).mono ?_); rintro e w3 ⟨rl, hl, rfl, hb⟩; have ql := (le_is min_is hl).trans q3; replace BF := bl_trans BF hb; clear hb))
        go_ret
        exact ⟨rfl, bl_trans B0 BF⟩
      | true =>
        have e0 : ryE F Y = 0 := by
          have := le_lt (a := 4472074429978902528) (b := lnF Y) (by decide +kernel) nl
          rw [q3] at this
          unfold ryE; rw [q1, q2, show ltK .f64 (lnF Y) 4472074429978902528 = false by simpa using this.symm]; rfl
        rw [e0]
        go_enter Tryz.func29, Tryz.ntmps29
        go_wp2_with (first | (go_at_call 28; (with_reducible refine (real_q _ hf q1).mono ?_); rintro e w1 ⟨rfl, hb⟩; replace z0_0 : w1.cell? ⟨w.heap.size, 0, none⟩ = some (.float .f64 fx) := keep hb (by first | exact z0_0 | go_keep); replace z0_1 : w1.cell? ⟨w.heap.size, 1, none⟩ = some (.float .f64 fy) := keep hb (by first | exact z0_1 | go_keep); replace z1_0 : w1.cell? ⟨w.heap.size + 1, 0, none⟩ = some (.float .f64 wx) := keep hb (by first | exact z1_0 | go_keep); replace z1_1 : w1.cell? ⟨w.heap.size + 1, 1, none⟩ = some (.float .f64 wy) := keep hb (by first | exact z1_1 | go_keep); have BF := hb; clear hb) | (go_at_call 28; (with_reducible refine (real_q _ hw q2).mono ?_); rintro e w2 ⟨rfl, hb⟩; replace z0_0 : w2.cell? ⟨w.heap.size, 0, none⟩ = some (.float .f64 fx) := keep hb (by first | exact z0_0 | go_keep); replace z0_1 : w2.cell? ⟨w.heap.size, 1, none⟩ = some (.float .f64 fy) := keep hb (by first | exact z0_1 | go_keep); replace z1_0 : w2.cell? ⟨w.heap.size + 1, 0, none⟩ = some (.float .f64 wx) := keep hb (by first | exact z1_0 | go_keep); replace z1_1 : w2.cell? ⟨w.heap.size + 1, 1, none⟩ = some (.float .f64 wy) := keep hb (by first | exact z1_1 | go_keep); replace BF := bl_trans BF hb; clear hb) | (go_at_call 41; (with_reducible refine (rLength_n _ hw).mono ?_); rintro e w3 ⟨rl, hl, rfl, hb⟩; have ql := (le_is min_is hl).trans q3; replace BF := bl_trans BF hb; clear hb))
        go_ret
        exact ⟨rfl, bl_trans B0 BF⟩

end Go.Proofs.YtdeooadeohojcaaGreat
