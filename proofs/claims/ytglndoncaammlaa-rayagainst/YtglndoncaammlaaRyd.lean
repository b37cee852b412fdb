/-
  Plain facts on floats, more: rounding to the nearest rung, sums and products of finite floats, signs turned. No program is named here.
-/
import Derived.Test.YtglndoncaammlaaRyc
namespace Go.Proofs.Ytglndoncaammlaa
open Ieee Go.RowKit
set_option linter.unusedSimpArgs false
set_option linter.unusedVariables false

/-- a sum that is exactly not above nought is rounded to what is not above nought -/
theorem add_np {a b : Nat} (fa : finK .f64 a = true) (fb : finK .f64 b = true) (h : svK .f64 a + svK .f64 b ≤ 0) : ltK .f64 0 (oF .add a b) = false := by
  have w0 : woK .f64 0 = 0 := by decide +kernel
  unfold oF
  rw [add_spec .f64 a b fa fb]
  simp only [Option.getD_some]
  generalize svK .f64 a + svK .f64 b = S at *
  by_cases hS : S = 0
  · subst hS
    rw [if_pos rfl, show (0 : Int).natAbs = 0 from rfl, rr_zero, Nat.zero_min]
    have hn := nan_word .f64 (ngK .f64 a && ngK .f64 b) 0 (Nat.zero_le _)
    have hw := wo_word .f64 (ngK .f64 a && ngK .f64 b) 0 (Nat.zero_le _)
    rw [bits_num hn]
    unfold ltK
    rw [hw, w0]
    cases (ngK .f64 a && ngK .f64 b) <;> simp
  · rw [if_neg hS, decide_eq_true (show S < 0 by omega)]
    have hi := Nat.min_le_right (rr FloatKind.f64.format S.natAbs 0) (infK .f64)
    generalize min (rr FloatKind.f64.format S.natAbs 0) (infK .f64) = r at hi
    have hn := nan_word .f64 true r hi
    have hw := wo_word .f64 true r hi
    rw [bits_num hn]
    unfold ltK
    rw [hw, w0, if_pos rfl, decide_eq_false (show ¬ (0 : Int) < -(r : Int) by omega), Bool.and_false]
/-- the negative of a product -/
theorem mul_ng {m n x y : Nat} (hx : Bd m x) (hy : Bd n y) (hn : m + n ≤ 900) : finK .f64 (oF .mul x y) = true ∧ finK .f64 (oF .mul (ngF x) y) = true ∧ svK .f64 (oF .mul (ngF x) y) = -svK .f64 (oF .mul x y) := by
  have hnx := bd_neg hx
  have e : ngF x = Op.negFloat .f64 x := by unfold ngF; rw [bits_num (fin_nan hnx.2.1)]
  have h1 := oFm_bd hx hy hn
  have h2 := oFm_bd hnx hy hn
  rw [e]
  refine ⟨h1.2.1, h2.2.1, ?_⟩
  have s := some_mul hx.2.1 hy.2.1
  obtain ⟨p, hp⟩ := Option.isSome_iff_exists.1 s
  have hb := bd_mul hx hy hn
  have ep : Dv .mul x y = p := by unfold Dv; rw [hp]; rfl
  rw [ep] at hb
  have e1 : oF .mul x y = p := by unfold oF; rw [hp]; exact bits_num (fin_nan hb.2.1)
  have e2 : oF .mul (Op.negFloat .f64 x) y = Op.negFloat .f64 p := by
    unfold oF
    rw [mul_neg_l .f64 x y hx.1, hp]
    exact bits_num (fin_nan (bd_neg hb).2.1)
  rw [e1, e2]
  exact sv_neg p hb.1
/-- where a way looks along another one, the way back does not -/
theorem dt_ng {m n : Nat} {v w : Vp} (hv : BdP m v) (hw : BdP n w) (hn : m + n ≤ 800) (h : ltK .f64 0 (dtF v w) = true) : ltK .f64 0 (dtF (ngP v) w) = false := by
  obtain ⟨a1, a2, a3⟩ := mul_ng hv.1 hw.1 (by omega)
  obtain ⟨b1, b2, b3⟩ := mul_ng hv.2 hw.2 (by omega)
  have hp : ¬ svK .f64 (oF .mul v.1 w.1) + svK .f64 (oF .mul v.2 w.2) ≤ 0 := fun hc => by
    have := add_np a1 b1 hc
    unfold dtF at h
    rw [h] at this
    exact absurd this (by decide)
  exact add_np a2 b2 (by show svK .f64 (oF .mul (ngF v.1) w.1) + svK .f64 (oF .mul (ngF v.2) w.2) ≤ 0; omega)
theorem bd_zero (n : Nat) : Bd n 0 := bd_mono (m := 0) ⟨by rw [okK64]; decide, by decide +kernel, by decide +kernel⟩ (Nat.zero_le _)
theorem uv_bd {v : Vp} (h : BdP 42 v) : BdP 600 (uvF v) := by
  have e := lnF_eq h (by omega)
  cases hu : uvO v with
  | false =>
    have : uvF v = (0, 0) := pkF_no hu
    rw [this]
    exact ⟨bd_zero _, bd_zero _⟩
  | true =>
    have e1 : uvF v = (oF .quo v.1 (lnF v), oF .quo v.2 (lnF v)) := pkF_yes hu
    have hb : unB v.1 v.2 = true := by
      unfold uvO at hu; rw [e] at hu; exact hu
    obtain ⟨k1, k2⟩ := un_bd h.1 h.2 hb
    have q1 : unX v.1 v.2 = Dv .quo v.1 (lnK v.1 v.2) := if_pos hb
    have q2 : unY v.1 v.2 = Dv .quo v.2 (lnK v.1 v.2) := if_pos hb
    rw [q1] at k1
    rw [q2] at k2
    have hz : mg (lnK v.1 v.2) ≠ 0 := by
      intro hz
      have hl : ltK .f64 0 (lnK v.1 v.2) = true := by
        unfold unB at hb; rw [Bool.and_eq_true] at hb; exact hb.1
      have hf : finK .f64 (lnK v.1 v.2) = true := by
        unfold unB at hb; rw [Bool.and_eq_true] at hb; exact hb.2
      exact pos_mg hl hz
    have hf : finK .f64 (lnK v.1 v.2) = true := by
      unfold unB at hb; rw [Bool.and_eq_true] at hb; exact hb.2
    rw [e1, e]
    constructor
    · show Bd 600 (oF .quo v.1 (lnK v.1 v.2))
      rw [oF_dv (some_quo h.1.2.1 hf hz) k1]; exact k1
    · show Bd 600 (oF .quo v.2 (lnK v.1 v.2))
      rw [oF_dv (some_quo h.2.2.1 hf hz) k2]; exact k2
theorem rt_bd {n : Nat} {v : Vp} (h : BdP n v) : BdP n (rtP v) := by
  have hb := bd_neg h.1
  have e : ngF v.1 = Op.negFloat .f64 v.1 := by unfold ngF; rw [bits_num (fin_nan hb.2.1)]
  exact ⟨h.2, by show Bd n (ngF v.1); rw [e]; exact hb⟩
theorem fc_np {s w : Vp} (hs : BdP 42 s) (hw : BdP 40 w) : ltK .f64 0 (dtF (fcF s w) w) = false := by
  have hb := uv_bd (rt_bd hs)
  unfold fcF
  cases h : ltK .f64 0 (dtF (uvF (rtP s)) w) with
  | false => rw [pkF_no rfl]; exact h
  | true => rw [pkF_yes rfl]; exact dt_ng hb hw (by omega) h
theorem zero_np {w : Vp} (hw : BdP 40 w) : ltK .f64 0 (dtF (0, 0) w) = false := by
  have h1 := oFm_bd (bd_zero 0) hw.1 (by omega)
  have h2 := oFm_bd (bd_zero 0) hw.2 (by omega)
  have z : ∀ y, finK .f64 y = true → svK .f64 (oF .mul 0 y) = 0 := fun y hy => by
    have v0 : vl FloatKind.f64.format (rgK .f64 0) = 0 := by decide +kernel
    unfold oF
    rw [mul_spec 0 y (by decide +kernel) hy, Option.getD_some, v0, Nat.zero_mul, rr_zero, Nat.zero_min]
    cases (ngK .f64 0 ^^ ngK .f64 y) <;> decide +kernel
  exact add_np h1.2.1 h2.2.1 (by rw [z _ hw.1.2.1, z _ hw.2.2.1]; decide)
theorem ry_in {F Y : Vp} (h : ryE F Y = 0) : inB Y.1 Y.2 = true := by
  unfold ryE at h
  split at h
  · split at h
    · rename_i h2; rw [Bool.and_eq_true] at h2; exact h2.1
    · exact absurd h (by decide)
  · exact absurd h (by decide)
theorem bdP_of {x y : Nat} {P : Vp} (h : isP x y P) (hi : inB P.1 P.2 = true) : BdP 40 P := by
  have e := ib_is h
  obtain ⟨h1, h2, rfl⟩ := h
  exact inp_bd h1 h2 (by rw [e]; exact hi)
/-- what a segment's hit tells -/
theorem sg_told {ax ay bx b_y wx wy : Nat} {A B F Y : Vp} (hA : isP ax ay A) (hB : isP bx b_y B) (hY : isP wx wy Y) : ((sgX A B F Y).1 = true → sgE A B F Y = 0 ∧ ltK .f64 0 (dtF (sgX A B F Y).2.2.1 Y) = false) ∧ ((sgX A B F Y).1 = false → (sgX A B F Y).2 = zeH) := by
  by_cases he : sgE A B F Y = 0
  · have e1 : sgX A B F Y = sgR A B F Y := by unfold sgX; rw [decide_eq_true he]; rfl
    rw [e1]
    have hin : inB A.1 A.2 = true ∧ inB B.1 B.2 = true ∧ ryE F Y = 0 := by
      unfold sgE at he
      split at he
      · rename_i h2
        rw [Bool.and_eq_true, Bool.and_eq_true] at h2
        exact ⟨h2.1.1, h2.1.2, he⟩
      · exact absurd he (by decide)
    have bA := bdP_of hA hin.1
    have bB := bdP_of hB hin.2.1
    have bY := bdP_of hY (ry_in hin.2.2)
    unfold sgR
    cases q1 : eqK .f64 (sgD A B Y) 0 with
    | true => rw [pkF_yes rfl]; exact ⟨fun (h : false = true) => Bool.noConfusion h, fun _ => rfl⟩
    | false =>
      rw [pkF_no rfl]
      cases q2 : (paB (sgT A B F Y) && paB (sgU A B F Y)) with
      | false => rw [pkF_no rfl]; exact ⟨fun (h : false = true) => Bool.noConfusion h, fun _ => rfl⟩
      | true =>
        rw [pkF_yes rfl]
        have e : (sgH A B F Y).2.1 = fcF (suF B A) Y := by simp only [sgH]
        refine ⟨fun _ => ⟨he, ?_⟩, fun (h : true = false) => Bool.noConfusion h⟩
        show ltK .f64 0 (dtF (sgH A B F Y).2.1 Y) = false
        rw [e]
        exact fc_np (su_bd bB bA (by omega)) bY
  · have e1 : sgX A B F Y = (false, zeH) := by unfold sgX; rw [decide_eq_false he]; rfl
    rw [e1]
    exact ⟨fun (h : false = true) => Bool.noConfusion h, fun _ => rfl⟩
theorem lt_asym {a b : Nat} (h : ltK .f64 a b = true) : ltK .f64 b a = false := by
  unfold ltK at h ⊢
  simp only [Bool.and_eq_true, Bool.not_eq_true', decide_eq_true_eq] at h
  rw [decide_eq_false (by omega), Bool.and_false]
theorem et_np {xs ys : Nat → Nat} {n : Nat} {F Y : Vp} : ∀ {i : Nat} {s : Et}, etS xs ys n F Y i = some s → s.1 = true → ltK .f64 0 (dtF s.2.1.2.1 Y) = false
  | 0, s, h, h1 => by
    have h : some (false, zeH, 9218868437227405312) = some s := h
    cases h
    cases h1
  | i + 1, s, h, h1 => by
    have h : (etS xs ys n F Y i).bind _ = some s := h
    cases hs : etS xs ys n F Y i with
    | none => rw [hs] at h; cases h
    | some t =>
      rw [hs] at h
      have h : etN t (etG xs ys n Y i) (etF xs ys n F i) (etT xs ys n F Y i) (nmP xs ys n i) = some s := h
      unfold etN at h
      split at h
      · rename_i hg
        have h := Option.some.inj h
        subst h
        show ltK .f64 0 (dtF (pkF (etK t (etT xs ys n F Y i)) ((0, 0), nmP xs ys n i, etT xs ys n F Y i) t.2.1).2.1 Y) = false
        cases hk : etK t (etT xs ys n F Y i) with
        | true => rw [pkF_yes rfl]; exact lt_asym hg
        | false =>
          rw [pkF_no rfl]
          refine et_np hs ?_
          unfold etK at hk
          cases ht : t.1 with
          | true => rfl
          | false => rw [ht] at hk; cases hk
      · split at h
        · have h := Option.some.inj h
          subst h
          exact et_np (s := t) hs h1
        · split at h
          · cases h
          · have h := Option.some.inj h
            subst h
            exact et_np hs h1
/-- what a polygon's hit tells -/
theorem pg_told {xs ys : Nat → Nat} {n wx wy : Nat} {hs : Bool} {F Y : Vp} (hY : isP wx wy Y) : ((pgX xs ys n hs F Y).1 = true → pgE xs ys n F Y = 0 ∧ ltK .f64 0 (dtF (pgX xs ys n hs F Y).2.2.1 Y) = false) ∧ ((pgX xs ys n hs F Y).1 = false → (pgX xs ys n hs F Y).2 = zeH) := by
  by_cases he : pgE xs ys n F Y = 0
  · have e1 : pgX xs ys n hs F Y = pgR xs ys n hs F Y := by unfold pgX; rw [decide_eq_true he]; rfl
    rw [e1]
    have hr : ryE F Y = 0 := by
      unfold pgE at he
      split at he
      · exact he
      · rename_i h2; exact absurd he h2
    have bY := bdP_of hY (ry_in hr)
    unfold pgR
    cases hs with
    | true => rw [pkF_yes rfl]; exact ⟨fun _ => ⟨he, zero_np bY⟩, fun (h : true = false) => Bool.noConfusion h⟩
    | false =>
      rw [pkF_no rfl]
      cases q : (enR xs ys n F Y).1 with
      | false => rw [pkF_no rfl]; exact ⟨fun (h : false = true) => Bool.noConfusion h, fun _ => rfl⟩
      | true =>
        rw [pkF_yes rfl]
        refine ⟨fun _ => ⟨he, ?_⟩, fun (h : true = false) => Bool.noConfusion h⟩
        show ltK .f64 0 (dtF (enR xs ys n F Y).2.2.1 Y) = false
        unfold enR at q ⊢
        cases hq : etS xs ys n F Y n with
        | none => rw [hq] at q; cases q
        | some s =>
          rw [hq] at q
          refine et_np (s := s) hq ?_
          have q : etB s = true := q
          unfold etB at q
          rw [Bool.and_eq_true, Bool.and_eq_true] at q
          exact q.1.1
  · have e1 : pgX xs ys n hs F Y = (false, zeH) := by unfold pgX; rw [decide_eq_false he]; rfl
    rw [e1]
    exact ⟨fun (h : false = true) => Bool.noConfusion h, fun _ => rfl⟩
end Go.Proofs.Ytglndoncaammlaa
