/-
  Plain facts on floats, more: rounding to the nearest rung, sums and products of finite floats, signs turned. No program is named here.
-/
import Derived.Test.YtdeooadeohojcaaGreatLsa
import Derived.Test.YtdeooadeohojcaaGreatShp
namespace Go.Proofs.YtdeooadeohojcaaGreat
open Ieee Go.RowKit
set_option linter.unusedSimpArgs false

theorem fin_nan {x : Nat} (h : finK .f64 x = true) : nanK .f64 x = false := by
  have h1 := h
  unfold finK at h1
  rw [nanK_eq]
  simp only [decide_eq_true_eq] at h1
  simp only [decide_eq_false_iff_not]
  exact Nat.not_lt.2 (Nat.le_of_lt h1)
theorem oF_dv {op : BinOp} {n x y : Nat} (s : (floatBits op .f64 x y).isSome = true) (h : Bd n (Dv op x y)) : oF op x y = Dv op x y := by
  have e := res_dv (res_o op x y) s
  unfold oF
  rw [e, bits_num (fin_nan h.2.1)]
def BdP (n : Nat) (p : Vp) : Prop := Bd n p.1 ∧ Bd n p.2
theorem BdP.mono {m n : Nat} {p : Vp} (h : BdP m p) (hn : m ≤ n) : BdP n p := ⟨bd_mono h.1 hn, bd_mono h.2 hn⟩
theorem su_bd {n : Nat} {a b : Vp} (ha : BdP n a) (hb : BdP n b) (hn : n ≤ 900) : BdP (n + 2) (suF a b) := by
  unfold suF BdP
  have h1 := bd_sub ha.1 hb.1 hn
  have h2 := bd_sub ha.2 hb.2 hn
  simp only
  rw [oF_dv (some_sub ha.1.2.1 hb.1.2.1 hb.1.1) h1, oF_dv (some_sub ha.2.2.1 hb.2.2.1 hb.2.1) h2]
  exact ⟨h1, h2⟩
theorem oFm_bd {m n x y : Nat} (hx : Bd m x) (hy : Bd n y) (hn : m + n ≤ 900) : Bd (m + n + 1) (oF .mul x y) := by
  have h := bd_mul hx hy hn
  rw [oF_dv (some_mul hx.2.1 hy.2.1) h]
  exact h
theorem oFa_bd {n x y : Nat} (hx : Bd n x) (hy : Bd n y) (hn : n ≤ 900) : Bd (n + 2) (oF .add x y) := by
  have h := bd_add hx hy hn
  rw [oF_dv (some_add hx.2.1 hy.2.1) h]
  exact h
theorem dtF_eq {m n : Nat} {a b : Vp} (ha : BdP m a) (hb : BdP n b) (hn : m + n ≤ 800) : dtF a b = dtK a.1 a.2 b.1 b.2 := by
  have h1 := bd_mul ha.1 hb.1 (show m + n ≤ 900 by omega)
  have h2 := bd_mul ha.2 hb.2 (show m + n ≤ 900 by omega)
  unfold dtF dtK
  rw [oF_dv (some_mul ha.1.2.1 hb.1.2.1) h1, oF_dv (some_mul ha.2.2.1 hb.2.2.1) h2, oF_dv (some_add h1.2.1 h2.2.1) (bd_add h1 h2 (by omega))]
theorem dtF_bd {m n : Nat} {a b : Vp} (ha : BdP m a) (hb : BdP n b) (hn : m + n ≤ 800) : Bd (m + n + 3) (dtF a b) := by
  unfold dtF
  exact oFa_bd (oFm_bd ha.1 hb.1 (by omega)) (oFm_bd ha.2 hb.2 (by omega)) (by omega)
theorem ln_finG {n ax ay : Nat} (h1 : Bd n ax) (h2 : Bd n ay) (hn : n ≤ 400) : Bd 1024 (lnK ax ay) := by
  obtain ⟨f, g⟩ := sq_ng h1 h2 hn
  have q := sq_res (sqr_some f g)
  by_cases hz : mg (dtK ax ay ax ay) = 0
  · have e := sqr_zero f g hz q
    unfold lnK
    rw [e]
    exact ⟨by rw [okK64]; decide, by decide +kernel, av_le (by decide +kernel)⟩
  · obtain ⟨f1, f2, f3, _⟩ := root_fin f g hz q
    exact ⟨q.1, f1, av_le f1⟩
theorem lnF_eq {n : Nat} {a : Vp} (ha : BdP n a) (hn : n ≤ 400) : lnF a = lnK a.1 a.2 := by
  have b := ln_finG ha.1 ha.2 hn
  unfold lnF qF
  rw [dtF_eq ha ha (by omega)]
  obtain ⟨f, g⟩ := sq_ng ha.1 ha.2 hn
  obtain ⟨v, hv⟩ := Option.isSome_iff_exists.1 (sqr_some f g)
  have e2 : lnK a.1 a.2 = v := by unfold lnK Sq; rw [hv]; rfl
  rw [hv]
  show bitsK v = _
  rw [e2] at b ⊢
  exact bits_num (fin_nan b.2.1)
theorem is_bd {n x y : Nat} {p : Vp} (h : isP x y p) (h1 : Bd n x) (h2 : Bd n y) : BdP n p := by
  rw [← h.2.2]
  unfold nP BdP
  simp only
  rw [bits_num (fin_nan h1.2.1), bits_num (fin_nan h2.2.1)]
  exact ⟨h1, h2⟩
end Go.Proofs.YtdeooadeohojcaaGreat
namespace Go.Proofs.YtdeooadeohojcaaGreat
open Ieee Go.RowKit

def pkF {α : Type} (c : Bool) (a b : α) : α := if c then a else b
theorem pkF_yes {α : Type} {c : Bool} {a b : α} (h : c = true) : pkF c a b = a := by rw [h]; rfl
theorem pkF_no {α : Type} {c : Bool} {a b : α} (h : c = false) : pkF c a b = b := by rw [h]; rfl
def sdA (xs ys : Nat → Nat) (j : Nat) : Vp := nP (xs j, ys j)
theorem inf_is : isF 9218868437227405312 9218868437227405312 := ⟨by rw [okK64]; decide, by decide +kernel⟩
theorem inp_bd {x y : Nat} (ox : okK .f64 x) (oy : okK .f64 y) (h : inB x y = true) : BdP 40 (nP (x, y)) := by
  unfold inB at h
  rw [Bool.and_eq_true] at h
  exact is_bd (isP_self ox oy) (bd_within ox h.1) (bd_within oy h.2)
end Go.Proofs.YtdeooadeohojcaaGreat
