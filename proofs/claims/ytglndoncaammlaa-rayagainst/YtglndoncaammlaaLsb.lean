/-
  Plain facts on floats, more: rounding to the nearest rung, sums and products of finite floats, signs turned. No program is named here.
-/
import Derived.Test.YtglndoncaammlaaLsa
import Derived.Test.YtglndoncaammlaaShp
namespace Go.Proofs.Ytglndoncaammlaa
open Ieee Go.RowKit
set_option linter.unusedSimpArgs false

/-! ### places that may be: what the operations give is finite -/
theorem bd_wG {x c k : Nat} (o : okK .f64 x) (oc : okK .f64 c) (nc : ngK .f64 c = false) (fc : finK .f64 c = true) (ac : av c = 2 ^ k) (h : withinK .f64 x c = true) : Bd k x := by
  rw [← abs_within _ _ oc] at h
  have h1 : rgK .f64 (rgK .f64 x) = rgK .f64 x := by rw [rg64, rg64]; omega
  have h2 : ngK .f64 (rgK .f64 x) = false := by rw [ng64, rg64, beq_eq_false_iff_ne]; omega
  obtain ⟨f, g⟩ := fin_of_le (a := rgK .f64 x) (b := c) fc h2 nc h
  have e : av (rgK .f64 x) = av x := by unfold av mg; rw [h1]
  have e2 : finK .f64 (rgK .f64 x) = finK .f64 x := by unfold finK; rw [h1]
  rw [e, ac] at g
  rw [e2] at f
  exact ⟨o, f, g⟩
theorem bd_wT {x : Nat} (o : okK .f64 x) (h : withinK .f64 x 4611686018427387904 = true) : Bd 1 x := bd_wG o (by rw [okK64]; decide) (by decide +kernel) (by decide +kernel) (by decide +kernel) h
theorem fin_nan {x : Nat} (h : finK .f64 x = true) : nanK .f64 x = false := by
  have h1 := h
  unfold finK at h1
  rw [nanK_eq]
  simp only [decide_eq_true_eq] at h1
  simp only [decide_eq_false_iff_not]
  exact Nat.not_lt.2 (Nat.le_of_lt h1)
theorem oF_dv {op : BinOp} {n x y : Nat} (s : (floatBits op .f64 x y).isSome = true) (h : Bd n (Dv op x y)) : oF op x y = Dv op x y := by
  have e := res_dv (res_o op x y) s
  unfold oF
  rw [e, bits_num (fin_nan h.2.1)]
def BdP (n : Nat) (p : Vp) : Prop := Bd n p.1 ∧ Bd n p.2
theorem BdP.mono {m n : Nat} {p : Vp} (h : BdP m p) (hn : m ≤ n) : BdP n p := ⟨bd_mono h.1 hn, bd_mono h.2 hn⟩
theorem su_bd {n : Nat} {a b : Vp} (ha : BdP n a) (hb : BdP n b) (hn : n ≤ 900) : BdP (n + 2) (suF a b) := by
  unfold suF BdP
  have h1 := bd_sub ha.1 hb.1 hn
  have h2 := bd_sub ha.2 hb.2 hn
  simp only
  rw [oF_dv (some_sub ha.1.2.1 hb.1.2.1 hb.1.1) h1, oF_dv (some_sub ha.2.2.1 hb.2.2.1 hb.2.1) h2]
  exact ⟨h1, h2⟩
theorem oFm_bd {m n x y : Nat} (hx : Bd m x) (hy : Bd n y) (hn : m + n ≤ 900) : Bd (m + n + 1) (oF .mul x y) := by
  have h := bd_mul hx hy hn
  rw [oF_dv (some_mul hx.2.1 hy.2.1) h]
  exact h
theorem oFa_bd {n x y : Nat} (hx : Bd n x) (hy : Bd n y) (hn : n ≤ 900) : Bd (n + 2) (oF .add x y) := by
  have h := bd_add hx hy hn
  rw [oF_dv (some_add hx.2.1 hy.2.1) h]
  exact h
theorem dtF_eq {m n : Nat} {a b : Vp} (ha : BdP m a) (hb : BdP n b) (hn : m + n ≤ 800) : dtF a b = dtK a.1 a.2 b.1 b.2 := by
  have h1 := bd_mul ha.1 hb.1 (show m + n ≤ 900 by omega)
  have h2 := bd_mul ha.2 hb.2 (show m + n ≤ 900 by omega)
  unfold dtF dtK
  rw [oF_dv (some_mul ha.1.2.1 hb.1.2.1) h1, oF_dv (some_mul ha.2.2.1 hb.2.2.1) h2, oF_dv (some_add h1.2.1 h2.2.1) (bd_add h1 h2 (by omega))]
theorem dtF_bd {m n : Nat} {a b : Vp} (ha : BdP m a) (hb : BdP n b) (hn : m + n ≤ 800) : Bd (m + n + 3) (dtF a b) := by
  unfold dtF
  exact oFa_bd (oFm_bd ha.1 hb.1 (by omega)) (oFm_bd ha.2 hb.2 (by omega)) (by omega)
theorem mo_bd {n m : Nat} {a b : Vp} {s : Nat} (ha : BdP n a) (hs : Bd m s) (hb : BdP n b) (hn : m + n ≤ 800) : BdP (m + n + 3) (moF a s b) := by
  unfold moF BdP
  exact ⟨oFa_bd (bd_mono ha.1 (by omega)) (oFm_bd hs hb.1 (by omega)) (by omega), oFa_bd (bd_mono ha.2 (by omega)) (oFm_bd hs hb.2 (by omega)) (by omega)⟩
theorem cl_bd {q : Nat} (o : okK .f64 q) : Bd 1 (clK .f64 q 0 4607182418800017408) := by
  unfold clK
  split
  · exact bd_wT (by rw [okK64]; decide) (by decide +kernel)
  · rename_i h
    split
    · exact bd_wT (by rw [okK64]; decide) (by decide +kernel)
    · rename_i g
      refine bd_wT o ?_
      replace h : ltK .f64 0 q = true := by cases hh : ltK .f64 0 q <;> simp_all
      replace g : ltK .f64 4607182418800017408 q = false := by cases hh : ltK .f64 4607182418800017408 q <;> simp_all
      unfold ltK at h g
      unfold withinK leK
      simp only [Bool.not_eq_false, Bool.and_eq_true, Bool.not_eq_true', decide_eq_true_eq, Bool.and_eq_false_iff, Bool.not_eq_true, Bool.not_eq_false', decide_eq_false_iff_not] at h g ⊢
      obtain ⟨⟨h1, h2⟩, h3⟩ := h
      have w0 : woK .f64 0 = 0 := by decide +kernel
      have w1 : woK .f64 4607182418800017408 ≤ woK .f64 4611686018427387904 := by decide +kernel
      have w2 : woK .f64 (Op.negFloat .f64 4611686018427387904) ≤ 0 := by decide +kernel
      have n1 : nanK .f64 4607182418800017408 = false := by decide +kernel
      have n2 : nanK .f64 4611686018427387904 = false := by decide +kernel
      have n3 : nanK .f64 (Op.negFloat .f64 4611686018427387904) = false := by decide +kernel
      rw [w0] at h3
      rw [n1, h2] at g
      simp at g
      exact ⟨⟨⟨n3, h2⟩, by omega⟩, ⟨h2, n2⟩, by omega⟩
theorem ln_finG {n ax ay : Nat} (h1 : Bd n ax) (h2 : Bd n ay) (hn : n ≤ 400) : Bd 1024 (lnK ax ay) := by
  obtain ⟨f, g⟩ := sq_ng h1 h2 hn
  have q := sq_res (sqr_some f g)
  by_cases hz : mg (dtK ax ay ax ay) = 0
  · have e := sqr_zero f g hz q
    unfold lnK
    rw [e]
    exact ⟨by rw [okK64]; decide, by decide +kernel, av_le (by decide +kernel)⟩
  · obtain ⟨f1, f2, f3, _⟩ := root_fin f g hz q
    exact ⟨q.1, f1, av_le f1⟩
theorem lnF_eq {n : Nat} {a : Vp} (ha : BdP n a) (hn : n ≤ 400) : lnF a = lnK a.1 a.2 := by
  have b := ln_finG ha.1 ha.2 hn
  unfold lnF qF
  rw [dtF_eq ha ha (by omega)]
  obtain ⟨f, g⟩ := sq_ng ha.1 ha.2 hn
  obtain ⟨v, hv⟩ := Option.isSome_iff_exists.1 (sqr_some f g)
  have e2 : lnK a.1 a.2 = v := by unfold lnK Sq; rw [hv]; rfl
  rw [hv]
  show bitsK v = _
  rw [e2] at b ⊢
  exact bits_num (fin_nan b.2.1)
theorem lnn_fin {n : Nat} {a : Vp} (ha : BdP n a) (hn : n ≤ 400) : finK .f64 (lnF a) = true := by
  rw [lnF_eq ha hn]
  exact (ln_finG ha.1 ha.2 hn).2.1
theorem oF_ok (op : BinOp) (x y : Nat) : okK .f64 (oF op x y) := by
  unfold oF bitsK
  split
  · exact none_ok
  · exact (res_o op x y).1
theorem pt_bd {a b p : Vp} (ha : BdP 40 a) (hb : BdP 40 b) : BdP 46 (ptF a b p).1 := by
  unfold ptF
  split
  · exact mo_bd (n := 42) (ha.mono (by decide)) (cl_bd (oF_ok _ _ _)) (su_bd hb ha (by decide)) (by decide)
  · exact ha.mono (by decide)
theorem lt_inf {x : Nat} (h : finK .f64 x = true) : ltK .f64 x 9218868437227405312 = true := by
  have h1 := h
  unfold finK at h1
  simp only [decide_eq_true_eq] at h1
  rw [inf64] at h1
  have n2 : nanK .f64 9218868437227405312 = false := by decide +kernel
  have w2 : woK .f64 9218868437227405312 = 9218868437227405312 := by decide +kernel
  unfold ltK
  rw [fin_nan h, n2, w2]
  simp only [Bool.not_false, Bool.true_and, decide_eq_true_eq]
  rw [woK_eq]
  split <;> omega
theorem side_lt {a b p : Vp} (ha : BdP 40 a) (hb : BdP 40 b) (hp : BdP 40 p) : ltK .f64 (apN (ptF a b p).1 p).1 9218868437227405312 = true :=
  lt_inf (lnn_fin (n := 48) (su_bd (hp.mono (by decide)) (pt_bd ha hb) (by decide)) (by decide))
theorem is_bd {n x y : Nat} {p : Vp} (h : isP x y p) (h1 : Bd n x) (h2 : Bd n y) : BdP n p := by
  rw [← h.2.2]
  unfold nP BdP
  simp only
  rw [bits_num (fin_nan h1.2.1), bits_num (fin_nan h2.2.1)]
  exact ⟨h1, h2⟩
end Go.Proofs.Ytglndoncaammlaa
namespace Go.Proofs.Ytglndoncaammlaa
open Ieee Go.RowKit

/-! ### a polygon's border: of all sides the nearest place -/
def pkF {α : Type} (c : Bool) (a b : α) : α := if c then a else b
theorem pkF_yes {α : Type} {c : Bool} {a b : α} (h : c = true) : pkF c a b = a := by rw [h]; rfl
theorem pkF_no {α : Type} {c : Bool} {a b : α} (h : c = false) : pkF c a b = b := by rw [h]; rfl
def sdA (xs ys : Nat → Nat) (j : Nat) : Vp := nP (xs j, ys j)
def nxF (xs ys : Nat → Nat) (n : Nat) (P : Vp) (j : Nat) : Nr := apN (ptF (sdA xs ys j) (sdA xs ys ((j + 1) % n)) P).1 P
def plF (xs ys : Nat → Nat) (n : Nat) (P : Vp) : Nat → Nr × Nat
  | 0 => ((9218868437227405312, (0, 0), (0, 0)), 0)
  | j + 1 => pkF (ltK .f64 (nxF xs ys n P j).1 (plF xs ys n P j).1.1) (nxF xs ys n P j, j) (plF xs ys n P j)
theorem pl_s1 (xs ys : Nat → Nat) (n : Nat) (P : Vp) (j : Nat) : (plF xs ys n P (j + 1)).1 = pkF (ltK .f64 (nxF xs ys n P j).1 (plF xs ys n P j).1.1) (nxF xs ys n P j) (plF xs ys n P j).1 := by
  show (pkF (ltK .f64 (nxF xs ys n P j).1 (plF xs ys n P j).1.1) (nxF xs ys n P j, j) (plF xs ys n P j)).1 = _
  cases ltK .f64 (nxF xs ys n P j).1 (plF xs ys n P j).1.1 <;> rfl
theorem pl_s2 (xs ys : Nat → Nat) (n : Nat) (P : Vp) (j : Nat) : (plF xs ys n P (j + 1)).2 = pkF (ltK .f64 (nxF xs ys n P j).1 (plF xs ys n P j).1.1) j (plF xs ys n P j).2 := by
  show (pkF (ltK .f64 (nxF xs ys n P j).1 (plF xs ys n P j).1.1) (nxF xs ys n P j, j) (plF xs ys n P j)).2 = _
  cases ltK .f64 (nxF xs ys n P j).1 (plF xs ys n P j).1.1 <;> rfl
theorem inf_is : isF 9218868437227405312 9218868437227405312 := ⟨by rw [okK64]; decide, by decide +kernel⟩
theorem pl_zero (xs ys : Nat → Nat) (n : Nat) (P : Vp) : isN 9218868437227405312 0 0 0 0 (plF xs ys n P 0).1 := ⟨inf_is, isP_zero, isP_zero⟩
theorem pl_one {xs ys : Nat → Nat} {n : Nat} {P : Vp} (hn : 0 < n) (h : ∀ i, i < n → BdP 40 (sdA xs ys i)) (hp : BdP 40 P) : plF xs ys n P 1 = (nxF xs ys n P 0, 0) := by
  have e := side_lt (h 0 hn) (h ((0 + 1) % n) (Nat.mod_lt _ hn)) hp
  exact pkF_yes e
/-- may the answer be? -/
def pyE (xs ys : Nat → Nat) (n x y : Nat) : Int := if chkE xs ys n = 0 then (if inB x y then 0 else 5) else chkE xs ys n
theorem sda_bd {xs ys : Nat → Nat} {n : Nat} (g : Gd xs ys n) : ∀ i, i < n → BdP 40 (sdA xs ys i) := fun i hi =>
  is_bd (isP_self (g i hi).1.1 (g i hi).2.1) (g i hi).1 (g i hi).2
theorem inp_bd {x y : Nat} (ox : okK .f64 x) (oy : okK .f64 y) (h : inB x y = true) : BdP 40 (nP (x, y)) := by
  unfold inB at h
  rw [Bool.and_eq_true] at h
  exact is_bd (isP_self ox oy) (bd_within ox h.1) (bd_within oy h.2)
end Go.Proofs.Ytglndoncaammlaa
