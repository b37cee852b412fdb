/-
  Plain facts on floats, more: rounding to the nearest rung, sums and products of finite floats, signs turned. No program is named here.
-/
import Derived.Test.YtoofbfjlgablkaaMat
namespace Go.Proofs.Ytoofbfjlgablkaa
open Ieee Go.RowKit
set_option linter.unusedSimpArgs false
set_option linter.unusedVariables false

/-! ### Several masses together -/
def AboutF (m i cx cy px py r : Nat) : Prop := ∃ x y s q, SubR cx cy px py x y ∧ DotR x y x y s ∧ resK .mul .f64 m s q ∧ resK .add .f64 i q r
theorem zero_words {x : Nat} (o : okK .f64 x) (h : rgK .f64 x = 0) : x = 0 ∨ x = 9223372036854775808 := by
  cases hs : ngK .f64 x
  · left; exact word_inj FloatKind.f64.format x 0 o (by decide) (by rw [show ng FloatKind.f64.format x = false from hs]; decide +kernel) (by rw [show rg FloatKind.f64.format x = 0 from h]; decide +kernel)
  · right; exact word_inj FloatKind.f64.format x 9223372036854775808 o (by decide) (by rw [show ng FloatKind.f64.format x = true from hs]; decide +kernel) (by rw [show rg FloatKind.f64.format x = 0 from h]; decide +kernel)
theorem eq_zeros {c d : Nat} (oc : okK .f64 c) (od : okK .f64 d) (h : eqK .f64 c d = true) (e : ¬ c = d) : (c = 0 ∨ c = 9223372036854775808) ∧ (d = 0 ∨ d = 9223372036854775808) := by
  unfold eqK at h
  simp only [Bool.and_eq_true, decide_eq_true_eq] at h
  have hw := h.2
  by_cases z : rgK .f64 c = 0
  · have : woK .f64 d = 0 := by rw [← hw]; exact (wo_zero .f64 c).2 z
    exact ⟨zero_words oc z, zero_words od ((wo_zero .f64 d).1 this)⟩
  · exfalso
    rw [woK_eq, woK_eq] at hw
    apply e
    cases h1 : ngK .f64 c <;> cases h2 : ngK .f64 d <;> rw [h1, h2] at hw <;> simp only [if_true, Bool.false_eq_true, if_false] at hw
    · exact word_inj FloatKind.f64.format c d oc od (h1.trans h2.symm) (show rgK .f64 c = rgK .f64 d by omega)
    · omega
    · omega
    · exact word_inj FloatKind.f64.format c d oc od (h1.trans h2.symm) (show rgK .f64 c = rgK .f64 d by omega)
theorem sq_anti {x y c d p q : Nat} (ox : okK .f64 x) (oy : okK .f64 y) (h : resK .sub .f64 x y c) (g : resK .sub .f64 y x d) (hp : resK .mul .f64 c c p) (hq : resK .mul .f64 d d q) : smK .f64 p q = true := by
  obtain ⟨a1, a2⟩ := sub_anti h g
  cases hn : nanK .f64 c
  · rw [hn] at a1 a2
    have oc := h.1
    have od := g.1
    have on := neg_ok od
    have nn : nanK .f64 (Op.negFloat .f64 d) = false := by rw [neg_nan .f64 d od]; exact a1
    have hq' : resK .mul .f64 (Op.negFloat .f64 d) (Op.negFloat .f64 d) q := by unfold resK at *; rw [mul_neg_neg .f64 d d od od]; exact hq
    by_cases e : c = Op.negFloat .f64 d
    · subst e
      exact res_congr (smK_self _ _) (smK_self _ _) hp hq'
    · have zz : (c = 0 ∨ c = 9223372036854775808) ∧ (Op.negFloat .f64 d = 0 ∨ Op.negFloat .f64 d = 9223372036854775808) := eq_zeros oc on (by rw [a2]; rfl) e
      have z : ∀ {u r : Nat}, (u = 0 ∨ u = 9223372036854775808) → resK .mul .f64 u u r → r = 0 := by
        intro u r hu hr
        rcases hu with rfl | rfl
        · exact res_is hr (by decide +kernel)
        · exact res_is hr (by decide +kernel)
      rw [z zz.1 hp, z zz.2 hq']
      exact smK_self _ _
  · rw [hn] at a1
    have np := res_nan hp (floatBits_nan_l .mul .f64 c c hn)
    have nq := res_nan hq (floatBits_nan_l .mul .f64 d d a1)
    unfold smK
    rw [np, nq]
    rfl
theorem dot_anti {cx cy px py x y x' y' r r' : Nat} (o1 : okK .f64 cx) (o2 : okK .f64 cy) (o3 : okK .f64 px) (o4 : okK .f64 py) (h : SubR px py cx cy x y) (g : SubR cx cy px py x' y') (h' : DotR x y x y r) (g' : DotR x' y' x' y' r') : smK .f64 r r' = true := by
  obtain ⟨p, q, h1, h2, h3⟩ := h'
  obtain ⟨p', q', g1, g2, g3⟩ := g'
  exact res_congr (sq_anti o3 o1 h.1 g.1 h1 g1) (sq_anti o4 o2 h.2 g.2 h2 g2) h3 g3
theorem sub_sm {cx cy px py px' py' x y x' y' : Nat} (e1 : smK .f64 px px' = true) (e2 : smK .f64 py py' = true) (h : SubR px py cx cy x y) (g : SubR px' py' cx cy x' y') : smK .f64 x x' = true ∧ smK .f64 y y' = true :=
  ⟨res_congr e1 (smK_self _ _) h.1 g.1, res_congr e2 (smK_self _ _) h.2 g.2⟩
theorem sub_ex (x y : Nat) : ∃ r, resK .sub .f64 x y r := ⟨_, fv_res .sub .f64 x y default⟩
/-- about a place, from the place or from the centre: the same -/
theorem about_flip {m i cx cy px py px' py' r r' : Nat} (o1 : okK .f64 cx) (o2 : okK .f64 cy) (o3 : okK .f64 px) (o4 : okK .f64 py) (e1 : smK .f64 px px' = true) (e2 : smK .f64 py py' = true) (h : AboutR m i cx cy px py r) (g : AboutF m i cx cy px' py' r') : smK .f64 r r' = true := by
  obtain ⟨x, y, s, q, h1, h2, h3, h4⟩ := h
  obtain ⟨x', y', s', q', g1, g2, g3, g4⟩ := g
  obtain ⟨u, hu⟩ := sub_ex cx px
  obtain ⟨v, hv⟩ := sub_ex cy py
  obtain ⟨p1, hp1⟩ : ∃ r, resK .mul .f64 u u r := ⟨_, fv_res .mul .f64 u u default⟩
  obtain ⟨p2, hp2⟩ : ∃ r, resK .mul .f64 v v r := ⟨_, fv_res .mul .f64 v v default⟩
  obtain ⟨p3, hp3⟩ : ∃ r, resK .add .f64 p1 p2 r := ⟨_, fv_res .add .f64 p1 p2 default⟩
  have hd : DotR u v u v p3 := ⟨p1, p2, hp1, hp2, hp3⟩
  have a := dot_anti o1 o2 o3 o4 h1 (show SubR cx cy px py u v from ⟨hu, hv⟩) h2 hd
  have b := dot_sm (res_congr (smK_self _ _) e1 hu g1.1) (res_congr (smK_self _ _) e2 hv g1.2) hd g2
  exact res_congr (smK_self _ _) (res_congr (smK_self _ _) (smK_trans a b) h3 g3) h4 g4
/-- sums of what is told of each -/
def SumR (n : Nat) (T : Nat → Nat → Prop) (r : Nat) : Prop := ∃ ts : Nat → Nat, (∀ q, q < n → T q (ts q)) ∧ accR (ts 0) (fun q => ts (q + 1)) (n - 1) r
theorem SumR.sm {n r r' : Nat} {T T' : Nat → Nat → Prop} (hn : 0 < n) (e : ∀ q t t', q < n → T q t → T' q t' → smK .f64 t t' = true) (h : SumR n T r) (g : SumR n T' r') : smK .f64 r r' = true := by
  obtain ⟨ts, h1, h2⟩ := h
  obtain ⟨us, g1, g2⟩ := g
  exact accR.sm (e 0 _ _ hn (h1 0 hn) (g1 0 hn)) (fun i hi => e (i + 1) _ _ (by omega) (h1 _ (by omega)) (g1 _ (by omega))) h2 g2
/-- several masses: M, X, Y, the inertia; b: the way from the place (the program), or from the centre (the document's answer) -/
def JoinM (ms js xs ys : Nat → Nat) (n : Nat) (Ab : Nat → Nat → Nat → Nat → Nat → Nat → Nat → Prop) (m j x y : Nat) (e : Int) : Prop := ∃ M, SumR n (fun q t => t = ms q) M ∧
  ((eqK .f64 M 0 = true ∧ m = 0 ∧ j = 0 ∧ x = 0 ∧ y = 0 ∧ e = 0) ∨ (eqK .f64 M 0 = false ∧ ∃ sx sy px py I, SumR n (fun q t => resK .mul .f64 (ms q) (xs q) t) sx ∧ SumR n (fun q t => resK .mul .f64 (ms q) (ys q) t) sy ∧ resK .quo .f64 sx M px ∧ resK .quo .f64 sy M py ∧
    SumR n (fun q t => Ab (ms q) (js q) (xs q) (ys q) px py t) I ∧ Told M I px py m j x y e))
def allM (ms js xs ys : Nat → Nat) (n : Nat) : Prop := ∀ q, q < n → mB (ms q) (js q) (xs q) (ys q) = true
def JoinA (ms js xs ys : Nat → Nat) (n : Nat) (Ab : Nat → Nat → Nat → Nat → Nat → Nat → Nat → Prop) (m j x y : Nat) (e : Int) : Prop :=
  (16384 < n ∧ m = 0 ∧ j = 0 ∧ x = 0 ∧ y = 0 ∧ e = 4) ∨ (n ≤ 16384 ∧ ¬ allM ms js xs ys n ∧ m = 0 ∧ j = 0 ∧ x = 0 ∧ y = 0 ∧ e = 80) ∨ (n = 0 ∧ m = 0 ∧ j = 0 ∧ x = 0 ∧ y = 0 ∧ e = 0) ∨
  (n = 1 ∧ allM ms js xs ys n ∧ m = ms 0 ∧ j = js 0 ∧ x = xs 0 ∧ y = ys 0 ∧ e = 0) ∨ (2 ≤ n ∧ n ≤ 16384 ∧ allM ms js xs ys n ∧ JoinM ms js xs ys n Ab m j x y e)
theorem JoinM.sm {ms js xs ys : Nat → Nat} {n m j x y m' j' x' y' : Nat} {e e' : Int} (hn : 0 < n) (o : ∀ q, q < n → okK .f64 (xs q) ∧ okK .f64 (ys q)) (h : JoinM ms js xs ys n AboutR m j x y e) (g : JoinM ms js xs ys n AboutF m' j' x' y' e') :
    smK .f64 m m' = true ∧ smK .f64 j j' = true ∧ smK .f64 x x' = true ∧ smK .f64 y y' = true ∧ e = e' := by
  obtain ⟨M, h1, h⟩ := h
  obtain ⟨M', g1, g⟩ := g
  have eM : smK .f64 M M' = true := h1.sm hn (fun q t t' _ a b => by rw [a, b]; exact smK_self _ _) g1
  have eZ : eqK .f64 M 0 = eqK .f64 M' 0 := by
    rcases sm_or eM with rfl | ⟨a, b⟩
    · rfl
    · unfold eqK; rw [a, b]; simp
  rcases h with ⟨h2, rfl, rfl, rfl, rfl, rfl⟩ | ⟨h2, sx, sy, px, py, I, h3, h4, h5, h6, h7, h8⟩ <;> rcases g with ⟨g2, rfl, rfl, rfl, rfl, rfl⟩ | ⟨g2, sx', sy', px', py', I', g3, g4, g5, g6, g7, g8⟩
  · exact ⟨smK_self _ _, smK_self _ _, smK_self _ _, smK_self _ _, rfl⟩
  · rw [eZ, g2] at h2; cases h2
  · rw [eZ, g2] at h2; cases h2
  · have ex := res_congr (h3.sm (T' := fun q t => resK .mul .f64 (ms q) (xs q) t) hn (fun q t t' _ a b => res_congr (smK_self _ _) (smK_self _ _) a b) g3) eM h5 g5
    have ey := res_congr (h4.sm (T' := fun q t => resK .mul .f64 (ms q) (ys q) t) hn (fun q t t' _ a b => res_congr (smK_self _ _) (smK_self _ _) a b) g4) eM h6 g6
    have eI := h7.sm (T' := fun q t => AboutF (ms q) (js q) (xs q) (ys q) px' py' t) hn (fun q t t' hq a b => about_flip (o q hq).1 (o q hq).2 h5.1 h6.1 ex ey a b) g7
    exact h8.sm eM eI ex ey g8
theorem JoinA.sm {ms js xs ys : Nat → Nat} {n m j x y m' j' x' y' : Nat} {e e' : Int} (o : ∀ q, q < n → okK .f64 (xs q) ∧ okK .f64 (ys q)) (h : JoinA ms js xs ys n AboutR m j x y e) (g : JoinA ms js xs ys n AboutF m' j' x' y' e') :
    smK .f64 m m' = true ∧ smK .f64 j j' = true ∧ smK .f64 x x' = true ∧ smK .f64 y y' = true ∧ e = e' := by
  have z := smK_self .f64
  rcases h with ⟨h1, rfl, rfl, rfl, rfl, rfl⟩ | ⟨h1, h2, rfl, rfl, rfl, rfl, rfl⟩ | ⟨h1, rfl, rfl, rfl, rfl, rfl⟩ | ⟨h1, h2, rfl, rfl, rfl, rfl, rfl⟩ | ⟨h0, h1, h2, h3⟩ <;> rcases g with ⟨g1, rfl, rfl, rfl, rfl, rfl⟩ | ⟨g1, g2, rfl, rfl, rfl, rfl, rfl⟩ | ⟨g1, rfl, rfl, rfl, rfl, rfl⟩ | ⟨g1, g2, rfl, rfl, rfl, rfl, rfl⟩ | ⟨g0, g1, g2, g3⟩ <;> first | exact ⟨z _, z _, z _, z _, rfl⟩ | (exfalso; omega) | exact absurd ‹allM ms js xs ys n› ‹¬ allM ms js xs ys n› | exact h3.sm (by omega) o g3 | (exfalso; apply ‹¬ allM ms js xs ys n›; intro q hq; omega)
end Go.Proofs.Ytoofbfjlgablkaa
