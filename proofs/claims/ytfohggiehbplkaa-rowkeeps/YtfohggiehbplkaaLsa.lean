/-
  Plain facts on floats, more: rounding to the nearest rung, sums and products of finite floats, signs turned. No program is named here.
-/
import Derived.Test.YtfohggiehbplkaaFlt
namespace Go.Proofs.Ytfohggiehbplkaa
open Ieee Go.RowKit
set_option linter.unusedSimpArgs false

/-! ### Floats as num tells them: whatever is no number is one word; what an operation gives is then a function -/
theorem bits_iff {x y : Nat} : smK .f64 x y = true ↔ bitsK x = bitsK y := by
  rw [← bitsK_eq, decide_eq_true_eq]
theorem none_nan : nanK .f64 9221120237041090560 = true := by decide +kernel
theorem bits_nan {x : Nat} (h : nanK .f64 x = true) : bitsK x = 9221120237041090560 := by unfold bitsK; rw [h]; rfl
theorem bits_num {x : Nat} (h : nanK .f64 x = false) : bitsK x = x := by unfold bitsK; rw [h]; rfl
theorem bits_bits (x : Nat) : bitsK (bitsK x) = bitsK x := by
  cases h : nanK .f64 x
  · rw [bits_num h, bits_num h]
  · rw [bits_nan h, bits_nan none_nan]
theorem smn_bits (x : Nat) : smK .f64 x (bitsK x) = true := by rw [bits_iff, bits_bits]
def oF (op : BinOp) (x y : Nat) : Nat := bitsK ((floatBits op .f64 x y).getD 9221120237041090560)
def qF (x : Nat) : Nat := bitsK ((FloatKind.f64.format.sqrt x).getD 9221120237041090560)
theorem none_ok : okK .f64 9221120237041090560 := by rw [okK64]; omega
theorem res_o (op : BinOp) (x y : Nat) : resK op .f64 x y ((floatBits op .f64 x y).getD 9221120237041090560) := by
  unfold resK
  cases h : floatBits op .f64 x y with
  | some r => exact ⟨floatBits_ok h, .inl rfl⟩
  | none => exact ⟨none_ok, .inr ⟨rfl, none_nan⟩⟩
theorem res_n {op : BinOp} {x y r : Nat} (h : resK op .f64 x y r) : bitsK r = oF op (bitsK x) (bitsK y) :=
  bits_iff.1 (res_congr (smn_bits x) (smn_bits y) h (res_o op _ _))
theorem sq_o (x : Nat) : sqR x ((FloatKind.f64.format.sqrt x).getD 9221120237041090560) := by
  unfold sqR
  cases h : FloatKind.f64.format.sqrt x with
  | some r => exact ⟨sqrt_ok h, .inl rfl⟩
  | none => exact ⟨none_ok, .inr ⟨rfl, none_nan⟩⟩
theorem sq_n {x r : Nat} (h : sqR x r) : bitsK r = qF (bitsK x) := bits_iff.1 (sq_congr (smn_bits x) h (sq_o _))
theorem lt_n (x y : Nat) : ltK .f64 x y = ltK .f64 (bitsK x) (bitsK y) := by
  cases hx : nanK .f64 x
  · cases hy : nanK .f64 y
    · rw [bits_num hx, bits_num hy]
    · rw [bits_nan hy]; unfold ltK; rw [hy, none_nan]; simp
  · rw [bits_nan hx]; unfold ltK; rw [hx, none_nan]; simp
theorem lt_n0 (y : Nat) : ltK .f64 0 y = ltK .f64 0 (bitsK y) := lt_n 0 y
theorem lt_n1 (y : Nat) : ltK .f64 y 0 = ltK .f64 (bitsK y) 0 := lt_n y 0
theorem fin_n (x : Nat) : finK .f64 x = finK .f64 (bitsK x) := fin_sm (smn_bits x)

/-! ### ways -/
abbrev Vp := Nat × Nat
def nP (p : Vp) : Vp := (bitsK p.1, bitsK p.2)
def suF (a b : Vp) : Vp := (oF .sub a.1 b.1, oF .sub a.2 b.2)
def dtF (a b : Vp) : Nat := oF .add (oF .mul a.1 b.1) (oF .mul a.2 b.2)
def crF (a b : Vp) : Nat := oF .sub (oF .mul a.1 b.2) (oF .mul a.2 b.1)
def lnF (a : Vp) : Nat := qF (dtF a a)
def moF (a : Vp) (s : Nat) (b : Vp) : Vp := (oF .add a.1 (oF .mul s b.1), oF .add a.2 (oF .mul s b.2))
theorem oF_n (op : BinOp) (x y : Nat) : bitsK (oF op x y) = oF op x y := by unfold oF; exact bits_bits _
theorem qF_n (x : Nat) : bitsK (qF x) = qF x := by unfold qF; exact bits_bits _
theorem SubR.n {ax ay bx b_y x y : Nat} (h : SubR ax ay bx b_y x y) : nP (x, y) = suF (nP (ax, ay)) (nP (bx, b_y)) := by
  unfold nP suF; rw [res_n h.1, res_n h.2]
theorem DotR.n {ax ay bx b_y r : Nat} (h : DotR ax ay bx b_y r) : bitsK r = dtF (nP (ax, ay)) (nP (bx, b_y)) := by
  obtain ⟨p, q, h1, h2, h3⟩ := h
  unfold nP dtF; rw [res_n h3, res_n h1, res_n h2]
theorem CrossR.n {ax ay bx b_y r : Nat} (h : CrossR ax ay bx b_y r) : bitsK r = crF (nP (ax, ay)) (nP (bx, b_y)) := by
  obtain ⟨p, q, h1, h2, h3⟩ := h
  unfold nP crF; rw [res_n h3, res_n h1, res_n h2]
theorem LengthR.n {ax ay r : Nat} (h : LengthR ax ay r) : bitsK r = lnF (nP (ax, ay)) := by
  obtain ⟨s, h1, h2⟩ := h
  unfold lnF; rw [sq_n h2, h1.n]
theorem MoreR.n {ax ay s bx b_y x y : Nat} (h : MoreR ax ay s bx b_y x y) : nP (x, y) = moF (nP (ax, ay)) (bitsK s) (nP (bx, b_y)) := by
  obtain ⟨p, q, h1, h2, h3, h4⟩ := h
  unfold nP moF; rw [res_n h3, res_n h4, res_n h1, res_n h2]

/-! ### the place of a segment next to another place -/
def oneW : Nat := 4607182418800017408
theorem clK_n (q : Nat) : bitsK (clK .f64 q 0 4607182418800017408) = clK .f64 (bitsK q) 0 4607182418800017408 := by
  cases hq : nanK .f64 q
  · rw [bits_num hq]
    have h1 : nanK .f64 (clK .f64 q 0 4607182418800017408) = false := by
      unfold clK
      split
      · decide +kernel
      · split
        · decide +kernel
        · exact hq
    exact bits_num h1
  · rw [bits_nan hq]
    have e : clK .f64 q 0 4607182418800017408 = 0 := by unfold clK ltK; rw [hq]; simp
    rw [e]; decide +kernel
def ptF (a b p : Vp) : Vp × Nat :=
  if ltK .f64 0 (dtF (suF b a) (suF b a)) then
    (moF a (clK .f64 (oF .quo (dtF (suF p a) (suF b a)) (dtF (suF b a) (suF b a))) 0 4607182418800017408) (suF b a), clK .f64 (oF .quo (dtF (suF p a) (suF b a)) (dtF (suF b a) (suF b a))) 0 4607182418800017408)
  else (a, 0)
theorem bits_zero : bitsK 0 = 0 := by decide +kernel
theorem pt_yes {ax ay bx b_y px py dx dy s ex ey g q x y : Nat} (h1 : SubR bx b_y ax ay dx dy) (h2 : DotR dx dy dx dy s) (hs : ltK .f64 0 s = true) (h3 : SubR px py ax ay ex ey) (h4 : DotR ex ey dx dy g) (h5 : resK .quo .f64 g s q) (h6 : MoreR ax ay (clK .f64 q 0 4607182418800017408) dx dy x y) :
    nP (x, y) = (ptF (nP (ax, ay)) (nP (bx, b_y)) (nP (px, py))).1 ∧ bitsK (clK .f64 q 0 4607182418800017408) = (ptF (nP (ax, ay)) (nP (bx, b_y)) (nP (px, py))).2 := by
  rw [lt_n0, h2.n, h1.n] at hs
  unfold ptF
  rw [hs, if_pos rfl, h6.n, clK_n, res_n h5, h4.n, h3.n, h2.n, h1.n]
  exact ⟨rfl, rfl⟩
theorem pt_no {ax ay bx b_y px py dx dy s : Nat} (h1 : SubR bx b_y ax ay dx dy) (h2 : DotR dx dy dx dy s) (hs : ltK .f64 0 s = false) :
    nP (ax, ay) = (ptF (nP (ax, ay)) (nP (bx, b_y)) (nP (px, py))).1 ∧ bitsK 0 = (ptF (nP (ax, ay)) (nP (bx, b_y)) (nP (px, py))).2 := by
  rw [lt_n0, h2.n, h1.n] at hs
  unfold ptF
  rw [hs]
  exact ⟨rfl, bits_zero⟩

/-! ### segments -/
abbrev Nr := Nat × Vp × Vp
def nN (n : Nr) : Nr := (bitsK n.1, nP n.2.1, nP n.2.2)
def opF (s t : Nat) : Bool := ltK .f64 0 s && ltK .f64 t 0 || ltK .f64 s 0 && ltK .f64 0 t
theorem op_n (s t : Nat) : opF s t = opF (bitsK s) (bitsK t) := by unfold opF; rw [lt_n0 s, lt_n1 t, lt_n1 s, lt_n0 t]
def apN (a b : Vp) : Nr := (lnF (suF b a), a, b)
def nrF (best next : Nr) : Nr := if ltK .f64 next.1 best.1 then next else best
theorem nr_n (a b : Nr) : nN (nrF a b) = nrF (nN a) (nN b) := by
  unfold nrF
  rw [lt_n b.1 a.1]
  show nN (if ltK .f64 (nN b).1 (nN a).1 then b else a) = _
  cases ltK .f64 (nN b).1 (nN a).1 <;> rfl
def n0F (a c d : Vp) : Nr := apN a (ptF c d a).1
def n1F (a b c : Vp) : Nr := apN (ptF a b c).1 c
def endF (a b c d : Vp) : Nr := nrF (nrF (nrF (n0F a c d) (n0F b c d)) (n1F a b c)) (n1F a b d)
def atF (a b c d : Vp) : Vp := moF a (oF .quo (crF (suF d c) (suF a c)) (oF .sub (crF (suF d c) (suF a c)) (crF (suF d c) (suF b c)))) (suF b a)
def acF (a b c d : Vp) : Bool := opF (crF (suF b a) (suF c a)) (crF (suF b a) (suF d a)) && opF (crF (suF d c) (suF a c)) (crF (suF d c) (suF b c))
def segF (a b c d : Vp) : Nr := if acF a b c d then (0, atF a b c d, atF a b c d) else endF a b c d
theorem ap_n {ax ay bx b_y dx dy r : Nat} (h1 : SubR bx b_y ax ay dx dy) (h2 : LengthR dx dy r) : nN (r, (ax, ay), (bx, b_y)) = apN (nP (ax, ay)) (nP (bx, b_y)) := by
  unfold apN nN
  simp only
  rw [h2.n, h1.n]
/-! ### what a word is, as num tells it -/
def isF (r q : Nat) : Prop := okK .f64 r ∧ bitsK r = q
def isP (x y : Nat) (p : Vp) : Prop := okK .f64 x ∧ okK .f64 y ∧ nP (x, y) = p
def isN (f ax ay bx b_y : Nat) (n : Nr) : Prop := isF f n.1 ∧ isP ax ay n.2.1 ∧ isP bx b_y n.2.2
theorem isF_self {r : Nat} (h : okK .f64 r) : isF r (bitsK r) := ⟨h, rfl⟩
theorem isP_self {x y : Nat} (h : okK .f64 x) (g : okK .f64 y) : isP x y (nP (x, y)) := ⟨h, g, rfl⟩
theorem isF_zero : isF 0 0 := ⟨ok_zero, bits_zero⟩
theorem isP_zero : isP 0 0 (0, 0) := ⟨ok_zero, ok_zero, by decide +kernel⟩
theorem SubR.is {ax ay bx b_y x y : Nat} {A B : Vp} (h : SubR ax ay bx b_y x y) (ha : isP ax ay A) (hb : isP bx b_y B) : isP x y (suF A B) :=
  ⟨h.1.1, h.2.1, by rw [h.n, ha.2.2, hb.2.2]⟩
theorem DotR.is {ax ay bx b_y r : Nat} {A B : Vp} (h : DotR ax ay bx b_y r) (ha : isP ax ay A) (hb : isP bx b_y B) : isF r (dtF A B) :=
  ⟨h.ok, by rw [h.n, ha.2.2, hb.2.2]⟩
theorem CrossR.is {ax ay bx b_y r : Nat} {A B : Vp} (h : CrossR ax ay bx b_y r) (ha : isP ax ay A) (hb : isP bx b_y B) : isF r (crF A B) :=
  ⟨h.ok, by rw [h.n, ha.2.2, hb.2.2]⟩
theorem LengthR.is {ax ay r : Nat} {A : Vp} (h : LengthR ax ay r) (ha : isP ax ay A) : isF r (lnF A) :=
  ⟨h.ok, by rw [h.n, ha.2.2]⟩
theorem MoreR.is {ax ay s bx b_y x y S : Nat} {A B : Vp} (h : MoreR ax ay s bx b_y x y) (ha : isP ax ay A) (hs : isF s S) (hb : isP bx b_y B) : isP x y (moF A S B) :=
  ⟨h.ok.1, h.ok.2, by rw [h.n, ha.2.2, hs.2, hb.2.2]⟩
theorem o_is {op : BinOp} {x y X Y : Nat} (w : World) (hx : isF x X) (hy : isF y Y) : isF (fv op .f64 x y w) (oF op X Y) :=
  ⟨(fv_res op .f64 x y w).1, by rw [res_n (fv_res op .f64 x y w), hx.2, hy.2]⟩
theorem cl_is {q Q : Nat} (h : isF q Q) : isF (clK .f64 q 0 4607182418800017408) (clK .f64 Q 0 4607182418800017408) :=
  ⟨by unfold clK; split; exact ok_zero; split; (rw [okK64]; decide); exact h.1, by rw [clK_n, h.2]⟩
theorem lt0_is {s S : Nat} (h : isF s S) : ltK .f64 0 s = ltK .f64 0 S := by rw [lt_n0, h.2]
theorem lt1_is {s S : Nat} (h : isF s S) : ltK .f64 s 0 = ltK .f64 S 0 := by rw [lt_n1, h.2]
theorem lt_is {s S t T : Nat} (h : isF s S) (g : isF t T) : ltK .f64 s t = ltK .f64 S T := by rw [lt_n, h.2, g.2]
theorem op_is {s S t T : Nat} (h : isF s S) (g : isF t T) : opF s t = opF S T := by rw [op_n, h.2, g.2]
theorem F_same {r s q : Nat} (h : isF r q) (g : isF s q) : smK .f64 r s = true := by rw [bits_iff, h.2, g.2]
theorem P_same {x y u v : Nat} {p : Vp} (h : isP x y p) (g : isP u v p) : smK .f64 x u = true ∧ smK .f64 y v = true := by
  have e := h.2.2.trans g.2.2.symm
  unfold nP at e
  injection e with e1 e2
  exact ⟨bits_iff.2 e1, bits_iff.2 e2⟩
theorem isN_nr {f ax ay bx b_y g cx cy dx dy : Nat} {n m : Nr} (h : isN f ax ay bx b_y n) (k : isN g cx cy dx dy m) :
    (ltK .f64 g f = true → isN g cx cy dx dy (nrF n m)) ∧ (ltK .f64 g f = false → isN f ax ay bx b_y (nrF n m)) := by
  have e := lt_is k.1 h.1
  unfold nrF
  rw [← e]
  exact ⟨fun t => by rw [t]; exact k, fun t => by rw [t]; exact h⟩
end Go.Proofs.Ytfohggiehbplkaa
