/-
  Plain facts on floats, more: rounding to the nearest rung, sums and products of finite floats, signs turned. No program is named here.
-/
import Derived.Test.YtfohggiehbplkaaFlt
namespace Go.Proofs.Ytfohggiehbplkaa
open Ieee Go.RowKit
set_option linter.unusedSimpArgs false

theorem bits_iff {x y : Nat} : smK .f64 x y = true ↔ bitsK x = bitsK y := by
  rw [← bitsK_eq, decide_eq_true_eq]
theorem none_nan : nanK .f64 9221120237041090560 = true := by decide +kernel
theorem bits_nan {x : Nat} (h : nanK .f64 x = true) : bitsK x = 9221120237041090560 := by unfold bitsK; rw [h]; rfl
theorem bits_num {x : Nat} (h : nanK .f64 x = false) : bitsK x = x := by unfold bitsK; rw [h]; rfl
theorem bits_bits (x : Nat) : bitsK (bitsK x) = bitsK x := by
  cases h : nanK .f64 x
  · rw [bits_num h, bits_num h]
  · rw [bits_nan h, bits_nan none_nan]
theorem smn_bits (x : Nat) : smK .f64 x (bitsK x) = true := by rw [bits_iff, bits_bits]
def oF (op : BinOp) (x y : Nat) : Nat := bitsK ((floatBits op .f64 x y).getD 9221120237041090560)
def qF (x : Nat) : Nat := bitsK ((FloatKind.f64.format.sqrt x).getD 9221120237041090560)
theorem none_ok : okK .f64 9221120237041090560 := by rw [okK64]; omega
theorem res_o (op : BinOp) (x y : Nat) : resK op .f64 x y ((floatBits op .f64 x y).getD 9221120237041090560) := by
  unfold resK
  cases h : floatBits op .f64 x y with
  | some r => exact ⟨floatBits_ok h, .inl rfl⟩
  | none => exact ⟨none_ok, .inr ⟨rfl, none_nan⟩⟩
theorem res_n {op : BinOp} {x y r : Nat} (h : resK op .f64 x y r) : bitsK r = oF op (bitsK x) (bitsK y) :=
  bits_iff.1 (res_congr (smn_bits x) (smn_bits y) h (res_o op _ _))
theorem sq_o (x : Nat) : sqR x ((FloatKind.f64.format.sqrt x).getD 9221120237041090560) := by
  unfold sqR
  cases h : FloatKind.f64.format.sqrt x with
  | some r => exact ⟨sqrt_ok h, .inl rfl⟩
  | none => exact ⟨none_ok, .inr ⟨rfl, none_nan⟩⟩
theorem sq_n {x r : Nat} (h : sqR x r) : bitsK r = qF (bitsK x) := bits_iff.1 (sq_congr (smn_bits x) h (sq_o _))
theorem lt_n (x y : Nat) : ltK .f64 x y = ltK .f64 (bitsK x) (bitsK y) := by
  cases hx : nanK .f64 x
  · cases hy : nanK .f64 y
    · rw [bits_num hx, bits_num hy]
    · rw [bits_nan hy]; unfold ltK; rw [hy, none_nan]; simp
  · rw [bits_nan hx]; unfold ltK; rw [hx, none_nan]; simp
theorem lt_n0 (y : Nat) : ltK .f64 0 y = ltK .f64 0 (bitsK y) := lt_n 0 y
theorem fin_n (x : Nat) : finK .f64 x = finK .f64 (bitsK x) := fin_sm (smn_bits x)

abbrev Vp := Nat × Nat
def nP (p : Vp) : Vp := (bitsK p.1, bitsK p.2)
def suF (a b : Vp) : Vp := (oF .sub a.1 b.1, oF .sub a.2 b.2)
def dtF (a b : Vp) : Nat := oF .add (oF .mul a.1 b.1) (oF .mul a.2 b.2)
def crF (a b : Vp) : Nat := oF .sub (oF .mul a.1 b.2) (oF .mul a.2 b.1)
def lnF (a : Vp) : Nat := qF (dtF a a)
def moF (a : Vp) (s : Nat) (b : Vp) : Vp := (oF .add a.1 (oF .mul s b.1), oF .add a.2 (oF .mul s b.2))
theorem SubR.n {ax ay bx b_y x y : Nat} (h : SubR ax ay bx b_y x y) : nP (x, y) = suF (nP (ax, ay)) (nP (bx, b_y)) := by
  unfold nP suF; rw [res_n h.1, res_n h.2]
theorem DotR.n {ax ay bx b_y r : Nat} (h : DotR ax ay bx b_y r) : bitsK r = dtF (nP (ax, ay)) (nP (bx, b_y)) := by
  obtain ⟨p, q, h1, h2, h3⟩ := h
  unfold nP dtF; rw [res_n h3, res_n h1, res_n h2]
theorem CrossR.n {ax ay bx b_y r : Nat} (h : CrossR ax ay bx b_y r) : bitsK r = crF (nP (ax, ay)) (nP (bx, b_y)) := by
  obtain ⟨p, q, h1, h2, h3⟩ := h
  unfold nP crF; rw [res_n h3, res_n h1, res_n h2]
theorem LengthR.n {ax ay r : Nat} (h : LengthR ax ay r) : bitsK r = lnF (nP (ax, ay)) := by
  obtain ⟨s, h1, h2⟩ := h
  unfold lnF; rw [sq_n h2, h1.n]
theorem MoreR.n {ax ay s bx b_y x y : Nat} (h : MoreR ax ay s bx b_y x y) : nP (x, y) = moF (nP (ax, ay)) (bitsK s) (nP (bx, b_y)) := by
  obtain ⟨p, q, h1, h2, h3, h4⟩ := h
  unfold nP moF; rw [res_n h3, res_n h4, res_n h1, res_n h2]

def isF (r q : Nat) : Prop := okK .f64 r ∧ bitsK r = q
def isP (x y : Nat) (p : Vp) : Prop := okK .f64 x ∧ okK .f64 y ∧ nP (x, y) = p
theorem SubR.is {ax ay bx b_y x y : Nat} {A B : Vp} (h : SubR ax ay bx b_y x y) (ha : isP ax ay A) (hb : isP bx b_y B) : isP x y (suF A B) :=
  ⟨h.1.1, h.2.1, by rw [h.n, ha.2.2, hb.2.2]⟩
theorem DotR.is {ax ay bx b_y r : Nat} {A B : Vp} (h : DotR ax ay bx b_y r) (ha : isP ax ay A) (hb : isP bx b_y B) : isF r (dtF A B) :=
  ⟨h.ok, by rw [h.n, ha.2.2, hb.2.2]⟩
theorem CrossR.is {ax ay bx b_y r : Nat} {A B : Vp} (h : CrossR ax ay bx b_y r) (ha : isP ax ay A) (hb : isP bx b_y B) : isF r (crF A B) :=
  ⟨h.ok, by rw [h.n, ha.2.2, hb.2.2]⟩
theorem LengthR.is {ax ay r : Nat} {A : Vp} (h : LengthR ax ay r) (ha : isP ax ay A) : isF r (lnF A) :=
  ⟨h.ok, by rw [h.n, ha.2.2]⟩
theorem MoreR.is {ax ay s bx b_y x y S : Nat} {A B : Vp} (h : MoreR ax ay s bx b_y x y) (ha : isP ax ay A) (hs : isF s S) (hb : isP bx b_y B) : isP x y (moF A S B) :=
  ⟨h.ok.1, h.ok.2, by rw [h.n, ha.2.2, hs.2, hb.2.2]⟩
theorem o_is {op : BinOp} {x y X Y : Nat} (w : World) (hx : isF x X) (hy : isF y Y) : isF (fv op .f64 x y w) (oF op X Y) :=
  ⟨(fv_res op .f64 x y w).1, by rw [res_n (fv_res op .f64 x y w), hx.2, hy.2]⟩
theorem lt0_is {s S : Nat} (h : isF s S) : ltK .f64 0 s = ltK .f64 0 S := by rw [lt_n0, h.2]
end Go.Proofs.Ytfohggiehbplkaa
