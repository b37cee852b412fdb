/-
  Plain facts on floats, more: rounding to the nearest rung, sums and products of finite floats, signs turned. No program is named here.
-/
import Derived.Test.YtnbkjkbgfcpcfaaShp
namespace Go.Proofs.Ytnbkjkbgfcpcfaa
open Ieee Go.RowKit
def ThenR (x y u v r i : Nat) : Prop := ∃ p q c d, resK .mul .f64 x u p ∧ resK .mul .f64 y v q ∧ resK .mul .f64 x v c ∧ resK .mul .f64 y u d ∧ resK .sub .f64 p q r ∧ resK .add .f64 c d i
def chk (s : Nat) : Bool := leK .f64 lo40 s && leK .f64 s hi40
def errT (b : Bool) : Int := if b then 0 else 30
def ToR (X Y x y u v tx ty : Nat) : Prop := ∃ A B, ThenR x y u v A B ∧ resK .add .f64 X A tx ∧ resK .add .f64 Y B ty
def frErr (X Y s : Nat) : Int := if withinK .f64 X 4787326403894837248 && withinK .f64 Y 4787326403894837248 then errT (chk s) else 5
/-- where a place lies by a frame -/
def toX (X x y u v : Nat) : Nat := Dv .add X (Dv .sub (Dv .mul x u) (Dv .mul y v))
def toY (Y x y u v : Nat) : Nat := Dv .add Y (Dv .add (Dv .mul x v) (Dv .mul y u))
theorem toR_d {n X Y x y u v tx ty : Nat} (h1 : Bd n X) (h2 : Bd n Y) (h3 : Bd n x) (h4 : Bd n y) (h5 : Bd n u) (h6 : Bd n v) (hn : n ≤ 200) (h : ToR X Y x y u v tx ty) : tx = toX X x y u v ∧ ty = toY Y x y u v := by
  obtain ⟨A, B, ⟨p, q, c, d, e1, e2, e3, e4, e5, e6⟩, e7, e8⟩ := h
  have b1 := bd_mul h3 h5 (by omega)
  have b2 := bd_mul h4 h6 (by omega)
  have b3 := bd_mul h3 h6 (by omega)
  have b4 := bd_mul h4 h5 (by omega)
  have s1 := bd_sub b1 b2 (by omega)
  have s2 := bd_add b3 b4 (by omega)
  rw [res_dv e1 (some_mul h3.2.1 h5.2.1), res_dv e2 (some_mul h4.2.1 h6.2.1)] at e5
  rw [res_dv e3 (some_mul h3.2.1 h6.2.1), res_dv e4 (some_mul h4.2.1 h5.2.1)] at e6
  rw [res_dv e5 (some_sub b1.2.1 b2.2.1 b2.1)] at e7
  rw [res_dv e6 (some_add b3.2.1 b4.2.1)] at e8
  exact ⟨res_dv e7 (some_add h1.2.1 s1.2.1), res_dv e8 (some_add h2.2.1 s2.2.1)⟩
theorem to_ok {n X Y x y u v : Nat} (h1 : Bd n X) (h2 : Bd n Y) (h3 : Bd n x) (h4 : Bd n y) (h5 : Bd n u) (h6 : Bd n v) (hn : n ≤ 200) : okK .f64 (toX X x y u v) ∧ okK .f64 (toY Y x y u v) := by
  have b1 := bd_mul h3 h5 (by omega)
  have b2 := bd_mul h4 h6 (by omega)
  have b3 := bd_mul h3 h6 (by omega)
  have b4 := bd_mul h4 h5 (by omega)
  have s1 := bd_sub b1 b2 (by omega)
  have s2 := bd_add b3 b4 (by omega)
  exact ⟨(dv_res (some_add h1.2.1 s1.2.1)).1, (dv_res (some_add h2.2.1 s2.2.1)).1⟩
end Go.Proofs.Ytnbkjkbgfcpcfaa
