/-
  Plain facts on floats, more: rounding to the nearest rung, sums and products of finite floats, signs turned. No program is named here.
-/
import Derived.Test.YtfohggiehbplkaaLsa
namespace Go.Proofs.Ytfohggiehbplkaa
open Ieee Go.RowKit
set_option linter.unusedSimpArgs false
set_option linter.unusedVariables false

/-! ### Rows and stills: what the words of chapter 20 say, as functions of the words -/
/-- a row's words -/
structure RD where
  ra : Int
  rb : Int
  r2 : Nat
  r3 : Nat
  r4 : Nat
  r5 : Nat
  r6 : Nat
  r7 : Nat
  r8 : Nat
  r9 : Nat
  r10 : Nat
  r11 : Nat
  ro : Int
  r13 : Nat
def rok (q : RD) : Prop := okK .f64 q.r2 ∧ okK .f64 q.r3 ∧ okK .f64 q.r4 ∧ okK .f64 q.r5 ∧ okK .f64 q.r6 ∧ okK .f64 q.r7 ∧ okK .f64 q.r8 ∧ okK .f64 q.r9 ∧ okK .f64 q.r10 ∧ okK .f64 q.r11 ∧ okK .f64 q.r13
/-- a still's words -/
structure SD where
  sm : Nat
  si : Nat
  sx : Nat
  sy : Nat
  ss : Nat
def sok (s : SD) : Prop := okK .f64 s.sm ∧ okK .f64 s.si ∧ okK .f64 s.sx ∧ okK .f64 s.sy ∧ okK .f64 s.ss
def nS (s : SD) : SD := ⟨bitsK s.sm, bitsK s.si, bitsK s.sx, bitsK s.sy, bitsK s.ss⟩
def isS (s n : SD) : Prop := sok s ∧ nS s = n
def weB (f : Nat) : Bool := leK .f64 0 f && finK .f64 f
def stB (s : SD) : Bool := weB s.sm && weB s.si
def mayB (R : RD) : Bool := decide (0 ≤ R.ra) && (decide (0 ≤ R.rb) && (decide (R.ra ≠ R.rb) && (decide (-1 ≤ R.ro) && (leK .f64 R.r9 R.r10 && ((finK .f64 R.r2 && finK .f64 R.r3) && ((finK .f64 R.r4 && finK .f64 R.r5) && (finK .f64 R.r6 && (finK .f64 R.r7 && (finK .f64 R.r8 && (finK .f64 R.r11 && weB R.r13))))))))))
def alB (R : RD) (a b : SD) : Bool := mayB R && (stB a && stB b)
def spF (R : RD) (a b : SD) : Nat := oF .add (oF .add (oF .add (dtF (nP (R.r2, R.r3)) (nP (a.sx, a.sy))) (oF .mul (bitsK R.r6) (bitsK a.ss))) (dtF (nP (R.r4, R.r5)) (nP (b.sx, b.sy)))) (oF .mul (bitsK R.r7) (bitsK b.ss))
def wtF (R : RD) (a b : SD) : Nat := oF .add (oF .add (oF .add (oF .mul (bitsK a.sm) (dtF (nP (R.r2, R.r3)) (nP (R.r2, R.r3)))) (oF .mul (bitsK a.si) (oF .mul (bitsK R.r6) (bitsK R.r6)))) (oF .mul (bitsK b.sm) (dtF (nP (R.r4, R.r5)) (nP (R.r4, R.r5))))) (oF .mul (bitsK b.si) (oF .mul (bitsK R.r7) (bitsK R.r7)))
/-- a speed behind a push, if what it is of can be moved -/
def puX (m x g P : Nat) : Nat := if ltK .f64 0 m then oF .add (bitsK x) (oF .mul (oF .mul (bitsK m) P) (bitsK g)) else bitsK x
def puT (m x g P : Nat) : Nat := if ltK .f64 0 m then oF .add (bitsK x) (oF .mul (bitsK m) (oF .mul P (bitsK g))) else bitsK x
def puS (a : SD) (gx gy g P : Nat) : SD := ⟨bitsK a.sm, bitsK a.si, puX a.sm a.sx gx P, puX a.sm a.sy gy P, puT a.si a.ss g P⟩
def lkF (R : RD) (a b : SD) : Nat := oF .sub (bitsK R.r8) (spF R a b)
def quF (R : RD) (a b : SD) : Nat := clK .f64 (oF .add (bitsK R.r11) (oF .quo (lkF R a b) (wtF R a b))) R.r9 R.r10
def dfF (R : RD) (a b : SD) : Nat := oF .sub (quF R a b) (bitsK R.r11)
def okB (R : RD) (a b : SD) : Bool := ltK .f64 0 (wtF R a b) && (finK .f64 (wtF R a b) && finK .f64 (lkF R a b))
def fiB (R : RD) (a b : SD) : Bool := finK .f64 (quF R a b) && finK .f64 (dfF R a b)
def setP (R : RD) (q : Nat) : RD := { R with r11 := q }
theorem isF_r {x : Nat} (h : okK .f64 x) : isF x (bitsK x) := ⟨h, rfl⟩
theorem isP_r {x y : Nat} (h : okK .f64 x) (g : okK .f64 y) : isP x y (nP (x, y)) := ⟨h, g, rfl⟩
theorem isS_r {s : SD} (h : sok s) : isS s (nS s) := ⟨h, rfl⟩
theorem cl_ok {q lo hi : Nat} (h : okK .f64 q) (g : okK .f64 lo) (k : okK .f64 hi) : okK .f64 (clK .f64 q lo hi) := by
  unfold clK; split; exact g; split; exact k; exact h
theorem cl_n {q lo hi : Nat} (hl : nanK .f64 lo = false) (hh : nanK .f64 hi = false) : bitsK (clK .f64 q lo hi) = clK .f64 (bitsK q) lo hi := by
  cases hq : nanK .f64 q
  · rw [bits_num hq]
    have h1 : nanK .f64 (clK .f64 q lo hi) = false := by
      unfold clK
      split
      · exact hl
      · split
        · exact hh
        · exact hq
    exact bits_num h1
  · rw [bits_nan hq]
    have e : clK .f64 q lo hi = lo := by unfold clK ltK; rw [hq]; simp
    have e2 : clK .f64 9221120237041090560 lo hi = lo := by unfold clK ltK; rw [none_nan]; simp
    rw [e, e2, bits_num hl]
theorem cl_isG {q Q lo hi : Nat} (h : isF q Q) (ol : okK .f64 lo) (oh : okK .f64 hi) (hl : nanK .f64 lo = false) (hh : nanK .f64 hi = false) : isF (clK .f64 q lo hi) (clK .f64 Q lo hi) :=
  ⟨cl_ok h.1 ol oh, by rw [cl_n hl hh, h.2]⟩
theorem le_nums {x y : Nat} (h : leK .f64 x y = true) : nanK .f64 x = false ∧ nanK .f64 y = false := by
  unfold leK at h
  simp at h
  exact ⟨h.1.1, h.1.2⟩
theorem may_ends {R : RD} (h : mayB R = true) : nanK .f64 R.r9 = false ∧ nanK .f64 R.r10 = false := by
  unfold mayB at h
  simp only [Bool.and_eq_true] at h
  exact le_nums h.2.2.2.2.1
theorem fin_is {x X : Nat} (h : isF x X) : finK .f64 x = finK .f64 X := by rw [fin_n, h.2]
/-- of what is a weight, above nought and not nought are one -/
theorem we_ne {m : Nat} (h : weB m = true) : eqK .f64 m 0 = !ltK .f64 0 m := by
  unfold weB at h
  simp only [Bool.and_eq_true] at h
  have h1 := h.1
  unfold leK at h1
  unfold eqK ltK
  simp at h1
  rw [h1.1.1, h1.1.2]
  rw [Bool.eq_iff_iff]
  simp
  omega
end Go.Proofs.Ytfohggiehbplkaa
