/-
  Plain facts that go together.
-/
import Derived.Test.YtfohggiehbplkaaFlt
namespace Go.Proofs.Ytfohggiehbplkaa
open Ieee Go.RowKit
set_option linter.unusedSimpArgs false
theorem bits_iff {x y : Nat} : smK .f64 x y = true ↔ bitsK x = bitsK y := by
  rw [← bitsK_eq, decide_eq_true_eq]
theorem none_nan : nanK .f64 9221120237041090560 = true := by decide +kernel
theorem bits_nan {x : Nat} (h : nanK .f64 x = true) : bitsK x = 9221120237041090560 := by unfold bitsK; rw [h]; rfl
theorem bits_num {x : Nat} (h : nanK .f64 x = false) : bitsK x = x := by unfold bitsK; rw [h]; rfl
theorem bits_bits (x : Nat) : bitsK (bitsK x) = bitsK x := by
  cases h : nanK .f64 x
  · rw [bits_num h, bits_num h]
  · rw [bits_nan h, bits_nan none_nan]
theorem smn_bits (x : Nat) : smK .f64 x (bitsK x) = true := by rw [bits_iff, bits_bits]
def oF (op : BinOp) (x y : Nat) : Nat := bitsK ((floatBits op .f64 x y).getD 9221120237041090560)
def qF (x : Nat) : Nat := bitsK ((FloatKind.f64.format.sqrt x).getD 9221120237041090560)
theorem none_ok : okK .f64 9221120237041090560 := by rw [okK64]; omega
theorem res_o (op : BinOp) (x y : Nat) : resK op .f64 x y ((floatBits op .f64 x y).getD 9221120237041090560) := by
  unfold resK
  cases h : floatBits op .f64 x y with
  | some r => exact ⟨floatBits_ok h, .inl rfl⟩
  | none => exact ⟨none_ok, .inr ⟨rfl, none_nan⟩⟩
theorem res_n {op : BinOp} {x y r : Nat} (h : resK op .f64 x y r) : bitsK r = oF op (bitsK x) (bitsK y) :=
  bits_iff.1 (res_congr (smn_bits x) (smn_bits y) h (res_o op _ _))
theorem sq_o (x : Nat) : sqR x ((FloatKind.f64.format.sqrt x).getD 9221120237041090560) := by
  unfold sqR
  cases h : FloatKind.f64.format.sqrt x with
  | some r => exact ⟨sqrt_ok h, .inl rfl⟩
  | none => exact ⟨none_ok, .inr ⟨rfl, none_nan⟩⟩
theorem sq_n {x r : Nat} (h : sqR x r) : bitsK r = qF (bitsK x) := bits_iff.1 (sq_congr (smn_bits x) h (sq_o _))
theorem lt_n (x y : Nat) : ltK .f64 x y = ltK .f64 (bitsK x) (bitsK y) := by
  cases hx : nanK .f64 x
  · cases hy : nanK .f64 y
    · rw [bits_num hx, bits_num hy]
    · rw [bits_nan hy]; unfold ltK; rw [hy, none_nan]; simp
  · rw [bits_nan hx]; unfold ltK; rw [hx, none_nan]; simp
theorem lt_n0 (y : Nat) : ltK .f64 0 y = ltK .f64 0 (bitsK y) := lt_n 0 y
theorem fin_n (x : Nat) : finK .f64 x = finK .f64 (bitsK x) := fin_sm (smn_bits x)
abbrev Vp := Nat × Nat
def nP (p : Vp) : Vp := (bitsK p.1, bitsK p.2)
def suF (a b : Vp) : Vp := (oF .sub a.1 b.1, oF .sub a.2 b.2)
def dtF (a b : Vp) : Nat := oF .add (oF .mul a.1 b.1) (oF .mul a.2 b.2)
def crF (a b : Vp) : Nat := oF .sub (oF .mul a.1 b.2) (oF .mul a.2 b.1)
def lnF (a : Vp) : Nat := qF (dtF a a)
def moF (a : Vp) (s : Nat) (b : Vp) : Vp := (oF .add a.1 (oF .mul s b.1), oF .add a.2 (oF .mul s b.2))
theorem SubR.n {ax ay bx b_y x y : Nat} (h : SubR ax ay bx b_y x y) : nP (x, y) = suF (nP (ax, ay)) (nP (bx, b_y)) := by
  unfold nP suF; rw [res_n h.1, res_n h.2]
theorem DotR.n {ax ay bx b_y r : Nat} (h : DotR ax ay bx b_y r) : bitsK r = dtF (nP (ax, ay)) (nP (bx, b_y)) := by
  obtain ⟨p, q, h1, h2, h3⟩ := h
  unfold nP dtF; rw [res_n h3, res_n h1, res_n h2]
theorem CrossR.n {ax ay bx b_y r : Nat} (h : CrossR ax ay bx b_y r) : bitsK r = crF (nP (ax, ay)) (nP (bx, b_y)) := by
  obtain ⟨p, q, h1, h2, h3⟩ := h
  unfold nP crF; rw [res_n h3, res_n h1, res_n h2]
theorem LengthR.n {ax ay r : Nat} (h : LengthR ax ay r) : bitsK r = lnF (nP (ax, ay)) := by
  obtain ⟨s, h1, h2⟩ := h
  unfold lnF; rw [sq_n h2, h1.n]
theorem MoreR.n {ax ay s bx b_y x y : Nat} (h : MoreR ax ay s bx b_y x y) : nP (x, y) = moF (nP (ax, ay)) (bitsK s) (nP (bx, b_y)) := by
  obtain ⟨p, q, h1, h2, h3, h4⟩ := h
  unfold nP moF; rw [res_n h3, res_n h4, res_n h1, res_n h2]
theorem bits_zero : bitsK 0 = 0 := by decide +kernel
def isF (r q : Nat) : Prop := okK .f64 r ∧ bitsK r = q
def isP (x y : Nat) (p : Vp) : Prop := okK .f64 x ∧ okK .f64 y ∧ nP (x, y) = p
theorem isF_zero : isF 0 0 := ⟨ok_zero, bits_zero⟩
theorem SubR.is {ax ay bx b_y x y : Nat} {A B : Vp} (h : SubR ax ay bx b_y x y) (ha : isP ax ay A) (hb : isP bx b_y B) : isP x y (suF A B) :=
  ⟨h.1.1, h.2.1, by rw [h.n, ha.2.2, hb.2.2]⟩
theorem DotR.is {ax ay bx b_y r : Nat} {A B : Vp} (h : DotR ax ay bx b_y r) (ha : isP ax ay A) (hb : isP bx b_y B) : isF r (dtF A B) :=
  ⟨h.ok, by rw [h.n, ha.2.2, hb.2.2]⟩
theorem CrossR.is {ax ay bx b_y r : Nat} {A B : Vp} (h : CrossR ax ay bx b_y r) (ha : isP ax ay A) (hb : isP bx b_y B) : isF r (crF A B) :=
  ⟨h.ok, by rw [h.n, ha.2.2, hb.2.2]⟩
theorem LengthR.is {ax ay r : Nat} {A : Vp} (h : LengthR ax ay r) (ha : isP ax ay A) : isF r (lnF A) :=
  ⟨h.ok, by rw [h.n, ha.2.2]⟩
theorem MoreR.is {ax ay s bx b_y x y S : Nat} {A B : Vp} (h : MoreR ax ay s bx b_y x y) (ha : isP ax ay A) (hs : isF s S) (hb : isP bx b_y B) : isP x y (moF A S B) :=
  ⟨h.ok.1, h.ok.2, by rw [h.n, ha.2.2, hs.2, hb.2.2]⟩
theorem o_is {op : BinOp} {x y X Y : Nat} (w : World) (hx : isF x X) (hy : isF y Y) : isF (fv op .f64 x y w) (oF op X Y) :=
  ⟨(fv_res op .f64 x y w).1, by rw [res_n (fv_res op .f64 x y w), hx.2, hy.2]⟩
theorem lt0_is {s S : Nat} (h : isF s S) : ltK .f64 0 s = ltK .f64 0 S := by rw [lt_n0, h.2]
theorem lt_is {s S t T : Nat} (h : isF s S) (g : isF t T) : ltK .f64 s t = ltK .f64 S T := by rw [lt_n, h.2, g.2]
end Go.Proofs.Ytfohggiehbplkaa
namespace Go.Proofs.Ytfohggiehbplkaa
open Ieee Go.RowKit
set_option linter.unusedSimpArgs false
set_option linter.unusedVariables false
/-- a row's words -/
structure RD where
  ra : Int
  rb : Int
  r2 : Nat
  r3 : Nat
  r4 : Nat
  r5 : Nat
  r6 : Nat
  r7 : Nat
  r8 : Nat
  r9 : Nat
  r10 : Nat
  r11 : Nat
  ro : Int
  r13 : Nat
def rok (q : RD) : Prop := okK .f64 q.r2 ∧ okK .f64 q.r3 ∧ okK .f64 q.r4 ∧ okK .f64 q.r5 ∧ okK .f64 q.r6 ∧ okK .f64 q.r7 ∧ okK .f64 q.r8 ∧ okK .f64 q.r9 ∧ okK .f64 q.r10 ∧ okK .f64 q.r11 ∧ okK .f64 q.r13
/-- a still's words -/
structure SD where
  sm : Nat
  si : Nat
  sx : Nat
  sy : Nat
  ss : Nat
def sok (s : SD) : Prop := okK .f64 s.sm ∧ okK .f64 s.si ∧ okK .f64 s.sx ∧ okK .f64 s.sy ∧ okK .f64 s.ss
def nS (s : SD) : SD := ⟨bitsK s.sm, bitsK s.si, bitsK s.sx, bitsK s.sy, bitsK s.ss⟩
def isS (s n : SD) : Prop := sok s ∧ nS s = n
def weB (f : Nat) : Bool := leK .f64 0 f && finK .f64 f
def stB (s : SD) : Bool := weB s.sm && weB s.si
def mayB (R : RD) : Bool := decide (0 ≤ R.ra) && (decide (0 ≤ R.rb) && (decide (R.ra ≠ R.rb) && (decide (-1 ≤ R.ro) && (leK .f64 R.r9 R.r10 && ((finK .f64 R.r2 && finK .f64 R.r3) && ((finK .f64 R.r4 && finK .f64 R.r5) && (finK .f64 R.r6 && (finK .f64 R.r7 && (finK .f64 R.r8 && (finK .f64 R.r11 && weB R.r13))))))))))
def alB (R : RD) (a b : SD) : Bool := mayB R && (stB a && stB b)
def spF (R : RD) (a b : SD) : Nat := oF .add (oF .add (oF .add (dtF (nP (R.r2, R.r3)) (nP (a.sx, a.sy))) (oF .mul (bitsK R.r6) (bitsK a.ss))) (dtF (nP (R.r4, R.r5)) (nP (b.sx, b.sy)))) (oF .mul (bitsK R.r7) (bitsK b.ss))
def wtF (R : RD) (a b : SD) : Nat := oF .add (oF .add (oF .add (oF .mul (bitsK a.sm) (dtF (nP (R.r2, R.r3)) (nP (R.r2, R.r3)))) (oF .mul (bitsK a.si) (oF .mul (bitsK R.r6) (bitsK R.r6)))) (oF .mul (bitsK b.sm) (dtF (nP (R.r4, R.r5)) (nP (R.r4, R.r5))))) (oF .mul (bitsK b.si) (oF .mul (bitsK R.r7) (bitsK R.r7)))
/-- a speed behind a push, if what it is of can be moved -/
def puX (m x g P : Nat) : Nat := if ltK .f64 0 m then oF .add (bitsK x) (oF .mul (oF .mul (bitsK m) P) (bitsK g)) else bitsK x
def puT (m x g P : Nat) : Nat := if ltK .f64 0 m then oF .add (bitsK x) (oF .mul (bitsK m) (oF .mul P (bitsK g))) else bitsK x
def lkF (R : RD) (a b : SD) : Nat := oF .sub (bitsK R.r8) (spF R a b)
def quF (R : RD) (a b : SD) : Nat := clK .f64 (oF .add (bitsK R.r11) (oF .quo (lkF R a b) (wtF R a b))) R.r9 R.r10
def dfF (R : RD) (a b : SD) : Nat := oF .sub (quF R a b) (bitsK R.r11)
def okB (R : RD) (a b : SD) : Bool := ltK .f64 0 (wtF R a b) && (finK .f64 (wtF R a b) && finK .f64 (lkF R a b))
def fiB (R : RD) (a b : SD) : Bool := finK .f64 (quF R a b) && finK .f64 (dfF R a b)
theorem isF_r {x : Nat} (h : okK .f64 x) : isF x (bitsK x) := ⟨h, rfl⟩
theorem isP_r {x y : Nat} (h : okK .f64 x) (g : okK .f64 y) : isP x y (nP (x, y)) := ⟨h, g, rfl⟩
theorem cl_ok {q lo hi : Nat} (h : okK .f64 q) (g : okK .f64 lo) (k : okK .f64 hi) : okK .f64 (clK .f64 q lo hi) := by
  unfold clK; split; exact g; split; exact k; exact h
theorem cl_n {q lo hi : Nat} (hl : nanK .f64 lo = false) (hh : nanK .f64 hi = false) : bitsK (clK .f64 q lo hi) = clK .f64 (bitsK q) lo hi := by
  cases hq : nanK .f64 q
  · rw [bits_num hq]
    have h1 : nanK .f64 (clK .f64 q lo hi) = false := by
      unfold clK
      split
      · exact hl
      · split
        · exact hh
        · exact hq
    exact bits_num h1
  · rw [bits_nan hq]
    have e : clK .f64 q lo hi = lo := by unfold clK ltK; rw [hq]; simp
    have e2 : clK .f64 9221120237041090560 lo hi = lo := by unfold clK ltK; rw [none_nan]; simp
    rw [e, e2, bits_num hl]
theorem cl_isG {q Q lo hi : Nat} (h : isF q Q) (ol : okK .f64 lo) (oh : okK .f64 hi) (hl : nanK .f64 lo = false) (hh : nanK .f64 hi = false) : isF (clK .f64 q lo hi) (clK .f64 Q lo hi) :=
  ⟨cl_ok h.1 ol oh, by rw [cl_n hl hh, h.2]⟩
theorem le_nums {x y : Nat} (h : leK .f64 x y = true) : nanK .f64 x = false ∧ nanK .f64 y = false := by
  unfold leK at h
  simp at h
  exact ⟨h.1.1, h.1.2⟩
theorem may_ends {R : RD} (h : mayB R = true) : nanK .f64 R.r9 = false ∧ nanK .f64 R.r10 = false := by
  unfold mayB at h
  simp only [Bool.and_eq_true] at h
  exact le_nums h.2.2.2.2.1
theorem fin_is {x X : Nat} (h : isF x X) : finK .f64 x = finK .f64 X := by rw [fin_n, h.2]
/-- of what is a weight, above nought and not nought are one -/
theorem we_ne {m : Nat} (h : weB m = true) : eqK .f64 m 0 = !ltK .f64 0 m := by
  unfold weB at h
  simp only [Bool.and_eq_true] at h
  have h1 := h.1
  unfold leK at h1
  unfold eqK ltK
  simp at h1
  rw [h1.1.1, h1.1.2]
  rw [Bool.eq_iff_iff]
  simp
  omega
end Go.Proofs.Ytfohggiehbplkaa
