/-
  Plain facts on floats, more: rounding to the nearest rung, sums and products of finite floats, signs turned. No program is named here.
-/
import Derived.Test.YtdeooadeohojcaaGreatRya
namespace Go.Proofs.YtdeooadeohojcaaGreat
open Ieee Go.RowKit
set_option linter.unusedSimpArgs false
set_option linter.unusedVariables false

def mnV (x y : Nat) (w : World) : Nat := if nanK .f64 x || nanK .f64 y then (Question.nanMinMax .f64 false x y).cut (w.tape w.drawn (.nanMinMax .f64 false x y)) else if ltK .f64 x y then x else if ltK .f64 y x then y else if (FloatKind.f64.decode x).neg then x else y
def mnD (x y : Nat) : Nat := if nanK .f64 x || nanK .f64 y then 1 else 0
theorem min2_run (P : Program) (x y : Nat) (w : World) : (Builtin.min2 (.float .f64 x) (.float .f64 y)).run P w = .ok (.float .f64 (mnV x y w)) (w.drewN (mnD x y)) := by
  unfold Builtin.min2 mnV mnD
  simp only []
  cases hx : nanK .f64 x with
  | true =>
    rw [show FloatKind.f64.format.order x y = none from order_none _ (okF .f64) x y (.inl hx)]
    simp only [Bool.true_or, if_true]
    rfl
  | false =>
    cases hy : nanK .f64 y with
    | true =>
      rw [show FloatKind.f64.format.order x y = none from order_none _ (okF .f64) x y (.inr hy)]
      simp only [Bool.or_true, if_true]
      rfl
    | false =>
      have e := order_some FloatKind.f64.format (okF .f64) x y hx hy
      have h1 := cmp_lt .f64 x y
      have h2 := cmp_gt .f64 x y
      rw [e] at h1 h2 ⊢
      simp only [Bool.or_self, Bool.false_eq_true, if_false]
      cases hc : compare (wo FloatKind.f64.format x) (wo FloatKind.f64.format y) <;> rw [hc] at h1 h2 <;> rw [← h1, ← h2] <;> rfl
theorem run_min2f (P : Program) (ts : Array TypeId) (t : TypeId) (x y : Nat) (w : World) : (Builtin.min_ ts t #[.float .f64 x, .float .f64 y]).run P w = .ok (.float .f64 (mnV x y w)) (w.drewN (mnD x y)) := by
  unfold Builtin.min_
  simp [List.foldlM, min2_run]
def mnF (x y : Nat) : Nat := if nanK .f64 x || nanK .f64 y then 9221120237041090560 else if ltK .f64 x y then x else if ltK .f64 y x then y else if (FloatKind.f64.decode x).neg then x else y
theorem nan_n (x : Nat) : nanK .f64 (bitsK x) = nanK .f64 x := by
  cases h : nanK .f64 x
  · rw [bits_num h]; exact h
  · rw [bits_nan h]; decide +kernel
theorem mn_is {x y X Y : Nat} (hx : isF x X) (hy : isF y Y) (w : World) : isF (mnV x y w) (mnF X Y) := by
  have nx : nanK .f64 X = nanK .f64 x := by rw [← hx.2, nan_n]
  have ny : nanK .f64 Y = nanK .f64 y := by rw [← hy.2, nan_n]
  unfold mnV mnF
  rw [nx, ny]
  cases h1 : nanK .f64 x
  · cases h2 : nanK .f64 y
    · have e1 : x = X := by have := hx.2; rw [bits_num h1] at this; exact this
      have e2 : y = Y := by have := hy.2; rw [bits_num h2] at this; exact this
      simp only [Bool.or_self, Bool.false_eq_true, if_false]
      rw [← e1, ← e2]
      have ix : isF x x := ⟨hx.1, bits_num h1⟩
      have iy : isF y y := ⟨hy.1, bits_num h2⟩
      split
      · exact ix
      · split
        · exact iy
        · split
          · exact ix
          · exact iy
    · simp only [Bool.or_true, if_true]
      exact ⟨(cut_nan .f64 x y _).1, bits_nan (cut_nan .f64 x y _).2⟩
  · simp only [Bool.true_or, if_true]
    exact ⟨(cut_nan .f64 x y _).1, bits_nan (cut_nan .f64 x y _).2⟩
abbrev Et := Bool × Ht × Nat
def nmP (xs ys : Nat → Nat) (n i : Nat) : Vp := nP (nX xs ys n i, nY xs ys n i)
def etG (xs ys : Nat → Nat) (n : Nat) (Y : Vp) (i : Nat) : Nat := dtF (nmP xs ys n i) Y
def etF (xs ys : Nat → Nat) (n : Nat) (F : Vp) (i : Nat) : Nat := dtF (nmP xs ys n i) (suF F (sdA xs ys i))
def etT (xs ys : Nat → Nat) (n : Nat) (F Y : Vp) (i : Nat) : Nat := oF .quo (ngF (etF xs ys n F i)) (etG xs ys n Y i)
def etK (s : Et) (T : Nat) : Bool := !s.1 || ltK .f64 s.2.1.2.2 T
def etN (s : Et) (G E T : Nat) (N : Vp) : Option Et :=
  if ltK .f64 G 0 then some (true, pkF (etK s T) ((0, 0), N, T) s.2.1, s.2.2)
  else if ltK .f64 0 G then some (s.1, s.2.1, mnF s.2.2 T)
  else if ltK .f64 0 E then none else some s
def etS (xs ys : Nat → Nat) (n : Nat) (F Y : Vp) : Nat → Option Et
  | 0 => some (false, zeH, 9218868437227405312)
  | i + 1 => (etS xs ys n F Y i).bind fun s => etN s (etG xs ys n Y i) (etF xs ys n F i) (etT xs ys n F Y i) (nmP xs ys n i)
theorem et_none {xs ys : Nat → Nat} {n : Nat} {F Y : Vp} {i : Nat} (h : etS xs ys n F Y i = none) : ∀ d, etS xs ys n F Y (i + d) = none
  | 0 => h
  | d + 1 => by
    show (etS xs ys n F Y (i + d)).bind _ = none
    rw [et_none h d]; rfl
theorem et_stop {xs ys : Nat → Nat} {n : Nat} {F Y : Vp} {i m : Nat} {s : Et} (h : etS xs ys n F Y i = some s) (h1 : ltK .f64 (etG xs ys n Y i) 0 = false) (h2 : ltK .f64 0 (etG xs ys n Y i) = false) (h3 : ltK .f64 0 (etF xs ys n F i) = true) (hm : i < m) : etS xs ys n F Y m = none := by
  obtain ⟨d, rfl⟩ : ∃ d, m = i + 1 + d := ⟨m - (i + 1), by omega⟩
  apply et_none
  show (etS xs ys n F Y i).bind _ = none
  rw [h]
  show etN s _ _ _ _ = none
  unfold etN
  rw [h1, h2, h3]; rfl
theorem et_in {xs ys : Nat → Nat} {n : Nat} {F Y : Vp} {i : Nat} {s : Et} (h : etS xs ys n F Y i = some s) (h1 : ltK .f64 (etG xs ys n Y i) 0 = true) : etS xs ys n F Y (i + 1) = some (true, pkF (etK s (etT xs ys n F Y i)) ((0, 0), nmP xs ys n i, etT xs ys n F Y i) s.2.1, s.2.2) := by
  show (etS xs ys n F Y i).bind _ = _
  rw [h]
  show etN s _ _ _ _ = _
  unfold etN
  rw [h1]; rfl
theorem et_out {xs ys : Nat → Nat} {n : Nat} {F Y : Vp} {i : Nat} {s : Et} (h : etS xs ys n F Y i = some s) (h1 : ltK .f64 (etG xs ys n Y i) 0 = false) (h2 : ltK .f64 0 (etG xs ys n Y i) = true) : etS xs ys n F Y (i + 1) = some (s.1, s.2.1, mnF s.2.2 (etT xs ys n F Y i)) := by
  show (etS xs ys n F Y i).bind _ = _
  rw [h]
  show etN s _ _ _ _ = _
  unfold etN
  rw [h1, h2]; rfl
theorem et_along {xs ys : Nat → Nat} {n : Nat} {F Y : Vp} {i : Nat} {s : Et} (h : etS xs ys n F Y i = some s) (h1 : ltK .f64 (etG xs ys n Y i) 0 = false) (h2 : ltK .f64 0 (etG xs ys n Y i) = false) (h3 : ltK .f64 0 (etF xs ys n F i) = false) : etS xs ys n F Y (i + 1) = some s := by
  show (etS xs ys n F Y i).bind _ = _
  rw [h]
  show etN s _ _ _ _ = _
  unfold etN
  rw [h1, h2, h3]; rfl
def etB (s : Et) : Bool := s.1 && paB s.2.1.2.2 && leK .f64 s.2.1.2.2 s.2.2
def enR (xs ys : Nat → Nat) (n : Nat) (F Y : Vp) : Bool × Ht :=
  match etS xs ys n F Y n with
  | none => (false, zeH)
  | some s => (etB s, s.2.1)
def pgR (xs ys : Nat → Nat) (n : Nat) (hs : Bool) (F Y : Vp) : Bool × Ht :=
  pkF hs (true, onH F) (pkF (enR xs ys n F Y).1 (true, (moF F (enR xs ys n F Y).2.2.2 Y, (enR xs ys n F Y).2.2.1, (enR xs ys n F Y).2.2.2)) (false, zeH))
def pgE (xs ys : Nat → Nat) (n : Nat) (F Y : Vp) : Int := if chkE xs ys n = 0 then ryE F Y else chkE xs ys n
def pgX (xs ys : Nat → Nat) (n : Nat) (hs : Bool) (F Y : Vp) : Bool × Ht := pkF (decide (pgE xs ys n F Y = 0)) (pgR xs ys n hs F Y) (false, zeH)
end Go.Proofs.YtdeooadeohojcaaGreat
