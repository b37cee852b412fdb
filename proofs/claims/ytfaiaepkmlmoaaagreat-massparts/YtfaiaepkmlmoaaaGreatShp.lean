/-
  Plain facts on floats, more: rounding to the nearest rung, sums and products of finite floats, signs turned. No program is named here.
-/
import Derived.Test.YtfaiaepkmlmoaaaGreatGeo
namespace Go.Proofs.YtfaiaepkmlmoaaaGreat
open Ieee Go.RowKit

def inB (x y : Nat) : Bool := withinK .f64 x 4787326403894837248 && withinK .f64 y 4787326403894837248
def rdB (r : Nat) : Bool := leK .f64 4472074429978902528 r && leK .f64 r 4787326403894837248
def rdE (xs ys : Nat → Nat) (n r : Nat) : Int := if reaB xs ys n && rdB r then 0 else 5
def cpB (x0 y0 x1 y1 : Nat) : Bool := ltK .f64 (lnK (Dv .sub x1 x0) (Dv .sub y1 y0)) 4472074429978902528
def kdE (k : Int) (r n : Nat) : Int := if k = 1 then (if n = 1 then 0 else 6) else if k = 2 then (if n = 2 then 0 else 6) else if k = 3 then (if 3 ≤ n ∧ n ≤ 8 ∧ eqK .f64 r 0 = true then 0 else 6) else 70
def ckE (xs ys : Nat → Nat) (r : Nat) : Int := if rdE xs ys 2 r = 0 then (if cpB (xs 0) (ys 0) (xs 1) (ys 1) then 6 else 0) else 5
def shE (k : Int) (r : Nat) (xs ys : Nat → Nat) (n : Nat) : Int := if kdE k r n = 0 then (if k = 1 then rdE xs ys 1 r else if k = 2 then ckE xs ys r else chkE xs ys n) else kdE k r n
theorem rdE_good {xs ys : Nat → Nat} {n r : Nat} (h : reaB xs ys n = true) (g : rdB r = true) : rdE xs ys n r = 0 := by unfold rdE; rw [h, g]; rfl
theorem rdE_bad1 {xs ys : Nat → Nat} {n r : Nat} (h : reaB xs ys n = false) : rdE xs ys n r = 5 := by unfold rdE; rw [h]; rfl
theorem rdE_bad2 {xs ys : Nat → Nat} {n r : Nat} (g : rdB r = false) : rdE xs ys n r = 5 := by unfold rdE; rw [g, Bool.and_false]; rfl
theorem rdE_ok {xs ys : Nat → Nat} {n r : Nat} (h : rdE xs ys n r = 0) : reaB xs ys n = true ∧ rdB r = true := by
  unfold rdE at h
  split at h
  · rename_i g; rw [Bool.and_eq_true] at g; exact g
  · cases h
theorem rdE_vals (xs ys : Nat → Nat) (n r : Nat) : rdE xs ys n r = 0 ∨ rdE xs ys n r = 5 := by unfold rdE; split <;> simp
theorem rd_parts {r : Nat} : rdB r = true → leK .f64 4472074429978902528 r = true ∧ leK .f64 r 4787326403894837248 = true := by
  intro h; unfold rdB at h; rw [Bool.and_eq_true] at h; exact h
theorem rd_bd {r : Nat} (o : okK .f64 r) (h : rdB r = true) : Bd 40 r := by
  obtain ⟨h1, h2⟩ := rd_parts h
  refine bd_within o ?_
  unfold withinK
  rw [h2, Bool.and_true]
  unfold leK at h1 ⊢
  rw [Bool.and_eq_true, Bool.and_eq_true] at h1 ⊢
  refine ⟨⟨by decide +kernel, h1.1.2⟩, ?_⟩
  have e : woK .f64 (Op.negFloat .f64 4787326403894837248) ≤ woK .f64 4472074429978902528 := by decide +kernel
  have h3 := of_decide_eq_true h1.2
  exact decide_eq_true (Int.le_trans e h3)
/-- a capsule's way, the number t, the place next -/
def cwK (xs : Nat → Nat) : Nat := Dv .sub (xs 1) (xs 0)
/-- of two points one apart enough: the square of the way is a float of a size -/
theorem cw_bd {xs ys : Nat → Nat} (g : Gd xs ys 2) : Bd 42 (cwK xs) ∧ Bd 42 (cwK ys) := ⟨bd_sub (g 1 (by decide)).1 (g 0 (by decide)).1 (by decide), bd_sub (g 1 (by decide)).2 (g 0 (by decide)).2 (by decide)⟩
end Go.Proofs.YtfaiaepkmlmoaaaGreat
namespace Go.Proofs.YtfaiaepkmlmoaaaGreat
open Ieee Go.RowKit

end Go.Proofs.YtfaiaepkmlmoaaaGreat
