/-
  What each function of package poly answers, and what the reference of its chapter answers: one contract a function, for every float: the answer stands in the relation of its formula to what was given; of the memory that was there nothing has turned.
-/
import Derived.Test.YtoofbfjlgablkaaVec
import Derived.Test.YtoofbfjlgablkaaPb
import Derived.Below
import Derived.WalkKit
import Derived.WalkLawsBesides
import Derived.WalkSpells
import Derived.ProofKit
import Derived.OpenShut
import Derived.Deep.RegionHeld3
namespace Go.Proofs.Ytoofbfjlgablkaa
open Go.ChangeShapes Go.WideShapes Go.ChangeAt Go.RowKit
set_option linter.unusedVariables false
set_option linter.unusedSimpArgs false


theorem with_ok {xs ys : Nat → Nat} {n p q : Nat} (o : Oks xs ys n) (op : okK .f64 p) (oq : okK .f64 q) (h : withE xs ys n p q = 0) : chkE xs ys n = 0 ∧ Bd 40 p ∧ Bd 40 q := by
  unfold withE at h
  split at h
  · rename_i hc
    split at h
    · rename_i hw
      rw [Bool.and_eq_true] at hw
      exact ⟨hc, bd_within op hw.1, bd_within oq hw.2⟩
    · cases h
  · contradiction
theorem has_no {xs ys : Nat → Nat} {n k p q : Nat} (h : k < n) (g : ltK .f64 (lnS xs ys n k p q) 0 = true) : hasB xs ys n p q = false := allB_no (f := fun i => !ltK .f64 (lnS xs ys n i p q) 0) h (by simp [g])
def hasV (xs ys : Nat → Nat) (n p q : Nat) : Bool := decide (withE xs ys n p q = 0) && hasB xs ys n p q
def farV (xs ys : Nat → Nat) (n p q : Nat) : Int := if withE xs ys n p q = 0 then (farK xs ys p q (n - 1) : Int) else 0
theorem lt_self (x : Nat) : ltK .f64 x x = false := by unfold ltK; simp
theorem far_go {xs ys : Nat → Nat} {p q k fb : Nat} (h : farK xs ys p q (k - 1) = fb) (g : ltK .f64 (dtK (xs fb) (ys fb) p q) (dtK (xs k) (ys k) p q) = false) : farK xs ys p q k = fb := by
  cases k with
  | zero => exact h
  | succ k =>
    simp only [Nat.add_sub_cancel] at h
    show (if _ then _ else _) = _
    rw [h, g]; rfl
theorem far_up {xs ys : Nat → Nat} {p q k fb : Nat} (h : farK xs ys p q (k - 1) = fb) (g : ltK .f64 (dtK (xs fb) (ys fb) p q) (dtK (xs k) (ys k) p q) = true) : farK xs ys p q k = k := by
  cases k with
  | zero =>
    have e : fb = 0 := h.symm
    rw [e, lt_self] at g
    cases g
  | succ k =>
    simp only [Nat.add_sub_cancel] at h
    show (if _ then _ else _) = _
    rw [h, g]; rfl
theorem dN_eq (nx ny fx fy x y : Nat) : dtK nx ny (Dv .sub x fx) (Dv .sub y fy) = dN nx ny fx fy x y := rfl
theorem ah_go {nx ny fx fy : Nat} {xs ys : Nat → Nat} {k l : Nat} (h : ahK nx ny fx fy xs ys k = l) (g : ltK .f64 (dN nx ny fx fy (xs (k + 1)) (ys (k + 1))) l = false) : ahK nx ny fx fy xs ys (k + 1) = l := by
  show (if _ then _ else _) = _
  rw [h, g]; rfl
theorem ah_up {nx ny fx fy : Nat} {xs ys : Nat → Nat} {k l : Nat} (h : ahK nx ny fx fy xs ys k = l) (g : ltK .f64 (dN nx ny fx fy (xs (k + 1)) (ys (k + 1))) l = true) : ahK nx ny fx fy xs ys (k + 1) = dN nx ny fx fy (xs (k + 1)) (ys (k + 1)) := by
  show (if _ then _ else _) = _
  rw [h, g]; rfl
def apE (us vs : Nat → Nat) (n : Nat) (xs ys : Nat → Nat) (m : Nat) : Int := if chkE us vs n = 0 then chkE xs ys m else chkE us vs n
def apV (us vs : Nat → Nat) (n : Nat) (xs ys : Nat → Nat) (m : Nat) : Int := if apE us vs n xs ys m = 0 then (apS us vs n xs ys m (n - 1) : Int) else 0
def apW (us vs : Nat → Nat) (n : Nat) (xs ys : Nat → Nat) (m : Nat) : Nat := if apE us vs n xs ys m = 0 then apF us vs n xs ys m (n - 1) else 0
theorem ap_go {us vs xs ys : Nat → Nat} {n m k s f : Nat} (h1 : apS us vs n xs ys m k = s) (h2 : apF us vs n xs ys m k = f) (g : ltK .f64 f (ahS us vs n xs ys m (k + 1)) = false) : apS us vs n xs ys m (k + 1) = s ∧ apF us vs n xs ys m (k + 1) = f := by
  constructor
  · show (if _ then _ else _) = _
    rw [h2, g]; exact h1
  · show (if _ then _ else _) = _
    rw [h2, g]; rfl
theorem ap_up {us vs xs ys : Nat → Nat} {n m k f : Nat} (h2 : apF us vs n xs ys m k = f) (g : ltK .f64 f (ahS us vs n xs ys m (k + 1)) = true) : apS us vs n xs ys m (k + 1) = k + 1 ∧ apF us vs n xs ys m (k + 1) = ahS us vs n xs ys m (k + 1) := by
  constructor
  · show (if _ then _ else _) = _
    rw [h2, g]; rfl
  · show (if _ then _ else _) = _
    rw [h2, g]; rfl

end Go.Proofs.Ytoofbfjlgablkaa
