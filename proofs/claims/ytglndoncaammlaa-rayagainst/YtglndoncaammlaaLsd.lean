/-
  Plain facts on floats, more: rounding to the nearest rung, sums and products of finite floats, signs turned. No program is named here.
-/
import Derived.Test.YtglndoncaammlaaLsb
namespace Go.Proofs.Ytglndoncaammlaa
open Ieee Go.RowKit

/-! ### all but one block is as it was -/
def But (g : Nat) (w w' : World) : Prop := w.heap.size ≤ w'.heap.size ∧ (∀ b o, b < w.heap.size → b ≠ g → w'.cell? ⟨b, o, none⟩ = w.cell? ⟨b, o, none⟩) ∧ ∀ a, w'.frozen? a = w.frozen? a
theorem But.rfl' (g : Nat) (w : World) : But g w w := ⟨Nat.le_refl _, fun _ _ _ _ => rfl, fun _ => rfl⟩
theorem But.trans {g : Nat} {a b c : World} (h : But g a b) (k : But g b c) : But g a c :=
  ⟨Nat.le_trans h.1 k.1, fun x o hx hn => (k.2.1 x o (Nat.lt_of_lt_of_le hx h.1) hn).trans (h.2.1 x o hx hn), fun x => (k.2.2 x).trans (h.2.2 x)⟩
theorem Bel.but {g : Nat} {w w' : World} (h : Bel w w') : But g w w' := ⟨h.size, fun b o hb _ => (bcell h).1 b o hb, h.2⟩
theorem But.keep {g : Nat} {w w' : World} (h : But g w w') {b o : Nat} {v : Value} (hc : w.cell? ⟨b, o, none⟩ = some v) (hn : b ≠ g) : w'.cell? ⟨b, o, none⟩ = some v :=
  (h.2.1 b o (World.block_lt_of_cell? _ _ hc) hn).trans hc

/-! ### the sides of two cores -/
def sdN (k : Int) (n : Nat) : Nat := if k = 2 then 1 else n
def inF (A B : Vp) (xs ys : Nat → Nat) (n : Nat) (N : Nr) : Nat → Nr
  | 0 => N
  | j + 1 => nrF (inF A B xs ys n N j) (segF A B (sdA xs ys j) (sdA xs ys ((j + 1) % n)))
def ouF (xs ys : Nat → Nat) (n : Nat) (us vs : Nat → Nat) (m mb : Nat) : Nat → Nr
  | 0 => (9218868437227405312, (0, 0), (0, 0))
  | i + 1 => inF (sdA xs ys i) (sdA xs ys ((i + 1) % n)) us vs m (ouF xs ys n us vs m mb i) mb
/-- does a core have the sides of its kind? -/
def Kd (k : Int) (n : Nat) : Prop := (k = 1 ∧ n = 1) ∨ (k = 2 ∧ n = 2) ∨ (k = 3 ∧ 3 ≤ n)
theorem ou_zero (xs ys : Nat → Nat) (n : Nat) (us vs : Nat → Nat) (m mb : Nat) : isN 9218868437227405312 0 0 0 0 (ouF xs ys n us vs m mb 0) := ⟨inf_is, isP_zero, isP_zero⟩

/-! ### the first that has a property -/
def fiN (f : Nat → Bool) : Nat → Option Nat
  | 0 => none
  | j + 1 => match fiN f j with
    | some i => some i
    | none => if f j then some j else none
theorem fi_no {f : Nat → Bool} {j : Nat} (h : fiN f j = none) (g : f j = false) : fiN f (j + 1) = none := by
  show (match fiN f j with | some i => some i | none => if f j then some j else none) = none
  rw [h, g]; rfl
theorem fi_yes {f : Nat → Bool} {j : Nat} (h : fiN f j = none) (g : f j = true) : ∀ d, fiN f (j + 1 + d) = some j
  | 0 => by
    show (match fiN f j with | some i => some i | none => if f j then some j else none) = some j
    rw [h, g]; rfl
  | d + 1 => by
    show (match fiN f (j + 1 + d) with | some i => some i | none => if f (j + 1 + d) then some (j + 1 + d) else none) = some j
    rw [fi_yes h g d]
theorem fi_hit {f : Nat → Bool} {j m : Nat} (h : fiN f j = none) (g : f j = true) (hm : j < m) : fiN f m = some j := by
  obtain ⟨d, rfl⟩ : ∃ d, m = j + 1 + d := ⟨m - (j + 1), by omega⟩
  exact fi_yes h g d
theorem fi_lt {f : Nat → Bool} : ∀ {m i : Nat}, fiN f m = some i → i < m
  | 0, i, h => by cases h
  | m + 1, i, h => by
    change (match fiN f m with | some i => some i | none => if f m then some m else none) = some i at h
    cases e : fiN f m with
    | some q =>
      rw [e] at h
      cases h
      exact Nat.lt_succ_of_lt (fi_lt e)
    | none =>
      rw [e] at h
      cases g : f m
      · rw [g] at h; cases h
      · rw [g] at h; cases h; exact Nat.lt_succ_self _
/-- the first of the points that a polygon has -/
def fiO (k : Int) (f : Nat → Bool) (m : Nat) : Option Nat := if k = 3 then fiN f m else none
theorem fiO_lt {k : Int} {f : Nat → Bool} {m i : Nat} (h : fiO k f m = some i) : i < m := by
  unfold fiO at h
  by_cases e : k = 3
  · rw [if_pos e] at h; exact fi_lt h
  · rw [if_neg e] at h; cases h
def fiX (us : Nat → Nat) : Option Nat → Nat
  | some i => us i
  | none => 0
def coF (o1 o2 : Option Nat) (us vs xs ys : Nat → Nat) (N : Nr) : Nr :=
  match o1 with
  | some i => (0, sdA us vs i, sdA us vs i)
  | none => match o2 with
    | some i => (0, sdA xs ys i, sdA xs ys i)
    | none => N
/-! ### what the radii take away -/
def unW (N : Nr) : Vp := suF N.2.2 N.2.1
def unO (N : Nr) : Bool := ltK .f64 0 (lnF (unW N)) && finK .f64 (lnF (unW N))
def unF (N : Nr) : Vp := (oF .quo (unW N).1 (lnF (unW N)), oF .quo (unW N).2 (lnF (unW N)))
def frF (N : Nr) (ra rb : Nat) : Nat := oF .sub N.1 (oF .add ra rb)
def shF (N : Nr) (ra rb nb : Nat) : Nr := (pkF (ltK .f64 0 (frF N ra rb)) (frF N ra rb) 0, pkF (unO N) (moF N.2.1 ra (unF N)) N.2.1, pkF (unO N) (moF N.2.2 nb (unF N)) N.2.2)
theorem UnitR.yes {ax ay x y : Nat} {b : Bool} {W : Vp} (h : UnitR ax ay x y b) (hw : isP ax ay W) : b = (ltK .f64 0 (lnF W) && finK .f64 (lnF W)) ∧ (b = true → isP x y (oF .quo W.1 (lnF W), oF .quo W.2 (lnF W))) := by
  obtain ⟨n, h1, h2, h3⟩ := h
  have hn := h1.is hw
  have e1 : bitsK ax = W.1 := by rw [← hw.2.2]; rfl
  have e2 : bitsK ay = W.2 := by rw [← hw.2.2]; rfl
  refine ⟨by rw [h2, lt0_is hn, fin_n, hn.2], fun hb => ?_⟩
  rw [hb, if_pos rfl] at h3
  refine ⟨h3.1.1, h3.2.1, ?_⟩
  unfold nP
  rw [res_n h3.1, res_n h3.2, hn.2, e1, e2]
end Go.Proofs.Ytglndoncaammlaa
