/-
  Plain facts on floats, more: rounding to the nearest rung, sums and products of finite floats, signs turned. No program is named here.
-/
import Derived.Test.YtoofbfjlgablkaaGeo
namespace Go.Proofs.Ytoofbfjlgablkaa
open Ieee Go.RowKit
set_option linter.unusedSimpArgs false
set_option linter.unusedVariables false

/-! ### Rows of points as lists -/
abbrev Pt := Nat × Nat
def pt (L : List Pt) (i : Nat) : Pt := L.getD i (0, 0)
def px (L : List Pt) (i : Nat) : Nat := (pt L i).1
def py (L : List Pt) (i : Nat) : Nat := (pt L i).2
def upd (f : Nat → Nat) (i v : Nat) : Nat → Nat := fun j => if j = i then v else f j
theorem upd_same (f : Nat → Nat) (i v : Nat) : upd f i v i = v := by unfold upd; rw [if_pos rfl]
theorem upd_other {f : Nat → Nat} {i v j : Nat} (h : j ≠ i) : upd f i v j = f j := by unfold upd; rw [if_neg h]
theorem pt_mem {L : List Pt} {i : Nat} (h : i < L.length) : pt L i ∈ L := by
  unfold pt; rw [List.getD_eq_getElem?_getD, List.getElem?_eq_getElem h]; exact List.getElem_mem h
theorem pt_set {L : List Pt} {i : Nat} {p : Pt} (h : i < L.length) (j : Nat) : pt (L.set i p) j = if j = i then p else pt L j := by
  unfold pt
  rw [List.getD_eq_getElem?_getD, List.getD_eq_getElem?_getD, List.getElem?_set]
  by_cases e : i = j
  · subst e; simp [h]
  · rw [if_neg e, if_neg (fun h => e h.symm)]
theorem px_set {L : List Pt} {i : Nat} {p : Pt} (h : i < L.length) : px (L.set i p) = upd (px L) i p.1 := by
  funext j; unfold px upd; rw [pt_set h]; split <;> rfl
theorem py_set {L : List Pt} {i : Nat} {p : Pt} (h : i < L.length) : py (L.set i p) = upd (py L) i p.2 := by
  funext j; unfold py upd; rw [pt_set h]; split <;> rfl
def c3 (x y : Nat) : Int := if ltK .f64 x y then -1 else if ltK .f64 y x then 1 else 0
def cmpK (ax ay bx b_y : Nat) : Int := if eqK .f64 ax bx then c3 ay b_y else c3 ax bx
/-- points that are numbers -/
def Nums (L : List Pt) : Prop := ∀ p, p ∈ L → nanK .f64 p.1 = false ∧ nanK .f64 p.2 = false
def swapL (L : List Pt) (j : Nat) : List Pt := (L.set j (pt L (j - 1))).set (j - 1) (pt L j)
theorem swap_len (L : List Pt) (j : Nat) : (swapL L j).length = L.length := by unfold swapL; simp
theorem mem_set2 {L : List Pt} {i j : Nat} {p q r : Pt} (h : r ∈ (L.set i p).set j q) : r ∈ L ∨ r = p ∨ r = q := by
  rcases List.mem_or_eq_of_mem_set h with h | h
  · rcases List.mem_or_eq_of_mem_set h with h | h
    · exact .inl h
    · exact .inr (.inl h)
  · exact .inr (.inr h)
theorem swap_mem {L : List Pt} {j : Nat} (hj : j < L.length) {r : Pt} (h : r ∈ swapL L j) : r ∈ L := by
  rcases mem_set2 h with h | h | h
  · exact h
  · rw [h]; exact pt_mem (by omega)
  · rw [h]; exact pt_mem hj
/-- a point goes down to its place -/
def insIn (a : Nat) : Nat → List Pt → List Pt
  | 0, L => L
  | d + 1, L => if cmpK (px L (a + d + 1)) (py L (a + d + 1)) (px L (a + d)) (py L (a + d)) < 0 then insIn a d (swapL L (a + d + 1)) else L
def insOut (a : Nat) : Nat → List Pt → List Pt
  | 0, L => L
  | k + 1, L => insIn a (k + 1) (insOut a k L)
theorem insIn_len (a : Nat) : ∀ d (L : List Pt), (insIn a d L).length = L.length := by
  intro d
  induction d with
  | zero => intro L; rfl
  | succ d ih =>
    intro L
    unfold insIn
    split
    · rw [ih, swap_len]
    · rfl
theorem insOut_len (a : Nat) : ∀ k (L : List Pt), (insOut a k L).length = L.length := by
  intro k
  induction k with
  | zero => intro L; rfl
  | succ k ih => intro L; show (insIn a (k + 1) (insOut a k L)).length = _; rw [insIn_len, ih]
theorem insIn_mem (a : Nat) : ∀ d (L : List Pt), a + d < L.length → ∀ r, r ∈ insIn a d L → r ∈ L := by
  intro d
  induction d with
  | zero => intro L _ r h; exact h
  | succ d ih =>
    intro L hd r h
    unfold insIn at h
    split at h
    · exact swap_mem (by omega) (ih _ (by rw [swap_len]; omega) r h)
    · exact h
theorem insOut_mem (a : Nat) : ∀ k (L : List Pt), a + k < L.length → ∀ r, r ∈ insOut a k L → r ∈ L := by
  intro k
  induction k with
  | zero => intro L _ r h; exact h
  | succ k ih => intro L hk r h; exact ih L (by omega) r (insIn_mem a (k + 1) _ (by rw [insOut_len]; omega) r h)
theorem insIn_go {a d : Nat} {L : List Pt} (h : cmpK (px L (a + d + 1)) (py L (a + d + 1)) (px L (a + d)) (py L (a + d)) < 0) : insIn a (d + 1) L = insIn a d (swapL L (a + d + 1)) := by
  show (if _ then _ else _) = _; rw [if_pos h]
theorem insIn_no {a d : Nat} {L : List Pt} (h : ¬ cmpK (px L (a + d + 1)) (py L (a + d + 1)) (px L (a + d)) (py L (a + d)) < 0) : insIn a (d + 1) L = L := by
  show (if _ then _ else _) = _; rw [if_neg h]
/-- the same place -/
def eqP (p q : Pt) : Bool := eqK .f64 p.1 q.1 && eqK .f64 p.2 q.2
/-- of the first i points each place once (they lie in order) -/
def dd (L : List Pt) : Nat → List Pt
  | 0 => []
  | i + 1 => if 1 ≤ i ∧ eqP (pt L i) (pt L (i - 1)) = true then dd L i else dd L i ++ [pt L i]
theorem dd_eq {L : List Pt} {i : Nat} (h : 1 ≤ i) (g : eqP (pt L i) (pt L (i - 1)) = true) : dd L (i + 1) = dd L i := by show (if _ then _ else _) = _; rw [if_pos ⟨h, g⟩]
theorem dd_ne {L : List Pt} {i : Nat} (g : eqP (pt L i) (pt L (i - 1)) = false) : dd L (i + 1) = dd L i ++ [pt L i] := by
  show (if _ then _ else _) = _; rw [if_neg (by rw [g]; simp)]
theorem dd_one (L : List Pt) : dd L 1 = [pt L 0] := by show (if _ then _ else _) = _; rw [if_neg (by simp)]; rfl
theorem dd_len (L : List Pt) : ∀ i, (dd L i).length ≤ i := by
  intro i
  induction i with
  | zero => exact Nat.le_refl _
  | succ i ih =>
    unfold dd
    split
    · omega
    · simp; omega
theorem dd_mem {L : List Pt} : ∀ i, i ≤ L.length → ∀ r, r ∈ dd L i → r ∈ L := by
  intro i
  induction i with
  | zero => intro _ r h; cases h
  | succ i ih =>
    intro hi r h
    unfold dd at h
    split at h
    · exact ih (by omega) r h
    · rcases List.mem_append.1 h with h | h
      · exact ih (by omega) r h
      · rw [List.mem_singleton] at h; rw [h]; exact pt_mem (by omega)
/-- how far a place lies to the left of what leads from a to b -/
def leanP (a b p : Pt) : Nat := crK (Dv .sub b.1 a.1) (Dv .sub b.2 a.2) (Dv .sub p.1 a.1) (Dv .sub p.2 a.2)
/-- a row's end (the last one first), what would not turn to the left taken off -/
def popR (p : Pt) : List Pt → List Pt
  | b :: a :: t => if ltK .f64 0 (leanP a b p) then b :: a :: t else popR p (a :: t)
  | l => l
/-- the row of points, the last one first -/
def rowR : List Pt → List Pt → List Pt
  | r, [] => r
  | r, p :: t => rowR (p :: popR p r) t
theorem popR_len (p : Pt) : ∀ r : List Pt, (popR p r).length ≤ r.length := by
  intro r
  induction r with
  | nil => exact Nat.le_refl _
  | cons b t ih =>
    cases t with
    | nil => exact Nat.le_refl _
    | cons a t =>
      unfold popR
      split
      · exact Nat.le_refl _
      · exact Nat.le_trans ih (by simp)
theorem popR_mem (p : Pt) : ∀ (r : List Pt) q, q ∈ popR p r → q ∈ r := by
  intro r
  induction r with
  | nil => intro q h; exact h
  | cons b t ih =>
    intro q h
    cases t with
    | nil => exact h
    | cons a t =>
      unfold popR at h
      split at h
      · exact h
      · exact List.mem_cons_of_mem _ (ih q h)
theorem rowR_mem : ∀ (L r : List Pt) q, q ∈ rowR r L → q ∈ r ∨ q ∈ L := by
  intro L
  induction L with
  | nil => intro r q h; exact .inl h
  | cons p t ih =>
    intro r q h
    rcases ih _ q h with h | h
    · rcases List.mem_cons.1 h with h | h
      · exact .inr (by rw [h]; exact List.mem_cons_self)
      · exact .inl (popR_mem p r q h)
    · exact .inr (List.mem_cons_of_mem _ h)
theorem rowR_pos : ∀ (L r : List Pt), 0 < r.length + L.length → 0 < (rowR r L).length := by
  intro L
  induction L with
  | nil => intro r h; simpa [rowR] using h
  | cons p t ih => intro r h; exact ih _ (by simp; omega)
end Go.Proofs.Ytoofbfjlgablkaa
