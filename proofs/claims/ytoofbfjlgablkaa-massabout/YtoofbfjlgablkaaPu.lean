/-
  What each function of package poly answers, and what the reference of its chapter answers: one contract a function, for every float: the answer stands in the relation of its formula to what was given; of the memory that was there nothing has turned.
-/
import Derived.Test.YtoofbfjlgablkaaVec
import Derived.Test.YtoofbfjlgablkaaPm
import Derived.Below
import Derived.OwnWalk
import Derived.Laws.AppendOwn
import Derived.WalkKit
import Derived.WalkLawsBesides
import Derived.WalkSpells
import Derived.ProofKit
import Derived.OpenShut
import Derived.Deep.RegionHeld3
namespace Go.Proofs.Ytoofbfjlgablkaa
open Go.ChangeShapes Go.WideShapes Go.ChangeAt Go.RowKit
set_option linter.unusedVariables false
set_option linter.unusedSimpArgs false


/-- a row of points: none, or n of them in cells -/
def AnyS (w : World) (V : Value) (n : Nat) (xs ys : Nat → Nat) : Prop := ∃ a cap, V = .slice a n cap ∧ n ≤ cap ∧ n ≤ maxLen ∧ n * 16 ≤ 140737488351232 ∧ Oks xs ys n ∧ (n = 0 ∨ (0 < n ∧ ∃ b off, a = some ⟨b, off, none⟩ ∧ Sl w b off n xs ys))
theorem AnyS.bel {w w' : World} {V : Value} {n : Nat} {xs ys : Nat → Nat} (h : AnyS w V n xs ys) (g : Bel w w') : AnyS w' V n xs ys := by
  obtain ⟨a, cap, h1, h2, h3, h4, h5, h6⟩ := h
  refine ⟨a, cap, h1, h2, h3, h4, h5, ?_⟩
  rcases h6 with h | ⟨h0, b, off, h, hs⟩
  · exact .inl h
  · exact .inr ⟨h0, b, off, h, hs.bel g⟩
def lst (xs ys : Nat → Nat) (n : Nat) : List Pt := (List.range n).map fun i => (xs i, ys i)
theorem lst_len (xs ys : Nat → Nat) (n : Nat) : (lst xs ys n).length = n := by simp [lst]
theorem lst_x (xs ys : Nat → Nat) (n : Nat) : ∀ i, i < n → px (lst xs ys n) i = xs i := fun i hi => by unfold px pt lst; rw [List.getD_eq_getElem?_getD]; simp [hi]
theorem lst_y (xs ys : Nat → Nat) (n : Nat) : ∀ i, i < n → py (lst xs ys n) i = ys i := fun i hi => by unfold py pt lst; rw [List.getD_eq_getElem?_getD]; simp [hi]
theorem run_app0 (w : World) (ty c : Nat) (a : Option Addr) : (Builtin.append_ #[42, 42] ty #[.slice none 0 0, .slice a 0 c]).run Try.prog w = .ok (.slice none 0 0) w := by
  obtain ⟨i0, hi, hz0, hz1, hz2⟩ := info_parts info_vec
  cases a <;> simp [Builtin.append_, run_underlying Try.underlying42, sizeOf, typeInfo, hi, Builtin.lenOf, Builtin.firstCells, loadCells, loadCellsFrom]
theorem mk_laid (W : World) : Sl (W.alloc (.cells #[.float .f64 4635118810238550016, .float .f64 0, .float .f64 4635189178982727680, .float .f64 0] 26)) W.heap.size 0 2 (px [(4635118810238550016, 0), (4635189178982727680, 0)]) (py [(4635118810238550016, 0), (4635189178982727680, 0)]) := by
  intro i hi
  rcases (show i = 0 ∨ i = 1 by omega) with rfl | rfl
  all_goals constructor <;> (rw [World.cell?_alloc_new]; rfl)
/-- points that were lent: in memory of their own, with marks behind -/
def Lent (w : World) (g c n : Nat) (xs ys : Nat → Nat) : Prop := n + 2 ≤ c ∧ c ≤ maxLen ∧ Sl w g 0 n xs ys ∧ w.cell? ⟨g, n * 2, none⟩ = some (.float .f64 4635118810238550016) ∧ w.cell? ⟨g, (n + 1) * 2, none⟩ = some (.float .f64 4635189178982727680)
theorem Lent.bel {w w' : World} {g c n : Nat} {xs ys : Nat → Nat} (h : Lent w g c n xs ys) (b : Bel w w') : Lent w' g c n xs ys := ⟨h.1, h.2.1, h.2.2.1.bel b, keep b h.2.2.2.1, keep b h.2.2.2.2⟩
theorem lent_fin {w w1 : World} {v : Value} {n : Nat} {xs ys : Nat → Nat} (h : Own w.heap.size w1 v (lst xs ys n ++ [(4635118810238550016, 0), (4635189178982727680, 0)])) : ∃ g c, v = .slice (some ⟨g, 0, none⟩) (n + 2) c ∧ w.heap.size ≤ g ∧ Lent w1 g c n xs ys := by
  obtain ⟨g, c, e, h1, h2, h3, h4, _⟩ := h.get (by simp)
  have hl : (lst xs ys n ++ [(4635118810238550016, 0), (4635189178982727680, 0)]).length = n + 2 := by rw [List.length_append, lst_len]; rfl
  rw [hl] at e h2 h4
  refine ⟨g, c, e, h1, h2, h3, fun i hi => ?_, ?_, ?_⟩
  · have := h4 i (by omega)
    rwa [px_app1 _ _ _ (by rw [lst_len]; exact hi), py_app1 _ _ _ (by rw [lst_len]; exact hi), lst_x _ _ _ i hi, lst_y _ _ _ i hi] at this
  · have := (h4 n (by omega)).1
    have e1 := px_app2 (lst xs ys n) [(4635118810238550016, 0), (4635189178982727680, 0)] 0
    rw [lst_len, Nat.add_zero] at e1
    rw [e1, Nat.zero_add] at this
    exact this
  · have := (h4 (n + 1) (by omega)).1
    have e1 := px_app2 (lst xs ys n) [(4635118810238550016, 0), (4635189178982727680, 0)] 1
    rw [lst_len] at e1
    rw [e1, Nat.zero_add] at this
    exact this

end Go.Proofs.Ytoofbfjlgablkaa
