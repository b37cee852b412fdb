/-
  What each function of package poly answers, and what the reference of its chapter answers: one contract a function, for every float: the answer stands in the relation of its formula to what was given; of the memory that was there nothing has turned.
-/
import Derived.Test.YtoofbfjlgablkaaVec
import Derived.Test.YtoofbfjlgablkaaPd
import Derived.Below
import Derived.Laws.StructEq
import Derived.WalkKit
import Derived.WalkLawsBesides
import Derived.WalkSpells
import Derived.ProofKit
import Derived.OpenShut
import Derived.Deep.RegionHeld3
namespace Go.Proofs.Ytoofbfjlgablkaa
open Go.ChangeShapes Go.WideShapes Go.ChangeAt Go.RowKit
set_option linter.unusedVariables false
set_option linter.unusedSimpArgs false


/-- of the blocks that were there, at most one has turned -/
structure Mo (b : Nat) (w w' : World) : Prop where
  size : w.heap.size ≤ w'.heap.size
  fz : ∀ a, w'.frozen? a = w.frozen? a
  cell : ∀ c o, c < w.heap.size → c ≠ b → w'.cell? ⟨c, o, none⟩ = w.cell? ⟨c, o, none⟩
  bel : ∀ W0, Bel W0 w → W0.heap.size ≤ b → Bel W0 w'
theorem Mo.refl (b : Nat) (w : World) : Mo b w w := ⟨Nat.le_refl _, fun _ => rfl, fun _ _ _ _ => rfl, fun _ h _ => h⟩
theorem Mo.on {b : Nat} {w w1 w2 : World} (h : Mo b w w1) (g : Bel w1 w2) : Mo b w w2 :=
  ⟨Nat.le_trans h.size g.size, fun a => (g.2 a).trans (h.fz a), fun c o hc hb => ((bcell g).1 c o (Nat.lt_of_lt_of_le hc h.size)).trans (h.cell c o hc hb), fun W0 h0 h1 => bl_trans (h.bel W0 h0 h1) g⟩
theorem Mo.drew {b : Nat} {w w1 : World} (h : Mo b w w1) : Mo b w w1.drew := h.on (bl_drew (bl_refl _))
theorem Mo.set {b o : Nat} {w w1 : World} {v : Value} (h : Mo b w w1) : Mo b w (w1.setCell ⟨b, o, none⟩ v) :=
  ⟨by simpa [World.setCell] using h.size, fun a => (World.frozen?_setCell _ _ _ _).trans (h.fz a), fun c o' hc hb => (World.cell?_setCell_far _ _ _ _ (fun e => hb e.symm)).trans (h.cell c o' hc hb), fun W0 h0 h1 => bl_set (h.bel W0 h0 h1) h1⟩
theorem Mo.sl {b : Nat} {w w1 : World} (h : Mo b w w1) {c off n : Nat} {xs ys : Nat → Nat} (hs : Sl w c off n xs ys) (hc : c ≠ b) : Sl w1 c off n xs ys := fun i hi =>
  ⟨(h.cell _ _ (World.block_lt_of_cell? w _ (hs i hi).1) hc).trans (hs i hi).1, (h.cell _ _ (World.block_lt_of_cell? w _ (hs i hi).2) hc).trans (hs i hi).2⟩
theorem Sl.drew {w : World} {b off n : Nat} {xs ys : Nat → Nat} (h : Sl w b off n xs ys) : Sl w.drew b off n xs ys := fun i hi => h i hi
theorem Sl.swap {w : World} {b off n j : Nat} {L : List Pt} (hl : L.length = n) (hs : Sl w b off n (px L) (py L)) (hj : j < n) (h0 : 0 < j) :
    Sl ((((w.setCell ⟨b, off + j * 2, none⟩ (.float .f64 (px L (j - 1)))).setCell ⟨b, off + j * 2 + 1, none⟩ (.float .f64 (py L (j - 1)))).setCell ⟨b, off + (j - 1) * 2, none⟩ (.float .f64 (px L j))).setCell ⟨b, off + (j - 1) * 2 + 1, none⟩ (.float .f64 (py L j))) b off n (px (swapL L j)) (py (swapL L j)) := by
  have h1 := (hs.set hj (px L (j - 1)) (py L (j - 1))).set (i := j - 1) (by omega) (px L j) (py L j)
  unfold swapL
  rw [px_set (by simp; omega), py_set (by simp; omega), px_set (by omega), py_set (by omega)]
  exact h1

end Go.Proofs.Ytoofbfjlgablkaa
