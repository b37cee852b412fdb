/-
  What each function of package box answers, and what the reference of its chapter answers: one contract a function, for every float: the answer stands in the relation of its formula to what was given; of the memory that was there nothing has turned.
-/
import Derived.Test.YtnbkjkbgfcpcfaaVec
import Derived.Test.YtnbkjkbgfcpcfaaBref
import Derived.Below
import Derived.WalkKit
import Derived.WalkLawsBesides
import Derived.WalkSpells
import Derived.ProofKit
import Derived.OpenShut
import Derived.Deep.RegionHeld3
namespace Go.Proofs.Ytnbkjkbgfcpcfaa
open Go.ChangeShapes Go.WideShapes Go.ChangeAt Go.RowKit
set_option linter.unusedVariables false
set_option linter.unusedSimpArgs false


theorem st_bel {W a b : World} (h : (∀ x o, x < W.heap.size → a.cell? ⟨x, o, none⟩ = W.cell? ⟨x, o, none⟩) ∧ W.heap.size ≤ a.heap.size) (hb : Bel a b) : (∀ x o, x < W.heap.size → b.cell? ⟨x, o, none⟩ = W.cell? ⟨x, o, none⟩) ∧ W.heap.size ≤ b.heap.size :=
  ⟨fun x o hx => (hb.1.cell (p := ⟨x, o, none⟩) (Nat.lt_of_lt_of_le hx h.2)).trans (h.1 x o hx), Nat.le_trans h.2 hb.size⟩
theorem st_get {W w : World} {b o : Nat} {v : Value} (h : ∀ b o, b < W.heap.size → w.cell? ⟨b, o, none⟩ = W.cell? ⟨b, o, none⟩) (hs : b < W.heap.size) (k : W.cell? ⟨b, o, none⟩ = some v) : w.cell? ⟨b, o, none⟩ = some v := (h b o hs).trans k
def mt (b : Bool) (x : Nat) : Nat := if b then x else 0
theorem st_alloc {W a : World} (h : (∀ x o, x < W.heap.size → a.cell? ⟨x, o, none⟩ = W.cell? ⟨x, o, none⟩) ∧ W.heap.size ≤ a.heap.size) (o : Obj) : (∀ x p, x < W.heap.size → (a.alloc o).cell? ⟨x, p, none⟩ = W.cell? ⟨x, p, none⟩) ∧ W.heap.size ≤ (a.alloc o).heap.size :=
  ⟨fun x p hx => (((Below.refl a.heap.size a).alloc (Nat.le_refl _) o).cell (p := ⟨x, p, none⟩) (Nat.lt_of_lt_of_le hx h.2)).trans (h.1 x p hx), Nat.le_trans h.2 (by simp)⟩
theorem or_of {a b : Bool} (h : (a || b) = true) (h1 : ¬ a = true) : b = true := by
  cases a
  · exact h
  · exact absurd rfl h1
theorem or_no {a b : Bool} (h : (a || b) = true) (h1 : a = false) (h2 : b = false) : False := by rw [h1, h2] at h; cases h
theorem ris_true (a b : Nat) (w : World) (h1 : smK .f64 a b = true) : Calls Try.prog 96 #[.float .f64 a, .float .f64 b] w fun e w' => e = .returned (.bool true) ∧ w' = w := by
  have h := rIs_any a b w
  rw [h1] at h
  exact h

end Go.Proofs.Ytnbkjkbgfcpcfaa
