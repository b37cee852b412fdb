/-
  What each function of package poly answers, and what the reference of its chapter answers: one contract a function, for every float: the answer stands in the relation of its formula to what was given; of the memory that was there nothing has turned.
-/
import Derived.Test.YtfaiaepkmlmoaaaGreatVec
import Derived.Test.YtfaiaepkmlmoaaaGreatMpa
import Derived.Deep.DeepCutAuto
import Derived.Below
import Derived.Laws.MakeOwn
import Derived.Laws.StructEq
import Derived.Deep.LoopGhost
import Derived.BigQuiet
import Derived.OwnWalk
import Derived.Laws.AppendOwn
import Derived.WalkKit
import Derived.WalkLawsBesides
import Derived.WalkSpells
import Derived.ProofKit
import Derived.OpenShut
import Derived.Deep.RegionHeld3
namespace Go.Proofs.YtfaiaepkmlmoaaaGreat
open Go.ChangeShapes Go.WideShapes Go.ChangeAt Go.RowKit
set_option linter.unusedVariables false
set_option linter.unusedSimpArgs false


theorem mk_rwp (W : World) (cs : List Value) (t : TypeId) : Rw (W.alloc (.cells cs.toArray t)) W.heap.size 0 cs := by
  intro j u hj
  rw [Nat.zero_add, World.cell?_alloc_new, List.getElem?_toArray]
  exact hj
theorem one4 (m j x y : Nat) : ∀ u ∈ ([.float .f64 m, .float .f64 j, .float .f64 x, .float .f64 y] : List Value), u.oneCell' = true := by
  intro u hu
  simp only [List.mem_cons, List.not_mem_nil, or_false] at hu
  rcases hu with rfl | rfl | rfl | rfl <;> rfl
/-- a row of parts -/
def Pq (w : World) (b off n : Nat) (Kq : Nat → Int) (R : Nat → Nat) (V : Nat → Value) (D F B : Nat → Nat) (S : Nat → Bool) (La Ma : Nat → Int) : Prop := ∀ i, i < n → w.cell? ⟨b, off + i * 9, none⟩ = some (.int .u8 (Kq i)) ∧ w.cell? ⟨b, off + i * 9 + 1, none⟩ = some (.float .f64 (R i)) ∧ w.cell? ⟨b, off + i * 9 + 2, none⟩ = some (V i) ∧ w.cell? ⟨b, off + i * 9 + 3, none⟩ = some (.float .f64 (D i)) ∧ w.cell? ⟨b, off + i * 9 + 4, none⟩ = some (.float .f64 (F i)) ∧ w.cell? ⟨b, off + i * 9 + 5, none⟩ = some (.float .f64 (B i)) ∧ w.cell? ⟨b, off + i * 9 + 6, none⟩ = some (.bool (S i)) ∧ w.cell? ⟨b, off + i * 9 + 7, none⟩ = some (.int .u16 (La i)) ∧ w.cell? ⟨b, off + i * 9 + 8, none⟩ = some (.int .u16 (Ma i))
theorem Pq.bel {w w' : World} {b off n : Nat} {Kq : Nat → Int} {R : Nat → Nat} {V : Nat → Value} {D F B : Nat → Nat} {S : Nat → Bool} {La Ma : Nat → Int} (h : Pq w b off n Kq R V D F B S La Ma) (e : Bel w w') : Pq w' b off n Kq R V D F B S La Ma := fun i hi => ⟨keep e (h i hi).1, keep e (h i hi).2.1, keep e (h i hi).2.2.1, keep e (h i hi).2.2.2.1, keep e (h i hi).2.2.2.2.1, keep e (h i hi).2.2.2.2.2.1, keep e (h i hi).2.2.2.2.2.2.1, keep e (h i hi).2.2.2.2.2.2.2.1, keep e (h i hi).2.2.2.2.2.2.2.2⟩
theorem own_any4 {base n : Nat} {w : World} {v : Value} {Q : List Value} (h : OwnR 4 base w v n Q) : ∃ g cap, v = .slice g n cap ∧ (0 < n → ∃ q, g = some ⟨q, 0, none⟩ ∧ n ≤ cap ∧ Rw w q 0 Q) := by
  rcases h.2 with ⟨rfl, rfl⟩ | ⟨g, cap, rfl, _, h2, _, h4, _⟩
  · exact ⟨none, 0, rfl, fun h => by omega⟩
  · exact ⟨some ⟨g, 0, none⟩, cap, rfl, fun _ => ⟨g, rfl, h2, h4⟩⟩

end Go.Proofs.YtfaiaepkmlmoaaaGreat
