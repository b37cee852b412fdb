/-
  What each function of package poly answers, and what the reference of its chapter answers: one contract a function, for every float: the answer stands in the relation of its formula to what was given; of the memory that was there nothing has turned.
-/
import Derived.Test.YtoofbfjlgablkaaVec
import Derived.Test.YtoofbfjlgablkaaMx
import Derived.Test.YtoofbfjlgablkaaAppr
import Derived.Below
import Derived.OwnWalk
import Derived.Laws.AppendOwn
import Derived.WalkKit
import Derived.WalkLawsBesides
import Derived.WalkSpells
import Derived.ProofKit
import Derived.OpenShut
import Derived.Deep.RegionHeld3
namespace Go.Proofs.Ytoofbfjlgablkaa
open Go.ChangeShapes Go.WideShapes Go.ChangeAt Go.RowKit
set_option linter.unusedVariables false
set_option linter.unusedSimpArgs false


def AnyM (w : World) (V : Value) (n : Nat) (ms js xs ys : Nat → Nat) : Prop := ∃ a cap, V = .slice a n cap ∧ n ≤ cap ∧ n ≤ maxLen ∧ (∀ i, i < n → okK .f64 (ms i) ∧ okK .f64 (js i) ∧ okK .f64 (xs i) ∧ okK .f64 (ys i)) ∧ (n = 0 ∨ (0 < n ∧ ∃ b off, a = some ⟨b, off, none⟩ ∧ Ml w b off n ms js xs ys))
theorem AnyM.bel {w w' : World} {V : Value} {n : Nat} {ms js xs ys : Nat → Nat} (h : AnyM w V n ms js xs ys) (g : Bel w w') : AnyM w' V n ms js xs ys := by
  obtain ⟨a, cap, h1, h2, h3, h5, h6⟩ := h
  refine ⟨a, cap, h1, h2, h3, h5, ?_⟩
  rcases h6 with h | ⟨h0, b, off, e, hs⟩
  · exact .inl h
  · exact .inr ⟨h0, b, off, e, hs.bel g⟩
/-- the cells of a row of masses -/
def mRow (ms js xs ys : Nat → Nat) (n : Nat) : List Value := (List.range (n * 4)).map fun j => .float .f64 (if j % 4 = 0 then ms (j / 4) else if j % 4 = 1 then js (j / 4) else if j % 4 = 2 then xs (j / 4) else ys (j / 4))
theorem mRow_length (ms js xs ys : Nat → Nat) (n : Nat) : (mRow ms js xs ys n).length = n * 4 := by simp [mRow]
theorem mRow_get (ms js xs ys : Nat → Nat) (n j : Nat) (h : j < n * 4) : (mRow ms js xs ys n)[j]? = some (.float .f64 (if j % 4 = 0 then ms (j / 4) else if j % 4 = 1 then js (j / 4) else if j % 4 = 2 then xs (j / 4) else ys (j / 4))) := by simp [mRow, h]
theorem mRow_one (ms js xs ys : Nat → Nat) (n : Nat) : ∀ u ∈ mRow ms js xs ys n, u.oneCell' = true := by
  intro u hu; simp only [mRow, List.mem_map] at hu; obtain ⟨a, _, rfl⟩ := hu; rfl
theorem Ml.rw {w : World} {b off n : Nat} {ms js xs ys : Nat → Nat} (h : Ml w b off n ms js xs ys) : Rw w b off (mRow ms js xs ys n) := by
  intro j u hj
  have hjl : j < n * 4 := by
    rcases Nat.lt_or_ge j (n * 4) with h' | h'
    · exact h'
    · rw [List.getElem?_eq_none (by rw [mRow_length]; exact h')] at hj; cases hj
  rw [mRow_get _ _ _ _ _ _ hjl] at hj
  injection hj with hj
  subst hj
  obtain ⟨e0, e1, e2, e3⟩ := h (j / 4) (by omega)
  have hd : j / 4 * 4 + j % 4 = j := by omega
  rcases (show j % 4 = 0 ∨ j % 4 = 1 ∨ j % 4 = 2 ∨ j % 4 = 3 by omega) with hm | hm | hm | hm
  · rw [if_pos hm]; rw [show off + j / 4 * 4 = off + j by omega] at e0; exact e0
  · rw [if_neg (by omega), if_pos hm]; rw [show off + j / 4 * 4 + 1 = off + j by omega] at e1; exact e1
  · rw [if_neg (by omega), if_neg (by omega), if_pos hm]; rw [show off + j / 4 * 4 + 2 = off + j by omega] at e2; exact e2
  · rw [if_neg (by omega), if_neg (by omega), if_neg (by omega)]; rw [show off + j / 4 * 4 + 3 = off + j by omega] at e3; exact e3
theorem ml_of {w : World} {b off n : Nat} {ms js xs ys : Nat → Nat} {T : List Value} (h : Rw w b off (mRow ms js xs ys n ++ T)) : Ml w b off n ms js xs ys := by
  have g : ∀ j, j < n * 4 → w.cell? ⟨b, off + j, none⟩ = some (.float .f64 (if j % 4 = 0 then ms (j / 4) else if j % 4 = 1 then js (j / 4) else if j % 4 = 2 then xs (j / 4) else ys (j / 4))) := fun j hj => h j _ (by rw [List.getElem?_append_left (by rw [mRow_length]; exact hj), mRow_get _ _ _ _ _ _ hj])
  intro i hi
  have g0 := g (i * 4) (by omega)
  have g1 := g (i * 4 + 1) (by omega)
  have g2 := g (i * 4 + 2) (by omega)
  have g3 := g (i * 4 + 3) (by omega)
  rw [if_pos (by omega), show i * 4 / 4 = i by omega] at g0
  rw [if_neg (by omega), if_pos (by omega), show (i * 4 + 1) / 4 = i by omega] at g1
  rw [if_neg (by omega), if_neg (by omega), if_pos (by omega), show (i * 4 + 2) / 4 = i by omega] at g2
  rw [if_neg (by omega), if_neg (by omega), if_neg (by omega), show (i * 4 + 3) / 4 = i by omega] at g3
  exact ⟨g0, by rw [Nat.add_assoc]; exact g1, by rw [Nat.add_assoc]; exact g2, by rw [Nat.add_assoc]; exact g3⟩
theorem info_mass : (Try.prog.info? 28).map (fun i => (i.zero, i.size, i.bytes)) = some (some (.agg #[.float .f64 0, .float .f64 0, .float .f64 0, .float .f64 0]), 4, 32) := by kernel_rfl
theorem run_app0m (w : World) (ty c g : Nat) (a : Option Addr) : (Builtin.append_ #[22, 22] ty #[.slice (some ⟨g, 0, none⟩) 0 0, .slice a 0 c]).run Try.prog w = .ok (.slice (some ⟨g, 0, none⟩) 0 0) w := by
  obtain ⟨i0, hi, hz0, hz1, hz2⟩ := info_parts info_mass
  cases a <;> simp [Builtin.append_, run_underlying Try.underlying22, sizeOf, typeInfo, hi, Builtin.lenOf, Builtin.firstCells, loadCells, loadCellsFrom, storeCells]

end Go.Proofs.Ytoofbfjlgablkaa
