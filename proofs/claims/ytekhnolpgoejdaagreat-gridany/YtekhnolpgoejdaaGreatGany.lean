/-
  What each function of package grid answers: one contract a function.
-/
import Derived.Test.YtekhnolpgoejdaaGreatGq
import Derived.Test.YtekhnolpgoejdaaGreatSwpa
import Derived.Laws.FloatArith
import Derived.Laws.StructEq
import Derived.Deep.DeepCutAuto
import Derived.Laws.MakeOwn
import Derived.Below
import Derived.BigQuiet
import Derived.OwnWalk
import Derived.Laws.AppendOwn
import Derived.Laws.AppendOwnNone
import Derived.WalkKit
import Derived.WalkLawsBesides
import Derived.WalkSpells
import Derived.ProofKit
import Derived.OpenShut
import Derived.Deep.RegionHeld3
import Derived.Deep.LoopGhost
namespace Go.Proofs.YtekhnolpgoejdaaGreat
open Go.ChangeShapes Go.WideShapes Go.ChangeAt Go.RowKit Go.Shelf Go.Lib Go.Sort
set_option linter.unusedVariables false
set_option linter.unusedSimpArgs false

theorem allB_le (B C : Nat → Bo) (p : Nat → Nat → Bool) (m : Nat) : ∀ n, (allB B C p m n).length ≤ n * m
  | 0 => by simp [allB]
  | n + 1 => by
    have h1 := allB_le B C p m n
    have h2 := rowB_le (B := B) (C := C) (p := p) (m := m) (i := n)
    rw [allB, List.length_append, Nat.add_mul]
    omega
theorem rowB_ext {B C : Nat → Bo} {p : Nat → Nat → Bool} {i k : Nat} : ∀ {m : Nat}, k ≤ m → ∃ R, rowB B C p m i = rowB B C p k i ++ R
  | 0, h => by
    have : k = 0 := by omega
    subst this; exact ⟨[], by simp⟩
  | m + 1, h => by
    rcases Nat.lt_or_ge k (m + 1) with h' | h'
    · obtain ⟨R, hR⟩ := rowB_ext (B := B) (C := C) (p := p) (i := i) (show k ≤ m by omega)
      cases e : (p i m && meO (B i) (C m)) with
      | true => exact ⟨R ++ [(i, m)], by rw [rowB_yes e, hR, List.append_assoc]⟩
      | false => exact ⟨R, by rw [rowB_no e, hR]⟩
    · have : k = m + 1 := by omega
      subst this; exact ⟨[], by simp⟩
theorem allB_ext {B C : Nat → Bo} {p : Nat → Nat → Bool} {m a : Nat} : ∀ {n : Nat}, a ≤ n → ∃ R, allB B C p m n = allB B C p m a ++ R
  | 0, h => by
    have : a = 0 := by omega
    subst this; exact ⟨[], by simp⟩
  | n + 1, h => by
    rcases Nat.lt_or_ge a (n + 1) with h' | h'
    · obtain ⟨R, hR⟩ := allB_ext (B := B) (C := C) (p := p) (m := m) (show a ≤ n by omega)
      exact ⟨R ++ rowB B C p m n, by rw [allB, hR, List.append_assoc]⟩
    · have : a = n + 1 := by omega
      subst this; exact ⟨[], by simp⟩
theorem allB_at {B C : Nat → Bo} {p : Nat → Nat → Bool} {m n i k t : Nat} (hi : i < n) (hk : k < m) (h : (p i k && meO (B i) (C k)) = true) (ht : t = (allB B C p m i).length + (rowB B C p k i).length) : (allB B C p m n)[t]? = some (i, k) := by
  obtain ⟨R, hR⟩ := allB_ext (B := B) (C := C) (p := p) (m := m) (show i + 1 ≤ n by omega)
  obtain ⟨S, hS⟩ := rowB_ext (B := B) (C := C) (p := p) (i := i) (show k + 1 ≤ m by omega)
  rw [hR, allB, hS, rowB_yes h, ht]
  have e : allB B C p m i ++ (rowB B C p k i ++ [(i, k)] ++ S) ++ R = (allB B C p m i ++ rowB B C p k i) ++ ((i, k) :: (S ++ R)) := by simp [List.append_assoc]
  rw [e, ← List.length_append, List.getElem?_append_right (Nat.le_refl _), Nat.sub_self]
  rfl
theorem nums_ext {p : Nat → Bool} {k : Nat} : ∀ {n : Nat}, k ≤ n → ∃ R, nums p n = nums p k ++ R
  | 0, h => by
    have : k = 0 := by omega
    subst this; exact ⟨[], by simp⟩
  | n + 1, h => by
    rcases Nat.lt_or_ge k (n + 1) with h' | h'
    · obtain ⟨R, hR⟩ := nums_ext (p := p) (show k ≤ n by omega)
      cases e : p n with
      | true => exact ⟨R ++ [n], by rw [nums_yes e, hR, List.append_assoc]⟩
      | false => exact ⟨R, by rw [nums_no e, hR]⟩
    · have : k = n + 1 := by omega
      subst this; exact ⟨[], by simp⟩
theorem nums_at {p : Nat → Bool} {n k t : Nat} (hk : k < n) (h : p k = true) (ht : t = (nums p k).length) : (nums p n)[t]? = some k := by
  obtain ⟨R, hR⟩ := nums_ext (p := p) (show k + 1 ≤ n by omega)
  rw [hR, nums_yes h, ht, List.append_assoc, List.getElem?_append_right (Nat.le_refl _), Nat.sub_self]
  rfl
theorem at_lt {α : Type} {L : List α} {t : Nat} {x : α} (h : L[t]? = some x) : t < L.length := by
  rcases Nat.lt_or_ge t L.length with h' | h'
  · exact h'
  · rw [List.getElem?_eq_none h'] at h; cases h

end Go.Proofs.YtekhnolpgoejdaaGreat
