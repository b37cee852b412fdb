/-
  Plain facts on floats, more: rounding to the nearest rung, sums and products of finite floats, signs turned. No program is named here.
-/
import Derived.Test.YtekhnolpgoejdabSwg
namespace Go.Proofs.Ytekhnolpgoejdab
open Ieee Go.RowKit Go.Sort Go.WideShapes Go.Shelf Go.Lib
set_option linter.unusedSimpArgs false
set_option linter.unusedVariables false

/-! ### pairs in a slice, wherever it lies -/
def Ps (w : World) (g o : Nat) (L : List (Nat × Nat)) : Prop := ∀ (k : Nat) (p : Nat × Nat), L[k]? = some p → w.cell? ⟨g, o + k * 2, none⟩ = some (.int .i64 (p.1 : Int)) ∧ w.cell? ⟨g, o + k * 2 + 1, none⟩ = some (.int .i64 (p.2 : Int))
theorem Ps.bel {w w' : World} {g o : Nat} {L : List (Nat × Nat)} (h : Ps w g o L) (b : Bel w w') : Ps w' g o L := fun k p hk => ⟨keepB b (h k p hk).1, keepB b (h k p hk).2⟩
def PRow (w : World) (v : Value) (L : List (Nat × Nat)) : Prop := ∃ sa cap, v = .slice sa L.length cap ∧ (L = [] ∨ ∃ g o, sa = some ⟨g, o, none⟩ ∧ Ps w g o L)
theorem PRow.below {w w' : World} {v : Value} {L : List (Nat × Nat)} (h : PRow w v L) (g : Below w.heap.size w w') : PRow w' v L := by
  obtain ⟨sa, cap, e, h0 | ⟨b, o, e2, hI⟩⟩ := h
  · exact ⟨sa, cap, e, .inl h0⟩
  · exact ⟨sa, cap, e, .inr ⟨b, o, e2, fun k p hk => ⟨below_get g (World.block_lt_of_cell? _ _ (hI k p hk).1) (hI k p hk).1, below_get g (World.block_lt_of_cell? _ _ (hI k p hk).2) (hI k p hk).2⟩⟩⟩
theorem pRow_at : ∀ (l : List (Nat × Nat)) (k : Nat) (p : Nat × Nat), l[k]? = some p → (pRow l)[k * 2]? = some (.int .i64 (p.1 : Int)) ∧ (pRow l)[k * 2 + 1]? = some (.int .i64 (p.2 : Int))
  | [], k, p, h => by simp at h
  | a :: l, 0, p, h => by
    simp only [List.getElem?_cons_zero, Option.some.injEq] at h
    subst h; exact ⟨rfl, rfl⟩
  | a :: l, k + 1, p, h => by
    rw [List.getElem?_cons_succ] at h
    have ih := pRow_at l k p h
    have e : pRow (a :: l) = .int .i64 (a.1 : Int) :: .int .i64 (a.2 : Int) :: pRow l := rfl
    rw [e, show (k + 1) * 2 = k * 2 + 1 + 1 by omega]
    exact ih
theorem own_prow {base : Nat} {w : World} {v : Value} {L : List (Nat × Nat)} (h : OwnR 2 base w v L.length (pRow L)) : PRow w v L := by
  rcases own_split h (by decide) with ⟨h0, sa, cap, e⟩ | ⟨h0, g, cap, e, _⟩
  · exact ⟨sa, cap, by rw [h0]; exact e, .inl (List.eq_nil_of_length_eq_zero h0)⟩
  · subst e
    obtain ⟨_, _, _, h4, _, _⟩ := own_parts h
    refine ⟨_, cap, rfl, .inr ⟨g, 0, rfl, fun k p hk => ?_⟩⟩
    obtain ⟨q1, q2⟩ := pRow_at L k p hk
    have r1 := h4 _ _ q1
    have r2 := h4 _ _ q2
    rw [← Nat.add_assoc] at r2
    exact ⟨r1, r2⟩
/-- what Pairs answers -/
def prE (n : Nat) (L : List (Nat × Nat)) : Int := if 16384 < n then 4 else if 65536 < L.length then 4 else 0
def prL (n : Nat) (L : List (Nat × Nat)) : List (Nat × Nat) := if 16384 < n then [] else if 65536 < L.length then [] else L
theorem prL_len (n : Nat) (L : List (Nat × Nat)) : (prL n L).length ≤ 65536 := by
  unfold prL
  split
  · simp
  · split
    · simp
    · omega
theorem rowB_none {B C : Nat → Bo} {p : Nat → Nat → Bool} {m i : Nat} (h : mayO (B i) = false) : rowB B C p m i = [] := by
  unfold rowB meO; rw [h]
  simp
theorem allB_len {B C : Nat → Bo} {p : Nat → Nat → Bool} {m : Nat} : ∀ {a b : Nat}, a ≤ b → (allB B C p m a).length ≤ (allB B C p m b).length
  | a, 0, h => by
    have : a = 0 := by omega
    subst this; exact Nat.le_refl _
  | a, b + 1, h => by
    rcases Nat.lt_or_ge a (b + 1) with h' | h'
    · refine Nat.le_trans (allB_len (show a ≤ b by omega)) ?_
      rw [allB, List.length_append]; omega
    · have : a = b + 1 := by omega
      subst this; exact Nat.le_refl _
/-- a row so far -/
def rowK (B C : Nat → Bo) (p : Nat → Nat → Bool) (i k : Nat) : List (Nat × Nat) := rowB B C p k i
theorem rowB_yes {B C : Nat → Bo} {p : Nat → Nat → Bool} {i k : Nat} (h : (p i k && meO (B i) (C k)) = true) : rowB B C p (k + 1) i = rowB B C p k i ++ [(i, k)] := by
  unfold rowB; rw [List.range_succ, List.filter_append, List.map_append, List.filter_cons_of_pos (by exact h)]; rfl
theorem rowB_no {B C : Nat → Bo} {p : Nat → Nat → Bool} {i k : Nat} (h : (p i k && meO (B i) (C k)) = false) : rowB B C p (k + 1) i = rowB B C p k i := by
  unfold rowB; rw [List.range_succ, List.filter_append, List.map_append, List.filter_cons_of_neg (by rw [h]; simp)]; simp
theorem rowB_low {B C : Nat → Bo} {i k : Nat} (h : k ≤ i + 1) : rowB B C (fun i k => decide (i < k)) k i = [] := by
  unfold rowB
  rw [List.map_eq_nil_iff, List.filter_eq_nil_iff]
  intro j hj
  rw [List.mem_range] at hj
  simp only [show ¬ i < j by omega, decide_false, Bool.false_and, Bool.false_eq_true, not_false_eq_true]
theorem rowB_pre {B C : Nat → Bo} {p : Nat → Nat → Bool} {i : Nat} : ∀ {k m : Nat}, k ≤ m → (rowB B C p k i).length ≤ (rowB B C p m i).length
  | k, 0, h => by
    have : k = 0 := by omega
    subst this; exact Nat.le_refl _
  | k, m + 1, h => by
    rcases Nat.lt_or_ge k (m + 1) with h' | h'
    · refine Nat.le_trans (rowB_pre (show k ≤ m by omega)) ?_
      cases e : (p i m && meO (B i) (C m)) with
      | true => rw [rowB_yes e, List.length_append]; omega
      | false => rw [rowB_no e]; exact Nat.le_refl _
    · have : k = m + 1 := by omega
      subst this; exact Nat.le_refl _
end Go.Proofs.Ytekhnolpgoejdab
