/-
  Plain facts on floats, more: rounding to the nearest rung, sums and products of finite floats, signs turned. No program is named here.
-/
import Derived.Test.YtekhnolpgoejdabGwd
namespace Go.Proofs.Ytekhnolpgoejdab
open Ieee Go.RowKit
set_option linter.unusedSimpArgs false
set_option linter.unusedVariables false

/-! ### An answer of one's own is written over and grows; others stay -/
theorem prow_heap {W W' : World} {v : Value} {L : List (Nat × Nat)} (h : PRow W v L) (hh : ∀ g, vb v = some g → g < W.heap.size → W'.heap[g]? = W.heap[g]?) : PRow W' v L := by
  obtain ⟨sa, cap, rfl, h⟩ := h
  refine ⟨sa, cap, rfl, ?_⟩
  rcases h with h | ⟨g, o, rfl, h⟩
  · exact .inl h
  · refine .inr ⟨g, o, rfl, fun k p hk => ?_⟩
    obtain ⟨h1, h2⟩ := h k p hk
    have e := hh g rfl (World.block_lt_of_cell? _ _ h1)
    exact ⟨(heap_cell_eq e _).trans h1, (heap_cell_eq e _).trans h2⟩
theorem irow_heap {W W' : World} {v : Value} {L : List Nat} (h : IRow W v L) (hh : ∀ g, vb v = some g → g < W.heap.size → W'.heap[g]? = W.heap[g]?) : IRow W' v L := by
  obtain ⟨sa, cap, rfl, h⟩ := h
  refine ⟨sa, cap, rfl, ?_⟩
  rcases h with h | ⟨g, o, rfl, h⟩
  · exact .inl h
  · refine .inr ⟨g, o, rfl, fun k p hk => ?_⟩
    have h1 := h k p hk
    have e := hh g rfl (World.block_lt_of_cell? _ _ h1)
    exact (heap_cell_eq e _).trans h1
theorem oh_below {u : Value} {X Y : World} {B : Nat} (h : Oh u X Y) (hu : ∀ k, vb u = some k → B ≤ k) (hB : B ≤ X.heap.size) : Below B X Y :=
  ⟨h.os, h.tape, h.output, h.size, fun k hk => h.block k (by omega) (fun e => by have := hu k e; omega)⟩
theorem prow_oh {u : Value} {X Y : World} {v : Value} {L : List (Nat × Nat)} (h : PRow X v L) (ho : Oh u X Y) (hn : NoSh u v) : PRow Y v L :=
  prow_heap h (fun g e hl => ho.block g hl (fun e' => hn g e' e))
theorem irow_oh {u : Value} {X Y : World} {v : Value} {L : List Nat} (h : IRow X v L) (ho : Oh u X Y) (hn : NoSh u v) : IRow Y v L :=
  irow_heap h (fun g e hl => ho.block g hl (fun e' => hn g e' e))
theorem prow_set {X : World} {v x : Value} {L : List (Nat × Nat)} {g o : Nat} (h : PRow X v L) (hn : vb v ≠ some g) : PRow (X.setCell ⟨g, o, none⟩ x) v L :=
  prow_heap h (fun k e _ => Below.heap_setCell X _ _ k (fun e' => hn (by rw [e, e'])))
theorem irow_set {X : World} {v x : Value} {L : List Nat} {g o : Nat} (h : IRow X v L) (hn : vb v ≠ some g) : IRow (X.setCell ⟨g, o, none⟩ x) v L :=
  irow_heap h (fun k e _ => Below.heap_setCell X _ _ k (fun e' => hn (by rw [e, e'])))
theorem own_put {sz base : Nat} {w : World} {g n cap : Nat} {R : List Value} (h : OwnR sz base w (.slice (some ⟨g, 0, none⟩) n cap) n R) {o : Nat} (ho : o < n * sz) (x : Value) : OwnR sz base (w.setCell ⟨g, o, none⟩ x) (.slice (some ⟨g, 0, none⟩) n cap) n (R.set o x) := by
  refine ⟨by rw [List.length_set]; exact h.1, ?_⟩
  rcases h.2 with ⟨e, _⟩ | ⟨g', cp, e, h1, h2, h3, h4, h5, h6⟩
  · cases e
  · cases e
    refine .inr ⟨g, cap, rfl, h1, h2, h3, fun j u hj => ?_, fun j hj => ?_, fun o' => (World.frozen?_setCell _ _ _ _).trans (h6 o')⟩
    · rw [Nat.zero_add]
      by_cases e : o = j
      · subst e
        rw [List.getElem?_set_self (by rw [h.1]; exact ho)] at hj
        cases hj
        have hx := h5 o (Nat.lt_of_lt_of_le ho (Nat.mul_le_mul_right _ h2))
        exact World.cell?_setCell_same' _ _ _ hx
      · rw [List.getElem?_set_ne e] at hj
        rw [set_away (fun e' => e e')]
        have := h4 j u hj
        rwa [Nat.zero_add] at this
    · by_cases e : o = j
      · subst e
        have hx := h5 o hj
        rw [World.cell?_setCell_same' _ _ _ hx]; rfl
      · rw [set_away (fun e' => e e')]
        exact h5 j hj
theorem own_at {sz base : Nat} {w : World} {g n cap : Nat} {R : List Value} (h : OwnR sz base w (.slice (some ⟨g, 0, none⟩) n cap) n R) {o : Nat} (ho : o < n * sz) : (∃ x, w.cell? ⟨g, o, none⟩ = some x) ∧ w.frozen? ⟨g, o, none⟩ = false := by
  rcases h.2 with ⟨e, _⟩ | ⟨g', cp, e, h1, h2, h3, h4, h5, h6⟩
  · cases e
  · cases e
    exact ⟨Option.isSome_iff_exists.1 (h5 o (Nat.lt_of_lt_of_le ho (Nat.mul_le_mul_right _ h2))), h6 o⟩
theorem nosh_app {u v : Value} {X : World} {g m l c : Nat} (h : NoSh u v) (hv : ∀ k, vb v = some k → k < X.heap.size) (hg : X.heap.size ≤ g ∨ ∃ cp, u = .slice (some ⟨g, 0, none⟩) l cp) : NoSh (.slice (some ⟨g, 0, none⟩) m c) v := nosh_new hv h hg
theorem vb_app {u : Value} {X : World} {g m l c B : Nat} (hu : ∀ k, vb u = some k → B ≤ k) (hB : B ≤ X.heap.size) (hg : X.heap.size ≤ g ∨ ∃ cp, u = .slice (some ⟨g, 0, none⟩) l cp) : ∀ k, vb (.slice (some ⟨g, 0, none⟩) m c) = some k → B ≤ k := fun k e => by
  have e : g = k := by simpa [vb] using e
  subst e
  rcases hg with hg | ⟨cp, rfl⟩
  · omega
  · exact hu g rfl
theorem prow_step {u : Value} {X Y : World} {v : Value} {L : List (Nat × Nat)} (h : PRow X v L) (ho : Oh u X Y) (hn : L ≠ [] → NoSh u v) : PRow Y v L := by
  by_cases e : L = []
  · obtain ⟨sa, cap, e1, _⟩ := h
    exact ⟨sa, cap, e1, .inl e⟩
  · exact prow_oh h ho (hn e)
theorem prow_put {X : World} {v x : Value} {L : List (Nat × Nat)} {g o n c : Nat} (h : PRow X v L) (hn : L ≠ [] → NoSh (.slice (some ⟨g, 0, none⟩) n c) v) : PRow (X.setCell ⟨g, o, none⟩ x) v L := by
  by_cases e : L = []
  · obtain ⟨sa, cap, e1, _⟩ := h
    exact ⟨sa, cap, e1, .inl e⟩
  · exact prow_set h (hn e g rfl)
theorem prow_lt {X : World} {v : Value} {L : List (Nat × Nat)} (h : PRow X v L) (hn : L ≠ []) : ∀ k, vb v = some k → k < X.heap.size := fun k e => by
  obtain ⟨sa, cap, rfl, h⟩ := h
  rcases h with h | ⟨g, o, rfl, h⟩
  · exact absurd h hn
  · have e : g = k := by simpa [vb] using e
    subst e
    cases L with
    | nil => exact absurd rfl hn
    | cons p L => exact World.block_lt_of_cell? _ _ (h 0 p rfl).1
theorem prow_nosh {u : Value} {X : World} {v : Value} {L : List (Nat × Nat)} {g m l c : Nat} (h : PRow X v L) (hn : L ≠ [] → NoSh u v) (hg : X.heap.size ≤ g ∨ ∃ cp, u = .slice (some ⟨g, 0, none⟩) l cp) : L ≠ [] → NoSh (.slice (some ⟨g, 0, none⟩) m c) v := fun e => nosh_app (hn e) (prow_lt h e) hg
theorem irow_step {u : Value} {X Y : World} {v : Value} {L : List Nat} (h : IRow X v L) (ho : Oh u X Y) (hn : L ≠ [] → NoSh u v) : IRow Y v L := by
  by_cases e : L = []
  · obtain ⟨sa, cap, e1, _⟩ := h
    exact ⟨sa, cap, e1, .inl e⟩
  · exact irow_oh h ho (hn e)
theorem irow_put {X : World} {v x : Value} {L : List Nat} {g o n c : Nat} (h : IRow X v L) (hn : L ≠ [] → NoSh (.slice (some ⟨g, 0, none⟩) n c) v) : IRow (X.setCell ⟨g, o, none⟩ x) v L := by
  by_cases e : L = []
  · obtain ⟨sa, cap, e1, _⟩ := h
    exact ⟨sa, cap, e1, .inl e⟩
  · exact irow_set h (hn e g rfl)
theorem irow_lt {X : World} {v : Value} {L : List Nat} (h : IRow X v L) (hn : L ≠ []) : ∀ k, vb v = some k → k < X.heap.size := fun k e => by
  obtain ⟨sa, cap, rfl, h⟩ := h
  rcases h with h | ⟨g, o, rfl, h⟩
  · exact absurd h hn
  · have e : g = k := by simpa [vb] using e
    subst e
    cases L with
    | nil => exact absurd rfl hn
    | cons p L => exact World.block_lt_of_cell? _ _ (h 0 p rfl)
theorem irow_nosh {u : Value} {X : World} {v : Value} {L : List Nat} {g m l c : Nat} (h : IRow X v L) (hn : L ≠ [] → NoSh u v) (hg : X.heap.size ≤ g ∨ ∃ cp, u = .slice (some ⟨g, 0, none⟩) l cp) : L ≠ [] → NoSh (.slice (some ⟨g, 0, none⟩) m c) v := fun e => nosh_app (hn e) (irow_lt h e) hg
end Go.Proofs.Ytekhnolpgoejdab
