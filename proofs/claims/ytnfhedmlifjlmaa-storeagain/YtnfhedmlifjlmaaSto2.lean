/-
  Plain facts on floats, more: rounding to the nearest rung, sums and products of finite floats, signs turned. No program is named here.
-/
import Derived.Test.YtnfhedmlifjlmaaStn
namespace Go.Proofs.Ytnfhedmlifjlmaa
open Ieee Go.RowKit
set_option linter.unusedSimpArgs false
set_option linter.unusedVariables false

theorem ro_made (W : World) (N : Nat) (hN : N ≤ 16384) (v : Value) (t : TypeId) : Ro 1 (W.alloc (.cells (Array.replicate N v) t)) (some ⟨W.heap.size, 0, none⟩) N N (List.replicate N v) := by
  refine ⟨⟨by simp, .inr ⟨W.heap.size, N, rfl, Nat.zero_le _, Nat.le_refl _, by unfold maxLen; omega, fun j u hj => ?_, fun j hj => ?_, fun o => ?_⟩⟩, fun k hk => by simp [ob] at hk; simp only [World.size_alloc]; omega⟩
  · rw [Nat.zero_add, World.cell?_alloc_new]
    rw [← List.toArray_replicate, List.getElem?_toArray]
    exact hj
  · rw [World.cell?_alloc_new]
    simp at hj
    simp [hj]
  · have b := bl_alloc (bl_refl W) (Array.replicate N v) t
    exact (b.2 _).trans (by simp [World.frozen?])
theorem ttF_ty (N : Nat) (E : List El) : ∀ v ∈ ttF N E, ∃ x, v = .int .i64 x := by
  have : ∀ (l : List El) (R : List Value), (∀ v ∈ R, ∃ x, v = .int .i64 x) → ∀ v ∈ l.foldl (fun R x => R.set x.1.1 (.int .i64 x.2)) R, ∃ x, v = .int .i64 x := by
    intro l
    induction l with
    | nil => intro R h; exact h
    | cons a l ih =>
      intro R h
      simp only [List.foldl_cons]
      refine ih _ (fun v hv => ?_)
      rcases List.mem_or_eq_of_mem_set hv with hv | rfl
      · exact h v hv
      · exact ⟨_, rfl⟩
  exact this E _ (fun v hv => by rw [List.mem_replicate] at hv; exact ⟨0, hv.2⟩)
theorem Kd.mono {Ks Ks' F : List Nat} {W : World} (h : Kd Ks F W) (hk : ∀ k, k ∈ Ks' → k ∈ Ks) : Kd Ks' F W := fun k hk' => h k (hk k hk')
theorem low_of {w W W' : World} {F F' : List Nat} (h : Below w.heap.size w W) (f : Fr F F' W W') (hF : ∀ k ∈ F, w.heap.size ≤ k) : Below w.heap.size w W' ∧ ∀ k ∈ F', w.heap.size ≤ k :=
  ⟨h.trans (f.below h.size hF), fun k hk => by
    rcases f.grown k hk with h' | h'
    · exact hF k h'
    · exact Nat.le_trans h.size h'⟩
end Go.Proofs.Ytnfhedmlifjlmaa
