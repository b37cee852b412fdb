/-
  Plain facts on floats, more: rounding to the nearest rung, sums and products of finite floats, signs turned. No program is named here.
-/
import Derived.Test.YtnfhedmlifjlmaaStg
import Derived.RangeFuncLeaves
import Derived.RangeFuncRecord
namespace Go.Proofs.Ytnfhedmlifjlmaa
open Ieee Go.RowKit
set_option linter.unusedSimpArgs false
set_option linter.unusedVariables false

/-! ### A function that ranges over functions in a loop: the marks among its deferred calls at its return -/
structure Shut (Ds : List Nat) (W W' : World) : Prop where
  os : W'.os = W.os
  tape : W'.tape = W.tape
  output : W'.output = W.output
  size : W'.heap.size = W.heap.size
  block : ∀ k, ¬ k ∈ Ds → W'.heap[k]? = W.heap[k]?
theorem leaves_marks {F : Fence} {n : Nat} {P : Program} {fn : Func} {tmps : Array Value} {R : Ending → World → Prop} : ∀ (ds : List Deferred) (Ds : List Nat) (W : World), ds.map (fun d => d.target) = Ds.map Target.collected → Ds.Nodup → (∀ D, D ∈ Ds → W.heap[D]? = some (.deferred (some []))) →
    (∀ W', Shut Ds W W' → LeavesIn F n P fn tmps R [] .returning W') → LeavesInM F n P fn tmps R ds .returning W
  | [], [], W, _, _, _, hK => by
    have := hK W ⟨rfl, rfl, rfl, rfl, fun _ _ => rfl⟩
    simpa [LeavesInM] using this
  | [], D :: Ds, W, e, _, _, _ => by simp at e
  | d :: ds, [], W, e, _, _, _ => by simp at e
  | d :: ds, D :: Ds, W, e, hn, hD, hK => by
    simp only [List.map_cons, List.cons.injEq] at e
    have hnD := List.nodup_cons.1 hn
    unfold LeavesInM
    refine ⟨by simp, .inl ⟨D, W.putObj D (.deferred none), e.1, run_takeDeferred (hD D (by simp)), ?_⟩⟩
    refine leaves_marks ds Ds _ e.2 hnD.2 (fun E hE => ?_) (fun W' h => hK W' ⟨h.os, h.tape, h.output, h.size.trans (by simp), fun k hk => ?_⟩)
    · have hne : E ≠ D := fun e => hnD.1 (by rw [← e]; exact hE)
      rw [World.putObj_heap_other hne]
      exact hD E (by simp [hE])
    · rw [h.block k (fun h => hk (by simp [h])), World.putObj_heap_other (show k ≠ D from fun e => hk (by simp [e]))]
end Go.Proofs.Ytnfhedmlifjlmaa
