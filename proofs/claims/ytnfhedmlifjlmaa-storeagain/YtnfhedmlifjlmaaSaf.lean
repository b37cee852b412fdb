/-
  What each function of package store answers, and what its memory holds afterwards: one contract a function; of the memory that was there only the store's own blocks have turned.
-/
import Derived.Test.YtnfhedmlifjlmaaChecked
import Derived.Test.YtnfhedmlifjlmaaSac
import Derived.Test.YtnfhedmlifjlmaaStp
import Derived.RangeFuncNested
import Derived.RangeFuncBound
import Derived.RangeFuncCalls
import Derived.RangeFuncLeaves
import Derived.Shelf.Abstract
import Derived.Shelf.RegionOpen
import Derived.OwnWalkIn
import Derived.TacticsInMore
import Derived.LoopNIn
import Derived.LoopIn
import Derived.Maps.OwnIn
import Derived.Sort.LoopGhostIn
import Derived.BigRegionIn
import Derived.Stop.RegionWithIn
import Derived.Below
import Derived.BigQuiet
import Derived.OwnWalk
import Derived.Laws.AppendOwn
import Derived.Laws.AppendOwnNone
import Derived.WalkKit
import Derived.WalkLawsBesides
import Derived.WalkSpells
import Derived.ProofKit
import Derived.OpenShut
import Derived.Deep.RegionHeld3
import Derived.Deep.LoopGhost
import Derived.Laws.StructEq
import Derived.Lib.Builder
import Derived.Deep.DeepCutAuto
import Derived.Lib.SliceRun
import Derived.Laws.MakeOwn
namespace Go.Proofs.Ytnfhedmlifjlmaa
open Go.ChangeShapes Go.WideShapes Go.ChangeAt Go.RowKit Go.Lib
set_option linter.unusedVariables false
set_option linter.unusedSimpArgs false
set_option maxRecDepth 100000
set_option maxHeartbeats 4000000

theorem range_X {α : Type} (val : α → (Nat × Nat) × Int) {P : Program} {g : Operand} {pa pb po qo : Nat} {assign body : Code} {Q : Exit → Act → World → Prop} {a : Act} {w : World} {n : Nat} (h1 : 1 ≤ n) {gf : Nat} {lb : Array Value} (hg : a.eval g = .func (.func gf) #[] lb) (eg : ∀ args w, (callFunc gf args).run P w = .ok (.enter gf args) w)
    (Fs : List Nat) (N : Nat) (cs : List α) (hseq : SeqStopsK Fence.wide (n - 1) P gf lb (fun x => enc2 (val x)) (KpL Fs) (fun xs => xs = cs) (fun _ => True) N w) (hq : ∀ k ∈ Fs, k < w.heap.size)
    (Z : Nat → World → Prop) (hZ : ∀ bx X Y row, Z bx X → X.grownBy Y row → (∀ r, row = some r → w.heap.size ≤ r ∧ ∃ o : Obj, X.heap[r]? = some o ∧ o.isCells = false) → Z bx Y) (I : List α → World → Prop) (hI : OwnFrom w.heap.size I) (h0 : I [] w)
    (hassign : ∀ (l : Nat) (pre : List α) (x : α) (W : World) (K : Act → World → Prop), I pre W → (∀ bx W', KeepsFrom w.heap.size W W' → KpL Fs W W' → I pre W' → W'.cell? ⟨bx, 0, none⟩ = some (.int .u32 ((val x).1.1 : Int)) → W'.cell? ⟨bx, 1, none⟩ = some (.int .u32 ((val x).1.2 : Int)) → Z bx W' → K { tmps := (((a.tmps.setIfInBounds pa (.agg #[.int .u32 ((val x).1.1 : Int), .int .u32 ((val x).1.2 : Int)])).setIfInBounds pb (.int .i64 (val x).2)).setIfInBounds po (.pointer (some ⟨bx, 0, none⟩))).setIfInBounds qo (.int .i64 (val x).2), defers := [] } W') →
      assign.wpIn (Fence.wide.inRound l) (n - 1 - 1) P (Exit.then K (fun _ _ _ => False)) { tmps := (a.tmps.setIfInBounds pa (.agg #[.int .u32 ((val x).1.1 : Int), .int .u32 ((val x).1.2 : Int)])).setIfInBounds pb (.int .i64 (val x).2), defers := [] } W)
    (hbody : ∀ (l : Nat) (pre : List α) (x : α) (bx : Nat) (W : World), I pre W → W.cell? ⟨bx, 0, none⟩ = some (.int .u32 ((val x).1.1 : Int)) → W.cell? ⟨bx, 1, none⟩ = some (.int .u32 ((val x).1.2 : Int)) → Z bx W → pre.length < N → body.wpIn (Fence.wide.inRound l) (n - 1 - 1) P (ownPostG w.heap.size (KpL Fs) I (fun _ _ _ => False) (pre ++ [x]) W) { tmps := (((a.tmps.setIfInBounds pa (.agg #[.int .u32 ((val x).1.1 : Int), .int .u32 ((val x).1.2 : Int)])).setIfInBounds pb (.int .i64 (val x).2)).setIfInBounds po (.pointer (some ⟨bx, 0, none⟩))).setIfInBounds qo (.int .i64 (val x).2), defers := [] } W)
    (hdone : ∀ (D : Nat) (W : World), w.heap.size ≤ D → I cs W → W.heap[D]? = some (.deferred (some [])) → Q .normal { a with defers := { target := .collected D, args := #[] } :: a.defers } W) :
    (Code.rangeFunc g #[pa, pb] assign body).wpIn Fence.wide n P Q a w := by
  refine wpIn_rangeFunc_ownH rfl h1 hg trivial eg hseq (fun h k j hj o => (k j hj o).trans (h j hj o)) (fun W l o o' hl ho _ _ j hj x => ?_) (Below.refl _ _) (fun _ => rfl) I (fun _ _ _ => False) hI (fun _ _ _ _ _ hs _ _ => hs) h0
    (fun x a' W => ∃ bx, W.cell? ⟨bx, 0, none⟩ = some (.int .u32 ((val x).1.1 : Int)) ∧ W.cell? ⟨bx, 1, none⟩ = some (.int .u32 ((val x).1.2 : Int)) ∧ Z bx W ∧ a' = { tmps := (((a.tmps.setIfInBounds pa (.agg #[.int .u32 ((val x).1.1 : Int), .int .u32 ((val x).1.2 : Int)])).setIfInBounds pb (.int .i64 (val x).2)).setIfInBounds po (.pointer (some ⟨bx, 0, none⟩))).setIfInBounds qo (.int .i64 (val x).2), defers := [] }) ?_ ?_ ?_ ?_ ?_
  · exact heap_cell_eq (World.putObj_heap_other (show j ≠ l by have := hq j hj; omega)) x
  · rintro x a' _ X Y row ⟨bx, h2, h3, hZx, h4⟩ hgr hr
    have hk : Y.heap[bx]? = X.heap[bx]? := hgr.block bx (World.block_lt_of_cell? _ _ h2) (fun e => by
      obtain ⟨_, o, ho, hc⟩ := hr bx e.symm
      unfold World.cell? at h2
      simp only [ho] at h2
      cases o <;> first | cases h2 | cases hc)
    exact ⟨bx, (heap_cell_eq hk 0).trans h2, (heap_cell_eq hk 1).trans h3, hZ bx X Y row hZx hgr hr, h4⟩
  · intro l pre x W K hi hK
    have := hassign l pre x W K hi (fun bx W' k1 k2 k3 k4 k5 k6 => hK _ W' k1 k2 k3 ⟨bx, k4, k5, k6, rfl⟩)
    simpa [enc2] using this
  · rintro l pre x a' W _ _ hi ⟨bx, h2, h3, hZx, rfl⟩ hlt
    exact hbody l pre x bx W hi h2 h3 hZx hlt
  · rintro D xs W hD rfl hi hdd
    exact hdone D W hD hi hdd
  · rintro D c pre W _ _ h _
    exact h.elim

theorem put_anyI {m : Sm} {s : Ss} {w : World} (h : Sto w m s) (ho : Okk s) {p : Nat} (hp : m.p = p) (x : Int) : Calls Try.prog 7 #[.pointer (some ⟨p, 0, none⟩), .int .i64 x] w fun e w' => ∃ v m' s', e = .returned v ∧ m'.p = p ∧ Sto w' m' s' ∧ Okk s' ∧ s'.U ≠ [] ∧ Fr m.F m'.F w w' := by
  subst hp
  refine (put_I m s w h ho x).mono ?_
  rintro e w' ⟨k, m', hk, hp', hf, ⟨h1, rfl, hS⟩ | ⟨h1, rfl, hS⟩⟩
  · refine ⟨_, m', _, rfl, hp', hS, ho.nx' hk, fun e => ?_, hf⟩
    have e : s.U = [] := e
    have h2 := hk.le
    have h3 := ho.m1
    rw [e] at h2
    simp at h2
    omega
  · refine ⟨_, m', _, rfl, hp', hS, ho.put hk h1 _, fun e => ?_, hf⟩
    have e : (if k < s.U.length then s.U.set k (s.U.getD k 0 + 1) else s.U ++ [1]) = [] := e
    split at e
    · rename_i hlt
      have := congrArg List.length e
      simp at this
      rw [this] at hlt
      simp at hlt
    · simp at e
theorem take_anyI {m : Sm} {s : Ss} {w : World} (h : Sto w m s) (ho : Okk s) {p : Nat} (hp : m.p = p) (a b : Nat) (ha : a < 4294967296) (hb : b < 4294967296) : Calls Try.prog 10 #[.pointer (some ⟨p, 0, none⟩), .agg #[.int .u32 (a : Int), .int .u32 (b : Int)]] w fun e w' => ∃ v s', e = .returned v ∧ Sto w' m s' ∧ Okk s' ∧ s'.U = s.U ∧ Fr m.F m.F w w' := by
  subst hp
  refine (take_I m s w h ho a b ha hb).mono ?_
  rintro e w' ⟨⟨hn, ⟨v, _, rfl⟩, hS⟩ | ⟨_, rfl, hS⟩, hf⟩
  · exact ⟨_, _, rfl, hS, ho.take hn.1 _, rfl, hf⟩
  · exact ⟨_, s, rfl, hS, ho, rfl, hf⟩

end Go.Proofs.Ytnfhedmlifjlmaa
