/-
  What each function of package store answers, and what its memory holds afterwards: one contract a function; of the memory that was there only the store's own blocks have turned.
-/
import Derived.Test.YtnfhedmlifjlmaaChecked
import Derived.Test.YtnfhedmlifjlmaaSab
import Derived.RangeFuncNested
import Derived.RangeFuncBound
import Derived.RangeFuncCalls
import Derived.RangeFuncLeaves
import Derived.Shelf.Abstract
import Derived.Shelf.RegionOpen
import Derived.OwnWalkIn
import Derived.TacticsInMore
import Derived.LoopNIn
import Derived.LoopIn
import Derived.Maps.OwnIn
import Derived.Sort.LoopGhostIn
import Derived.BigRegionIn
import Derived.Stop.RegionWithIn
import Derived.Below
import Derived.BigQuiet
import Derived.OwnWalk
import Derived.Laws.AppendOwn
import Derived.Laws.AppendOwnNone
import Derived.WalkKit
import Derived.WalkLawsBesides
import Derived.WalkSpells
import Derived.ProofKit
import Derived.OpenShut
import Derived.Deep.RegionHeld3
import Derived.Deep.LoopGhost
import Derived.Laws.StructEq
import Derived.Lib.Builder
import Derived.Deep.DeepCutAuto
import Derived.Lib.SliceRun
import Derived.Laws.MakeOwn
namespace Go.Proofs.Ytnfhedmlifjlmaa
open Go.ChangeShapes Go.WideShapes Go.ChangeAt Go.RowKit Go.Lib
set_option linter.unusedVariables false
set_option linter.unusedSimpArgs false
set_option maxRecDepth 100000
set_option maxHeartbeats 4000000

theorem all_stopsG {α : Type} (val : α → (Nat × Nat) × Int) (A : List α) (nn : Nat) (c n : Nat) (gh gx ch cx : Nat) (E : List ((Nat × Nat) × Int)) (w : World) (hAE : A.map val = E) (hE : E.length = n) (hn : n ≤ 16384) (hc : w.cell? ⟨c, 0, none⟩ = some (.slice (some ⟨gh, 0, none⟩) n ch)) (hd : w.cell? ⟨c + 1, 0, none⟩ = some (.slice (some ⟨gx, 0, none⟩) n cx)) (hH : Rw w gh 0 (hRow (E.map (·.1)))) (hX : Rw w gx 0 (xRow (E.map (·.2)))) (hgh : gh < w.heap.size) (hgx : gx < w.heap.size) :
    SeqStopsK (α := α) Fence.wide nn Try.prog 33 #[.pointer (some ⟨c, 0, none⟩), .pointer (some ⟨(c + 1), 0, none⟩)] (fun x => enc2 (val x)) (KpL [c, c + 1, gh, gx]) (fun xs => xs = A) (fun _ => True) n w := by
  intro l J Jx W hb hJ hJx hY h0
  have hcl := World.block_lt_of_cell? _ _ hc
  have hdl := World.block_lt_of_cell? _ _ hd
  have c0 := (hb.cell hcl).trans hc
  have d0 := (hb.cell hdl).trans hd
  have hH0 : Rw W gh 0 (hRow (E.map (·.1))) := fun j u hj => (hb.cell hgh).trans (hH j u hj)
  have hX0 : Rw W gx 0 (xRow (E.map (·.2))) := fun j u hj => (hb.cell hgx).trans (hX j u hj)
  refine callsIn_of_wp Try.func33 rfl trivial ?_ rfl
  simp only [Try.ntmps33, List.size_toArray, List.length_cons, List.length_nil, Nat.reduceAdd, Nat.reduceSub, Array.replicate_succ, Array.replicate_zero, List.push_toArray, List.append_toArray, List.nil_append, List.cons_append]
  gi_wp2
  gi_loopw [8] (fun s8 wr => ∃ k : Nat, s8 = .int .i64 (k : Int) ∧ k ≤ n ∧ wr.cell? ⟨c + 1, 0, none⟩ = some (.slice (some ⟨gx, 0, none⟩) n cx) ∧ Hid (Rw wr gh 0 (hRow (E.map (·.1)))) ∧ Hid (Rw wr gx 0 (xRow (E.map (·.2)))) ∧ Hid (J (A.take k) wr)) (fun s8 _ => ((n : Int) - intOf s8).toNat)
  case atStart => exact ⟨0, rfl, Nat.zero_le _, d0, hH0, hX0, h0⟩
  case round =>
    obtain ⟨k, rfl, hk, hdk, hHk, hXk, hJk⟩ := hrel
    by_cases hlt : k < n
    · have hz : (k : Int) < (n : Int) := by omega
      have ewk : IntKind.wrap .i64 ((k : Int) + 1) = (k : Int) + 1 := by rw [IntKind.wrap_i64]; omega
      obtain ⟨⟨⟨a, b⟩, x⟩, he⟩ := get_of_lt (l := E) (i := k) (by omega)
      obtain ⟨y, hy⟩ := get_of_lt (l := A) (i := k) (by have := congrArg List.length hAE; rw [List.length_map] at this; omega)
      have hyv : val y = ((a, b), x) := by
        have h1 := he
        rw [← hAE, List.getElem?_map, hy] at h1
        exact Option.some.inj h1
      have HYV := hide hyv
      clear hyv
      have hab : (E.map (·.1))[k]? = some (a, b) := by rw [List.getElem?_map, he]; rfl
      have hx : (E.map (·.2))[k]? = some x := by rw [List.getElem?_map, he]; rfl
      have y0 := hHk.out _ _ (hRow_get _ k a b hab).1
      have y1 := hHk.out _ _ (hRow_get _ k a b hab).2
      have y2 := hXk.out k (.int .i64 x) (by rw [xRow_get, hx]; rfl)
      rw [Nat.zero_add] at y0 y1 y2
      gi_wp2
      have bA := st_bel (W := wr) #[.int .u32 (a : Int), .int .u32 (b : Int)] 29
      have q0 : (wr.alloc (.cells #[.int .u32 (a : Int), .int .u32 (b : Int)] 29)).cell? ⟨wr.heap.size, 0, none⟩ = some (.int .u32 (a : Int)) := by rw [World.cell?_alloc_new]; rfl
      have q1 : (wr.alloc (.cells #[.int .u32 (a : Int), .int .u32 (b : Int)] 29)).cell? ⟨wr.heap.size, 1, none⟩ = some (.int .u32 (b : Int)) := by rw [World.cell?_alloc_new]; rfl
      have d1 := keep bA hdk
      have z2 := keep bA y2
      obtain ⟨W1, hW1⟩ : ∃ x, x = wr.alloc (.cells #[.int .u32 (a : Int), .int .u32 (b : Int)] 29) := ⟨_, rfl⟩
      obtain ⟨q, hq⟩ : ∃ q, q = wr.heap.size := ⟨_, rfl⟩
      rw [← hW1, ← hq] at q0 q1
      rw [← hW1] at d1 z2
      rw [← hW1, ← hq]
      rw [← hW1] at bA
      clear hW1 hq y0 y1 y2 c0 d0
      have bD := bl_trans bA (bl_drew (bl_refl W1))
      have hJ1 : J (A.take k) W1.drew := hJ _ wr W1.drew none hJk.out ⟨bD.1.os, bD.1.tape, bD.1.output, bD.1.size, fun j hj _ => bD.1.block j hj⟩ (fun r e => by cases e)
      obtain ⟨fn, tmps, assign, body, hy0, hR⟩ := hY _ y W1.drew hJ1 (by rw [List.length_take]; omega)
      rw [HYV.out] at hy0
      simp only [enc2] at hy0
      have hR2 := hR.mono (R' := fun e W' => ∃ r : Bool, e = .returned (.bool r) ∧ Hid (r = true → J (A.take k ++ [y]) W' ∧ KpL [c, c + 1, gh, gx] W1.drew W') ∧ Hid (r = false → Jx (A.take k ++ [y]) W')) (fun e W' he => by
        rcases he with ⟨rfl, h1, h2⟩ | ⟨rfl, h1⟩
        · exact ⟨true, rfl, fun _ => ⟨h1, h2⟩, (fun h => by cases h)⟩
        · exact ⟨false, rfl, (fun h => by cases h), fun _ => h1⟩)
      clear hR
      gi_region_with (refine ⟨fun h => (by simp [Fence.wide] at h), hR2.mono ?_⟩; rintro e W3 ⟨r, rfl, hr1, hr2⟩)
      all_goals (
        cases r with
        | true =>
          obtain ⟨hJ3, hK3⟩ := hr1.out rfl
          have hKc : ∀ j ∈ [c, c + 1, gh, gx], ∀ o u, wr.cell? ⟨j, o, none⟩ = some u → W3.cell? ⟨j, o, none⟩ = some u := fun j hj o u hu => (hK3 j hj o).trans (keep bD hu)
          have hd3 := hKc (c + 1) (by simp) 0 _ hdk
          have hH3 : Hid (Rw W3 gh 0 (hRow (E.map (·.1)))) := (fun j u hj => hKc gh (by simp) _ _ (hHk.out j u hj) : Rw W3 gh 0 (hRow (E.map (·.1))))
          have hX3 : Hid (Rw W3 gx 0 (xRow (E.map (·.2)))) := (fun j u hj => hKc gx (by simp) _ _ (hXk.out j u hj) : Rw W3 gx 0 (xRow (E.map (·.2))))
          have hJ4 : Hid (J (A.take (k + 1)) W3) := by rw [List.take_add_one, hy]; exact hJ3
          clear hKc hK3 hJ3
          gi_wp2
          go_roundw
          case rel => exact ⟨k + 1, by simp only [Value.int.injEq, true_and]; omega, by omega, hd3, hH3, hX3, hJ4⟩
          case measure => simp only [intOf]; omega
        | false =>
          have hx3 := hr2.out rfl
          clear hr1 hr2
          gi_wp2
          refine bodyPost_ret (results_none rfl _ _ _) rfl ?_
          first | exact ⟨⟨_, rfl⟩, .inr ⟨_, trivial, hx3⟩⟩ | exact ⟨⟨_, rfl⟩, .inr ⟨_, hx3⟩⟩)
    · have hz : ¬ (k : Int) < (n : Int) := by omega
      gi_wp2
      go_end0
      have hkn : k = n := by omega
      have hJn := hJk.out
      rw [List.take_of_length_le (by have := congrArg List.length hAE; rw [List.length_map] at this; omega)] at hJn
      exact ⟨⟨_, rfl⟩, .inl (by first | exact ⟨_, rfl, hJn⟩ | exact hJn)⟩

theorem all_stopsG0 {α : Type} (val : α → (Nat × Nat) × Int) (nn : Nat) (c : Nat) (sh sx : Option Addr) (ch cx : Nat) (Fs : List Nat) (w : World) (hc : w.cell? ⟨c, 0, none⟩ = some (.slice sh 0 ch)) (hd : w.cell? ⟨c + 1, 0, none⟩ = some (.slice sx 0 cx)) :
    SeqStopsK (α := α) Fence.wide nn Try.prog 33 #[.pointer (some ⟨c, 0, none⟩), .pointer (some ⟨(c + 1), 0, none⟩)] (fun x => enc2 (val x)) (KpL Fs) (fun xs => xs = []) (fun _ => True) 0 w := by
  intro l J Jx W hb hJ hJx hY h0
  have hcl := World.block_lt_of_cell? _ _ hc
  have hdl := World.block_lt_of_cell? _ _ hd
  have c0 := (hb.cell hcl).trans hc
  have d0 := (hb.cell hdl).trans hd
  refine callsIn_of_wp Try.func33 rfl trivial ?_ rfl
  simp only [Try.ntmps33, List.size_toArray, List.length_cons, List.length_nil, Nat.reduceAdd, Nat.reduceSub, Array.replicate_succ, Array.replicate_zero, List.push_toArray, List.append_toArray, List.nil_append, List.cons_append]
  gi_wp2
  gi_loopw [8] (fun s8 wr => s8 = .int .i64 0 ∧ Hid (J [] wr)) (fun s8 _ => 0)
  case atStart => exact ⟨rfl, h0⟩
  case round =>
    obtain ⟨rfl, hJk⟩ := hrel
    gi_wp2
    go_end0
    have hJn := hJk.out
    exact ⟨⟨_, rfl⟩, .inl (by first | exact ⟨_, rfl, hJn⟩ | exact hJn)⟩

theorem all_stopsGA {α : Type} (val : α → (Nat × Nat) × Int) (A : List α) (nn : Nat) (c n : Nat) (sh sx : Option Addr) (ch cx : Nat) (E : List ((Nat × Nat) × Int)) (w : World) (hAE : A.map val = E) (hE : E.length = n) (hn : n ≤ 16384) (hc : w.cell? ⟨c, 0, none⟩ = some (.slice sh n ch)) (hd : w.cell? ⟨c + 1, 0, none⟩ = some (.slice sx n cx)) (hH : Ro 2 w sh n ch (hRow (E.map (·.1)))) (hX : Ro 1 w sx n cx (xRow (E.map (·.2)))) :
    SeqStopsK (α := α) Fence.wide nn Try.prog 33 #[.pointer (some ⟨c, 0, none⟩), .pointer (some ⟨(c + 1), 0, none⟩)] (fun x => enc2 (val x)) (KpL (c :: (c + 1) :: (ob sh ++ ob sx))) (fun xs => xs = A) (fun _ => True) n w := by
  rcases Nat.eq_zero_or_pos n with h0 | h0
  · subst h0
    obtain rfl := List.length_eq_zero_iff.1 hE
    obtain rfl := List.map_eq_nil_iff.1 hAE
    exact all_stopsG0 val nn c sh sx ch cx _ w hc hd
  · obtain ⟨gh, rfl, _, _, hRh, _, _, hgh⟩ := hH.at h0
    obtain ⟨gx, rfl, _, _, hRx, _, _, hgx⟩ := hX.at h0
    exact all_stopsG val A nn c n gh gx ch cx E w hAE hE hn hc hd hRh hRx hgh hgx

/-- a range over what has a handle and a number -/
theorem range_G {α : Type} (val : α → (Nat × Nat) × Int) {P : Program} {g : Operand} {pa pb po qo : Nat} {assign body : Code} {Q : Exit → Act → World → Prop} {a : Act} {w : World} {n : Nat} (h1 : 1 ≤ n) {gf : Nat} {lb : Array Value} (hg : a.eval g = .func (.func gf) #[] lb) (eg : ∀ args w, (callFunc gf args).run P w = .ok (.enter gf args) w)
    (Fs : List Nat) (N : Nat) (cs : List α) (hseq : SeqStopsK Fence.wide (n - 1) P gf lb (fun x => enc2 (val x)) (KpL Fs) (fun xs => xs = cs) (fun _ => True) N w) (hq : ∀ k ∈ Fs, k < w.heap.size)
    (I : List α → World → Prop) (hI : OwnFrom w.heap.size I) (h0 : I [] w)
    (hassign : ∀ (l : Nat) (pre : List α) (x : α) (W : World) (K : Act → World → Prop), I pre W → (∀ bx W', KeepsFrom w.heap.size W W' → KpL Fs W W' → I pre W' → W'.cell? ⟨bx, 0, none⟩ = some (.int .u32 ((val x).1.1 : Int)) → W'.cell? ⟨bx, 1, none⟩ = some (.int .u32 ((val x).1.2 : Int)) → K { tmps := (((a.tmps.setIfInBounds pa (.agg #[.int .u32 ((val x).1.1 : Int), .int .u32 ((val x).1.2 : Int)])).setIfInBounds pb (.int .i64 (val x).2)).setIfInBounds po (.pointer (some ⟨bx, 0, none⟩))).setIfInBounds qo (.int .i64 (val x).2), defers := [] } W') →
      assign.wpIn (Fence.wide.inRound l) (n - 1 - 1) P (Exit.then K (fun _ _ _ => False)) { tmps := (a.tmps.setIfInBounds pa (.agg #[.int .u32 ((val x).1.1 : Int), .int .u32 ((val x).1.2 : Int)])).setIfInBounds pb (.int .i64 (val x).2), defers := [] } W)
    (hbody : ∀ (l : Nat) (pre : List α) (x : α) (bx : Nat) (W : World), I pre W → W.cell? ⟨bx, 0, none⟩ = some (.int .u32 ((val x).1.1 : Int)) → W.cell? ⟨bx, 1, none⟩ = some (.int .u32 ((val x).1.2 : Int)) → pre.length < N → body.wpIn (Fence.wide.inRound l) (n - 1 - 1) P (ownPostG w.heap.size (KpL Fs) I (fun _ _ _ => False) (pre ++ [x]) W) { tmps := (((a.tmps.setIfInBounds pa (.agg #[.int .u32 ((val x).1.1 : Int), .int .u32 ((val x).1.2 : Int)])).setIfInBounds pb (.int .i64 (val x).2)).setIfInBounds po (.pointer (some ⟨bx, 0, none⟩))).setIfInBounds qo (.int .i64 (val x).2), defers := [] } W)
    (hdone : ∀ (D : Nat) (W : World), w.heap.size ≤ D → I cs W → W.heap[D]? = some (.deferred (some [])) → Q .normal { a with defers := { target := .collected D, args := #[] } :: a.defers } W) :
    (Code.rangeFunc g #[pa, pb] assign body).wpIn Fence.wide n P Q a w := by
  refine wpIn_rangeFunc_ownH rfl h1 hg trivial eg hseq (fun h k j hj o => (k j hj o).trans (h j hj o)) (fun W l o o' hl ho _ _ j hj x => ?_) (Below.refl _ _) (fun _ => rfl) I (fun _ _ _ => False) hI (fun _ _ _ _ _ hs _ _ => hs) h0
    (fun x a' W => ∃ bx, W.cell? ⟨bx, 0, none⟩ = some (.int .u32 ((val x).1.1 : Int)) ∧ W.cell? ⟨bx, 1, none⟩ = some (.int .u32 ((val x).1.2 : Int)) ∧ a' = { tmps := (((a.tmps.setIfInBounds pa (.agg #[.int .u32 ((val x).1.1 : Int), .int .u32 ((val x).1.2 : Int)])).setIfInBounds pb (.int .i64 (val x).2)).setIfInBounds po (.pointer (some ⟨bx, 0, none⟩))).setIfInBounds qo (.int .i64 (val x).2), defers := [] }) ?_ ?_ ?_ ?_ ?_
  · exact heap_cell_eq (World.putObj_heap_other (show j ≠ l by have := hq j hj; omega)) x
  · rintro x a' _ X Y row ⟨bx, h2, h3, h4⟩ hgr hr
    have hk : Y.heap[bx]? = X.heap[bx]? := hgr.block bx (World.block_lt_of_cell? _ _ h2) (fun e => by
      obtain ⟨_, o, ho, hc⟩ := hr bx e.symm
      unfold World.cell? at h2
      simp only [ho] at h2
      cases o <;> first | cases h2 | cases hc)
    exact ⟨bx, (heap_cell_eq hk 0).trans h2, (heap_cell_eq hk 1).trans h3, h4⟩
  · intro l pre x W K hi hK
    have := hassign l pre x W K hi (fun bx W' k1 k2 k3 k4 k5 => hK _ W' k1 k2 k3 ⟨bx, k4, k5, rfl⟩)
    simpa [enc2] using this
  · rintro l pre x a' W _ _ hi ⟨bx, h2, h3, rfl⟩ hlt
    exact hbody l pre x bx W hi h2 h3 hlt
  · rintro D xs W hD rfl hi hdd
    exact hdone D W hD hi hdd
  · rintro D c pre W _ _ h _
    exact h.elim

end Go.Proofs.Ytnfhedmlifjlmaa
