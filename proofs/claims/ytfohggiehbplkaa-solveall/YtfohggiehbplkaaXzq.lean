/-
  What each function of package poly answers, and what the reference of its chapter answers: one contract a function, for every float: the answer stands in the relation of its formula to what was given; of the memory that was there nothing has turned.
-/
import Derived.Test.YtfohggiehbplkaaVec
import Derived.Test.YtfohggiehbplkaaXzn
import Derived.Below
import Derived.OwnWalk
import Derived.Laws.AppendOwn
import Derived.Lib.SliceRun
import Derived.Laws.MakeOwn
import Derived.WalkKit
import Derived.WalkLawsBesides
import Derived.WalkSpells
import Derived.ProofKit
import Derived.OpenShut
import Derived.Deep.RegionHeld3
namespace Go.Proofs.Ytfohggiehbplkaa
open Go.ChangeShapes Go.WideShapes Go.ChangeAt Go.RowKit
set_option linter.unusedVariables false
set_option linter.unusedSimpArgs false


theorem Fx.new9 {F : List Nat} {a b c : World} {g : Nat} (h : Fx F a b) (k : Fx [g] b c) (hg : g ∈ F ∨ a.heap.size ≤ g) : Fx F a c :=
 ⟨k.os.trans h.os, k.tape.trans h.tape, k.output.trans h.output, Nat.le_trans h.size k.size, fun i hi hn => (k.block i (Nat.lt_of_lt_of_le hi h.size) (by simp only [List.mem_singleton]; rintro rfl; rcases hg with q | q; exact hn q; omega)).trans (h.block i hi hn), fun x => (k.froz x).trans (h.froz x), fun b o n ht => k.thr b o n (h.thr b o n ht)⟩
/-- a row that may be written over and grown: its block is g, or one that is new -/
def Lot (sz : Nat) (W0 w : World) (g : Nat) (sv : Option Addr) (n cap : Nat) : Prop := n ≤ cap ∧ cap ≤ maxLen ∧ (cap = 0 ∨ ∃ g', sv = some ⟨g', 0, none⟩ ∧ (g' = g ∨ W0.heap.size ≤ g') ∧ w.there g' 0 (cap * sz))
theorem Lot.fx {sz : Nat} {W0 w w' : World} {g n cap : Nat} {sv : Option Addr} {F : List Nat} (h : Lot sz W0 w g sv n cap) (k : Fx F w w') : Lot sz W0 w' g sv n cap := by
 obtain ⟨h1, h2, h3⟩ := h
 refine ⟨h1, h2, ?_⟩
 rcases h3 with h | ⟨g', e, h4, h5⟩
 ·exact .inl h
 ·exact .inr ⟨g', e, h4, k.thr _ _ _ h5⟩

theorem appR9 {w : World} {g n cap : Nat} {sv : Option Addr} (W0 : World) (h : Lot 14 W0 w g sv n cap) (a : Nat) {N : List Value} (hN : N.length = 14) (hs : Rw w a 0 N) (h1 : ∀ u ∈ N, u.oneCell' = true) (hn : n ≤ 1000000) (hW : W0.heap.size ≤ w.heap.size) :
  ∃ g' cap' w', (Builtin.append_ #[30, 30] 30 #[.slice sv n cap, .slice (some ⟨a, 0, none⟩) 1 1]).run Try.prog w = .ok (.slice (some ⟨g', 0, none⟩) (n + 1) cap') w' ∧ Lot 14 W0 w' g (some ⟨g', 0, none⟩) (n + 1) cap' ∧ (∀ F, g ∈ F → Fx F W0 w → Fx F W0 w') ∧ Fx [g'] w w' ∧ w'.there g' 0 (cap' * 14) ∧ 0 < cap' ∧ (g' = g ∨ W0.heap.size ≤ g') := by
 obtain ⟨h2, h3, hg⟩ := h
 obtain ⟨i0, hi, hz0, hz1, hz2⟩ := info_parts info_row
 have hsr : ∀ j u, N[j]? = some u → w.cell? ((⟨a, 0, none⟩ : Addr).add j) = some u := fun j u hj => by rw [add_plain]; exact hs j u hj
 have hml : n + 1 ≤ maxLen := by unfold maxLen; omega
 have hNw : ∀ R : List Value, R.length = n * 14 → ∀ old, (w.drew.alloc (.cells (R.toArray ++ N.toArray ++ Builtin.zeroCells (Value.agg #[.int .i64 0, .int .i64 0, .float .f64 0, .float .f64 0, .float .f64 0, .float .f64 0, .float .f64 0, .float .f64 0, .float .f64 0, .float .f64 0, .float .f64 0, .float .f64 0, .int .i64 0, .float .f64 0]).cells (grownCap w (n + 1) old 43 - (n + 1))) 43)).there w.heap.size 0 (grownCap w (n + 1) old 43 * 14) := fun R hR old j hj => by
  have hge := grownCap_ge w (n + 1) old 43
  have hsz : (R.toArray ++ N.toArray ++ Builtin.zeroCells (Value.agg #[.int .i64 0, .int .i64 0, .float .f64 0, .float .f64 0, .float .f64 0, .float .f64 0, .float .f64 0, .float .f64 0, .float .f64 0, .float .f64 0, .float .f64 0, .float .f64 0, .int .i64 0, .float .f64 0]).cells (grownCap w (n + 1) old 43 - (n + 1))).size = grownCap w (n + 1) old 43 * 14 := by
   simp only [Array.size_append, List.size_toArray, size_zeroCells]
   rw [hR, hN]
   show _ + _ * 14 = _
   omega
  rw [Nat.zero_add]
  refine ⟨?_, fz_new (W := w.drew) j⟩
  have h9 := World.cell?_alloc_new w.drew (R.toArray ++ N.toArray ++ Builtin.zeroCells (Value.agg #[.int .i64 0, .int .i64 0, .float .f64 0, .float .f64 0, .float .f64 0, .float .f64 0, .float .f64 0, .float .f64 0, .float .f64 0, .float .f64 0, .float .f64 0, .float .f64 0, .int .i64 0, .float .f64 0]).cells (grownCap w (n + 1) old 43 - (n + 1))) 43 j
  rw [show w.drew.heap.size = w.heap.size from rfl] at h9
  rw [h9, Array.getElem?_eq_getElem (by omega)]
  rfl
 have belnew : ∀ cs, Bel w (w.drew.alloc (.cells cs 43)) := fun cs => bl_alloc (bl_drew (bl_refl w)) _ _
 have fin : ∀ (R : List Value) (old : Nat), R.length = n * 14 → (Builtin.append_ #[30, 30] 30 #[.slice sv n cap, .slice (some ⟨a, 0, none⟩) 1 1]).run Try.prog w = .ok (.slice (some ⟨w.heap.size, 0, none⟩) (n + 1) (grownCap w (n + 1) old 43)) (w.drew.alloc (.cells (R.toArray ++ N.toArray ++ Builtin.zeroCells (Value.agg #[.int .i64 0, .int .i64 0, .float .f64 0, .float .f64 0, .float .f64 0, .float .f64 0, .float .f64 0, .float .f64 0, .float .f64 0, .float .f64 0, .float .f64 0, .float .f64 0, .int .i64 0, .float .f64 0]).cells (grownCap w (n + 1) old 43 - (n + 1))) 43)) → ∃ g' cap' w', (Builtin.append_ #[30, 30] 30 #[.slice sv n cap, .slice (some ⟨a, 0, none⟩) 1 1]).run Try.prog w = .ok (.slice (some ⟨g', 0, none⟩) (n + 1) cap') w' ∧ Lot 14 W0 w' g (some ⟨g', 0, none⟩) (n + 1) cap' ∧ (∀ F, g ∈ F → Fx F W0 w → Fx F W0 w') ∧ Fx [g'] w w' ∧ w'.there g' 0 (cap' * 14) ∧ 0 < cap' ∧ (g' = g ∨ W0.heap.size ≤ g') := fun R old hR hr => by
  have hge := grownCap_ge w (n + 1) old 43
  refine ⟨_, _, _, hr, ⟨hge, grownCap_le_maxLen w (n + 1) old 43 hml, .inr ⟨_, rfl, .inr hW, hNw R hR old⟩⟩, fun F _ hF => hF.trans (Fx.of_bel (belnew _)), Fx.of_bel (belnew _), hNw R hR old, by omega, .inr hW⟩
 by_cases hroom : n + 1 ≤ cap
 ·rcases hg with hg | ⟨g0, rfl, hg0, hth⟩
  ·omega
  ·have hx : ∀ j, j < N.length → (w.cell? ⟨g0, n * 14 + j, none⟩).isSome = true := fun j hj => by
    have h9 := (hth (n * 14 + j) (by rw [hN] at hj; have : (n + 1) * 14 ≤ cap * 14 := Nat.mul_le_mul_right _ hroom; omega)).1
    rwa [Nat.zero_add] at h9
   have hfz : ∀ j, j < N.length → w.frozen? ⟨g0, n * 14 + j, none⟩ = false := fun j hj => by
    have h9 := (hth (n * 14 + j) (by rw [hN] at hj; have : (n + 1) * 14 ≤ cap * 14 := Nat.mul_le_mul_right _ hroom; omega)).2
    rwa [Nat.zero_add] at h9
   have hf1 := run_firstCells_some (P := Try.prog) w 14 1 ⟨a, 0, none⟩ 1 1 N (by rw [hN]) hsr
   have hst := run_storeCells_cells (P := Try.prog) g0 (n * 14) N 0 w (by simpa using hx) (fun j hj => by simpa using hfz j hj) h1
   simp only [Nat.add_zero] at hst
   have hF1 : Fx [g0] w (w.setCells g0 (n * 14) N) := (Fx.refl _ _).sets (by simp) _ _
   refine ⟨g0, cap, w.setCells g0 (n * 14) N, ?_, ⟨hroom, h3, .inr ⟨g0, rfl, hg0, hF1.thr _ _ _ hth⟩⟩, fun F hF hW9 => Fx.new9 hW9 hF1 (by rcases hg0 with h | h; exact .inl (h ▸ hF); exact .inr h), hF1, hF1.thr _ _ _ hth, by omega, hg0⟩
   simp [Builtin.append_, run_underlying Try.underlying30, sizeOf, typeInfo, hi, hz1, Builtin.lenOf, hroom, hf1, add_plain, hst]
 ·have hnc : n = cap := by omega
  rcases hg with hg | ⟨g0, rfl, hg0, hth⟩
  ·have hn0 : n = 0 := by omega
   subst hg
   subst hn0
   cases sv with
   | none => exact fin [] 0 rfl (by
     have hr' := run_append_nil (P := Try.prog) w 30 30 43 i0 (.agg #[.int .i64 0, .int .i64 0, .float .f64 0, .float .f64 0, .float .f64 0, .float .f64 0, .float .f64 0, .float .f64 0, .float .f64 0, .float .f64 0, .float .f64 0, .float .f64 0, .int .i64 0, .float .f64 0]) Try.underlying30 hi hz0 ⟨a, 0, none⟩ 1 1 N (by rw [hz1, hN]) hsr (by omega) (by omega) (by rw [hz2]; decide)
     simpa using hr')
   | some ad => exact fin [] 0 rfl (by
     have hr' := run_append_grow (P := Try.prog) w 30 30 43 i0 (.agg #[.int .i64 0, .int .i64 0, .float .f64 0, .float .f64 0, .float .f64 0, .float .f64 0, .float .f64 0, .float .f64 0, .float .f64 0, .float .f64 0, .float .f64 0, .float .f64 0, .int .i64 0, .float .f64 0]) Try.underlying30 hi hz0 ad 0 0 [] (by simp) (fun j u hj => by simp at hj) ⟨a, 0, none⟩ 1 1 N (by rw [hz1, hN]) hsr (by omega) (by omega) (by rw [hz2]; exact growslice_fits (by omega) (by omega))
     exact hr')
  ·obtain ⟨R, hRl, hRw⟩ := there_cells hth
   rw [← hnc] at hRl
   exact fin R cap hRl (run_append_grow (P := Try.prog) w 30 30 43 i0 (.agg #[.int .i64 0, .int .i64 0, .float .f64 0, .float .f64 0, .float .f64 0, .float .f64 0, .float .f64 0, .float .f64 0, .float .f64 0, .float .f64 0, .float .f64 0, .float .f64 0, .int .i64 0, .float .f64 0]) Try.underlying30 hi hz0 ⟨g0, 0, none⟩ n cap R (by rw [hz1]; exact hRl) (fun j u hj => by rw [add_plain]; exact hRw j u hj) ⟨a, 0, none⟩ 1 1 N (by rw [hz1, hN]) hsr (by omega) (by omega) (by rw [hz2]; exact growslice_fits (by omega) (by omega)))

theorem appS9 {w : World} {g n cap : Nat} {sv : Option Addr} (W0 : World) (h : Lot 5 W0 w g sv n cap) (a : Nat) {N : List Value} (hN : N.length = 5) (hs : Rw w a 0 N) (h1 : ∀ u ∈ N, u.oneCell' = true) (hn : n ≤ 1000000) (hW : W0.heap.size ≤ w.heap.size) :
  ∃ g' cap' w', (Builtin.append_ #[61, 61] 61 #[.slice sv n cap, .slice (some ⟨a, 0, none⟩) 1 1]).run Try.prog w = .ok (.slice (some ⟨g', 0, none⟩) (n + 1) cap') w' ∧ Lot 5 W0 w' g (some ⟨g', 0, none⟩) (n + 1) cap' ∧ (∀ F, g ∈ F → Fx F W0 w → Fx F W0 w') ∧ Fx [g'] w w' ∧ w'.there g' 0 (cap' * 5) ∧ 0 < cap' ∧ (g' = g ∨ W0.heap.size ≤ g') := by
 obtain ⟨h2, h3, hg⟩ := h
 obtain ⟨i0, hi, hz0, hz1, hz2⟩ := info_parts info_still
 have hsr : ∀ j u, N[j]? = some u → w.cell? ((⟨a, 0, none⟩ : Addr).add j) = some u := fun j u hj => by rw [add_plain]; exact hs j u hj
 have hml : n + 1 ≤ maxLen := by unfold maxLen; omega
 have hNw : ∀ R : List Value, R.length = n * 5 → ∀ old, (w.drew.alloc (.cells (R.toArray ++ N.toArray ++ Builtin.zeroCells (Value.agg #[.float .f64 0, .float .f64 0, .float .f64 0, .float .f64 0, .float .f64 0]).cells (grownCap w (n + 1) old 45 - (n + 1))) 45)).there w.heap.size 0 (grownCap w (n + 1) old 45 * 5) := fun R hR old j hj => by
  have hge := grownCap_ge w (n + 1) old 45
  have hsz : (R.toArray ++ N.toArray ++ Builtin.zeroCells (Value.agg #[.float .f64 0, .float .f64 0, .float .f64 0, .float .f64 0, .float .f64 0]).cells (grownCap w (n + 1) old 45 - (n + 1))).size = grownCap w (n + 1) old 45 * 5 := by
   simp only [Array.size_append, List.size_toArray, size_zeroCells]
   rw [hR, hN]
   show _ + _ * 5 = _
   omega
  rw [Nat.zero_add]
  refine ⟨?_, fz_new (W := w.drew) j⟩
  have h9 := World.cell?_alloc_new w.drew (R.toArray ++ N.toArray ++ Builtin.zeroCells (Value.agg #[.float .f64 0, .float .f64 0, .float .f64 0, .float .f64 0, .float .f64 0]).cells (grownCap w (n + 1) old 45 - (n + 1))) 45 j
  rw [show w.drew.heap.size = w.heap.size from rfl] at h9
  rw [h9, Array.getElem?_eq_getElem (by omega)]
  rfl
 have belnew : ∀ cs, Bel w (w.drew.alloc (.cells cs 45)) := fun cs => bl_alloc (bl_drew (bl_refl w)) _ _
 have fin : ∀ (R : List Value) (old : Nat), R.length = n * 5 → (Builtin.append_ #[61, 61] 61 #[.slice sv n cap, .slice (some ⟨a, 0, none⟩) 1 1]).run Try.prog w = .ok (.slice (some ⟨w.heap.size, 0, none⟩) (n + 1) (grownCap w (n + 1) old 45)) (w.drew.alloc (.cells (R.toArray ++ N.toArray ++ Builtin.zeroCells (Value.agg #[.float .f64 0, .float .f64 0, .float .f64 0, .float .f64 0, .float .f64 0]).cells (grownCap w (n + 1) old 45 - (n + 1))) 45)) → ∃ g' cap' w', (Builtin.append_ #[61, 61] 61 #[.slice sv n cap, .slice (some ⟨a, 0, none⟩) 1 1]).run Try.prog w = .ok (.slice (some ⟨g', 0, none⟩) (n + 1) cap') w' ∧ Lot 5 W0 w' g (some ⟨g', 0, none⟩) (n + 1) cap' ∧ (∀ F, g ∈ F → Fx F W0 w → Fx F W0 w') ∧ Fx [g'] w w' ∧ w'.there g' 0 (cap' * 5) ∧ 0 < cap' ∧ (g' = g ∨ W0.heap.size ≤ g') := fun R old hR hr => by
  have hge := grownCap_ge w (n + 1) old 45
  refine ⟨_, _, _, hr, ⟨hge, grownCap_le_maxLen w (n + 1) old 45 hml, .inr ⟨_, rfl, .inr hW, hNw R hR old⟩⟩, fun F _ hF => hF.trans (Fx.of_bel (belnew _)), Fx.of_bel (belnew _), hNw R hR old, by omega, .inr hW⟩
 by_cases hroom : n + 1 ≤ cap
 ·rcases hg with hg | ⟨g0, rfl, hg0, hth⟩
  ·omega
  ·have hx : ∀ j, j < N.length → (w.cell? ⟨g0, n * 5 + j, none⟩).isSome = true := fun j hj => by
    have h9 := (hth (n * 5 + j) (by rw [hN] at hj; have : (n + 1) * 5 ≤ cap * 5 := Nat.mul_le_mul_right _ hroom; omega)).1
    rwa [Nat.zero_add] at h9
   have hfz : ∀ j, j < N.length → w.frozen? ⟨g0, n * 5 + j, none⟩ = false := fun j hj => by
    have h9 := (hth (n * 5 + j) (by rw [hN] at hj; have : (n + 1) * 5 ≤ cap * 5 := Nat.mul_le_mul_right _ hroom; omega)).2
    rwa [Nat.zero_add] at h9
   have hf1 := run_firstCells_some (P := Try.prog) w 5 1 ⟨a, 0, none⟩ 1 1 N (by rw [hN]) hsr
   have hst := run_storeCells_cells (P := Try.prog) g0 (n * 5) N 0 w (by simpa using hx) (fun j hj => by simpa using hfz j hj) h1
   simp only [Nat.add_zero] at hst
   have hF1 : Fx [g0] w (w.setCells g0 (n * 5) N) := (Fx.refl _ _).sets (by simp) _ _
   refine ⟨g0, cap, w.setCells g0 (n * 5) N, ?_, ⟨hroom, h3, .inr ⟨g0, rfl, hg0, hF1.thr _ _ _ hth⟩⟩, fun F hF hW9 => Fx.new9 hW9 hF1 (by rcases hg0 with h | h; exact .inl (h ▸ hF); exact .inr h), hF1, hF1.thr _ _ _ hth, by omega, hg0⟩
   simp [Builtin.append_, run_underlying Try.underlying61, sizeOf, typeInfo, hi, hz1, Builtin.lenOf, hroom, hf1, add_plain, hst]
 ·have hnc : n = cap := by omega
  rcases hg with hg | ⟨g0, rfl, hg0, hth⟩
  ·have hn0 : n = 0 := by omega
   subst hg
   subst hn0
   cases sv with
   | none => exact fin [] 0 rfl (by
     have hr' := run_append_nil (P := Try.prog) w 61 61 45 i0 (.agg #[.float .f64 0, .float .f64 0, .float .f64 0, .float .f64 0, .float .f64 0]) Try.underlying61 hi hz0 ⟨a, 0, none⟩ 1 1 N (by rw [hz1, hN]) hsr (by omega) (by omega) (by rw [hz2]; decide)
     simpa using hr')
   | some ad => exact fin [] 0 rfl (by
     have hr' := run_append_grow (P := Try.prog) w 61 61 45 i0 (.agg #[.float .f64 0, .float .f64 0, .float .f64 0, .float .f64 0, .float .f64 0]) Try.underlying61 hi hz0 ad 0 0 [] (by simp) (fun j u hj => by simp at hj) ⟨a, 0, none⟩ 1 1 N (by rw [hz1, hN]) hsr (by omega) (by omega) (by rw [hz2]; exact growslice_fits (by omega) (by omega))
     exact hr')
  ·obtain ⟨R, hRl, hRw⟩ := there_cells hth
   rw [← hnc] at hRl
   exact fin R cap hRl (run_append_grow (P := Try.prog) w 61 61 45 i0 (.agg #[.float .f64 0, .float .f64 0, .float .f64 0, .float .f64 0, .float .f64 0]) Try.underlying61 hi hz0 ⟨g0, 0, none⟩ n cap R (by rw [hz1]; exact hRl) (fun j u hj => by rw [add_plain]; exact hRw j u hj) ⟨a, 0, none⟩ 1 1 N (by rw [hz1, hN]) hsr (by omega) (by omega) (by rw [hz2]; exact growslice_fits (by omega) (by omega)))

set_option maxRecDepth 100000 in
set_option maxHeartbeats 8000000 in
theorem spoil2_w (g1 n c1 g2 m c2 : Nat) (s1 s2 : Option Addr) (w : World) (hc1 : n ≤ c1) (hm1 : c1 ≤ maxLen) (hc2 : m ≤ c2) (hm2 : c2 ≤ maxLen) (h1 : c1 = 0 ∨ (s1 = some ⟨g1, 0, none⟩ ∧ w.there g1 0 (c1 * 14))) (h2 : c2 = 0 ∨ (s2 = some ⟨g2, 0, none⟩ ∧ w.there g2 0 (c2 * 5))) (hn : n ≤ 1000) (hm : m ≤ 1000) : Calls Try.prog 38 #[.slice s1 n c1, .slice s2 m c2] w fun e w' => e = .returned (.tuple #[]) ∧ Fx [g1, g2] w w' := by
 unfold maxLen at hm1 hm2
 go_enter Try.func38, Try.ntmps38
 repeat (first | go_values | go_skip | go_guarded | go_step | go_upon | go_back | dsimp only)
 go_loopw [4] (fun i wr => ∃ k : Nat, k ≤ n ∧ i = .int .i64 k ∧ Fx [g1, g2] w wr) (fun i _ => n - (intOf i).toNat)
 case atStart => exact ⟨0, by omega, rfl, Fx.refl _ _⟩
 case round =>
  obtain ⟨k, hk, rfl, hB⟩ := hrel
  by_cases hlt : k < n
  ·obtain ⟨e9, hth0⟩ : s1 = some ⟨g1, 0, none⟩ ∧ w.there g1 0 (c1 * 14) := by rcases h1 with h | h; omega; exact h
   subst e9
   have hkI : (k : Int) < (n : Int) := by omega
   have hX9 : wr.there g1 (k * 14) 14 := fun j hj => by have h := (hB.thr _ _ _ hth0) (k * 14 + j) (by omega); rwa [Nat.zero_add] at h
   repeat (first | ((with_reducible show Oper.wp _ ⟨_, Op.build 43 _, _, _, _, _⟩ _ _ _ _); refine wp_build 43 _ rfl (.agg #[.int .i64 0, .int .i64 0, .float .f64 0, .float .f64 0, .float .f64 0, .float .f64 0, .float .f64 0, .float .f64 0, .float .f64 0, .float .f64 0, .float .f64 0, .float .f64 0, .int .i64 98, .float .f64 0]) (by kernel_rfl) ?_; simp only [go_sem]) | ((with_reducible show Oper.wp _ ⟨_, Op.store 43 _ _, _, _, _, _⟩ _ _ _ _); refine wp_store_mid (P := Try.prog) 43 _ _ rfl (g1) (k * 14) #[.int .i64 0, .int .i64 0, .float .f64 0, .float .f64 0, .float .f64 0, .float .f64 0, .float .f64 0, .float .f64 0, .float .f64 0, .float .f64 0, .float .f64 0, .float .f64 0, .int .i64 98, .float .f64 0] rfl rfl hX9 (by kernel_rfl) (by kernel_rfl) ?_; simp only [go_sem]) | go_values | go_skip | go_guarded | go_step | go_upon | go_back | dsimp only)
   exact ⟨⟨k + 1, by omega, by go_num, hB.sets (by simp) _ _⟩, by simp [intOf]; omega⟩
  ·have hkn : n = k := by omega
   subst hkn
   obtain ⟨w1, rfl⟩ : ∃ w1, w1 = wr := ⟨_, rfl⟩
   repeat (first | go_values | go_skip | go_guarded | go_step | go_upon | go_back | dsimp only)
   go_loopw [5] (fun i wr => ∃ k : Nat, k ≤ m ∧ i = .int .i64 k ∧ Fx [g1, g2] w wr) (fun i _ => m - (intOf i).toNat)
   case atStart => exact ⟨0, by omega, rfl, hB⟩
   case round =>
    clear hB
    obtain ⟨k, hk2, rfl, hB⟩ := hrel
    by_cases hlt2 : k < m
    ·obtain ⟨e9, hth0⟩ : s2 = some ⟨g2, 0, none⟩ ∧ w.there g2 0 (c2 * 5) := by rcases h2 with h | h; omega; exact h
     subst e9
     have hkI : (k : Int) < (m : Int) := by omega
     have hX9 : wr.there g2 (k * 5) 5 := fun j hj => by have h := (hB.thr _ _ _ hth0) (k * 5 + j) (by omega); rwa [Nat.zero_add] at h
     repeat (first | ((with_reducible show Oper.wp _ ⟨_, Op.build 45 _, _, _, _, _⟩ _ _ _ _); refine wp_build 45 _ rfl (.agg #[.float .f64 0, .float .f64 0, .float .f64 0, .float .f64 0, .float .f64 4636596553866280960]) (by kernel_rfl) ?_; simp only [go_sem]) | ((with_reducible show Oper.wp _ ⟨_, Op.store 45 _ _, _, _, _, _⟩ _ _ _ _); refine wp_store_mid (P := Try.prog) 45 _ _ rfl (g2) (k * 5) #[.float .f64 0, .float .f64 0, .float .f64 0, .float .f64 0, .float .f64 4636596553866280960] rfl rfl hX9 (by kernel_rfl) (by kernel_rfl) ?_; simp only [go_sem]) | go_values | go_skip | go_guarded | go_step | go_upon | go_back | dsimp only)
     exact ⟨⟨k + 1, by omega, by go_num, hB.sets (by simp) _ _⟩, by simp [intOf]; omega⟩
    ·have hkm : m = k := by omega
     subst hkm
     obtain ⟨wL, rfl⟩ : ∃ wL, wL = wr := ⟨_, rfl⟩
     repeat (first | go_values | go_skip | go_guarded | go_step | go_upon | go_back | dsimp only)
     go_loopw [6, 0, 1] (fun i r s w9 => ∃ k : Nat, k ≤ 4 ∧ i = .int .i64 k ∧ Fx [g1, g2] w w9 ∧ w.heap.size ≤ w9.heap.size ∧ ∃ sr cr st ct, r = .slice sr (n + k) cr ∧ s = .slice st (m + k) ct ∧ Lot 14 w w9 g1 sr (n + k) cr ∧ Lot 5 w w9 g2 st (m + k) ct) (fun i _ _ _ => 4 - (intOf i).toNat)
     case atStart => exact ⟨0, by omega, rfl, hB, hB.size, s1, c1, s2, c2, rfl, rfl, ⟨hc1, by unfold maxLen; exact hm1, by rcases h1 with h | ⟨e, h⟩; exact .inl h; exact .inr ⟨g1, e, .inl rfl, hB.thr _ _ _ h⟩⟩, ⟨hc2, by unfold maxLen; exact hm2, by rcases h2 with h | ⟨e, h⟩; exact .inl h; exact .inr ⟨g2, e, .inl rfl, hB.thr _ _ _ h⟩⟩⟩
     case round =>
      obtain ⟨k, hk4, rfl, hB9, hz9, sr, cr, st, ct, rfl, rfl, hL1, hL2⟩ := hrel
      by_cases hlk : k < 4
      ·have hkI : (k : Int) < 4 := by omega
       have bA : Bel wr (wr.alloc (.cells #[.int .i64 0, .int .i64 0, .float .f64 0, .float .f64 0, .float .f64 0, .float .f64 0, .float .f64 0, .float .f64 0, .float .f64 0, .float .f64 0, .float .f64 0, .float .f64 0, .int .i64 97, .float .f64 0] 43)) := bl_alloc (bl_refl _) _ _
       have hN97 : Rw (wr.alloc (.cells #[.int .i64 0, .int .i64 0, .float .f64 0, .float .f64 0, .float .f64 0, .float .f64 0, .float .f64 0, .float .f64 0, .float .f64 0, .float .f64 0, .float .f64 0, .float .f64 0, .int .i64 97, .float .f64 0] 43)) wr.heap.size 0 [.int .i64 0, .int .i64 0, .float .f64 0, .float .f64 0, .float .f64 0, .float .f64 0, .float .f64 0, .float .f64 0, .float .f64 0, .float .f64 0, .float .f64 0, .float .f64 0, .int .i64 97, .float .f64 0] := rng_new wr [.int .i64 0, .int .i64 0, .float .f64 0, .float .f64 0, .float .f64 0, .float .f64 0, .float .f64 0, .float .f64 0, .float .f64 0, .float .f64 0, .float .f64 0, .float .f64 0, .int .i64 97, .float .f64 0] 43
       obtain ⟨ga, ca, w4, a1, a2, a3, a4, a5, a6, a7⟩ := appR9 w (hL1.fx (Fx.of_bel (F := [g1]) bA)) wr.heap.size (N := [.int .i64 0, .int .i64 0, .float .f64 0, .float .f64 0, .float .f64 0, .float .f64 0, .float .f64 0, .float .f64 0, .float .f64 0, .float .f64 0, .float .f64 0, .float .f64 0, .int .i64 97, .float .f64 0]) rfl hN97 (by intro u hu; simp only [List.mem_cons, List.not_mem_nil, or_false] at hu; rcases hu with rfl | rfl | rfl | rfl | rfl | rfl | rfl | rfl | rfl | rfl | rfl | rfl | rfl | rfl <;> rfl) (by omega) (by have := bA.size; omega)
       have hB10 := a3 [g1, g2] (by simp) (hB9.trans (Fx.of_bel bA))
       have bB : Bel w4 (w4.alloc (.cells #[.float .f64 0, .float .f64 0, .float .f64 0, .float .f64 0, .float .f64 4636526185122103296] 45)) := bl_alloc (bl_refl _) _ _
       obtain ⟨gb, cb, w5, b1, b2, b3, b4, b5, b6, b7⟩ := appS9 w ((hL2.fx (Fx.of_bel (F := [g1]) bA)).fx a4 |>.fx (Fx.of_bel (F := [g1]) bB)) w4.heap.size (N := [.float .f64 0, .float .f64 0, .float .f64 0, .float .f64 0, .float .f64 4636526185122103296]) rfl (rng_new w4 [.float .f64 0, .float .f64 0, .float .f64 0, .float .f64 0, .float .f64 4636526185122103296] 45) (by intro u hu; simp only [List.mem_cons, List.not_mem_nil, or_false] at hu; rcases hu with rfl | rfl | rfl | rfl | rfl <;> rfl) (by omega) (by have := hB10.size; have := bB.size; omega)
       have hB11 := b3 [g1, g2] (by simp) (hB10.trans (Fx.of_bel bB))
       repeat (first | ((with_reducible show Oper.wp _ ⟨_, Op.build 43 _, _, _, _, _⟩ _ _ _ _); refine wp_build 43 _ rfl (.agg #[.int .i64 0, .int .i64 0, .float .f64 0, .float .f64 0, .float .f64 0, .float .f64 0, .float .f64 0, .float .f64 0, .float .f64 0, .float .f64 0, .float .f64 0, .float .f64 0, .int .i64 97, .float .f64 0]) (by kernel_rfl) ?_; simp only [go_sem]) | ((with_reducible show Oper.wp _ ⟨_, Op.build 45 _, _, _, _, _⟩ _ _ _ _); refine wp_build 45 _ rfl (.agg #[.float .f64 0, .float .f64 0, .float .f64 0, .float .f64 0, .float .f64 4636526185122103296]) (by kernel_rfl) ?_; simp only [go_sem]) | ((with_reducible show wpList _ _ _ (⟨some 34, _, _, _, _, _⟩ :: _) _ _); at_builtin; refine wpList_runX 30 rfl (.tmp 31) (.tmp 33) rfl rfl rfl a1 ?_) | ((with_reducible show wpList _ _ _ (⟨some 38, _, _, _, _, _⟩ :: _) _ _); at_builtin; refine wpList_runX 61 rfl (.tmp 35) (.tmp 37) rfl rfl rfl b1 ?_) | go_values | go_skip | go_guarded | go_step | go_upon | go_back | dsimp only)
       exact ⟨⟨k + 1, by omega, by first | go_num | rfl, hB11, hB11.size, _, _, _, _, rfl, rfl, (a2.fx (Fx.of_bel (F := [g1]) bB)).fx b4, b2⟩, by simp [intOf]; omega⟩
      ·have hk4 : ¬ (k : Int) < 4 := by omega
       have hke : k = 4 := by omega
       subst hke
       obtain ⟨q1, q2, q3⟩ := hL1
       obtain ⟨gr, e9, hgr, hthr⟩ := q3.resolve_left (by omega)
       subst e9
       have c0 := (hthr 0 (by omega)).1
       have f0 := (hthr 0 (by omega)).2
       obtain ⟨v0, hv0⟩ := Option.isSome_iff_exists.1 c0
       have l1 : (0 : Int) < ((n + 4 : Nat) : Int) + ((m + 4 : Nat) : Int) := by omega
       have l2 : (0 : Int) < ((n + 4 : Nat) : Int) := by omega
       have l3 : 0 < n + 4 + (m + 4) := by omega
       clear c0
       repeat (first | go_values | go_skip | go_guarded | go_step | go_upon | go_back | dsimp only)
       refine bodyPost_end (v := .tuple #[]) (by kernel_rfl) rfl ?_
       exact ⟨rfl, Fx.new9 hB9 ((Fx.refl [gr] _).sets (g := gr) (by simp) 0 [.int .i64 96]) (by rcases hgr with h | h; exact .inl (by simp [h]); exact .inr h)⟩

end Go.Proofs.Ytfohggiehbplkaa
