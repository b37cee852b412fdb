/-
  Plain facts on floats, more: rounding to the nearest rung, sums and products of finite floats, signs turned. No program is named here.
-/
import Derived.Test.YtekhnolpgoejdabGsw
namespace Go.Proofs.Ytekhnolpgoejdab
open Ieee Go.RowKit
set_option linter.unusedSimpArgs false
set_option linter.unusedVariables false

/-! ### The cells of a span, column by column -/
def colL (a : Sp4) (x : Int) (q : Nat) : List Ce := (List.range q).map fun j : Nat => (x, a.1.2 + (j : Int))
def hgt (a : Sp4) : Nat := (a.2.2 - a.1.2 + 1).toNat
def wid (a : Sp4) : Nat := (a.2.1 - a.1.1 + 1).toNat
def colsL (a : Sp4) : Nat → List Ce
  | 0 => []
  | p + 1 => colsL a p ++ colL a (a.1.1 + (p : Int)) (hgt a)
def cellsL (a : Sp4) : List Ce := colsL a (wid a)
theorem colL_succ (a : Sp4) (x : Int) (q : Nat) : colL a x (q + 1) = colL a x q ++ [(x, a.1.2 + (q : Int))] := by
  unfold colL; rw [List.range_succ, List.map_append]; rfl
theorem colL_len (a : Sp4) (x : Int) (q : Nat) : (colL a x q).length = q := by simp [colL]
theorem colsL_len (a : Sp4) : ∀ p, (colsL a p).length = p * hgt a
  | 0 => by simp [colsL]
  | p + 1 => by rw [colsL, List.length_append, colsL_len a p, colL_len, Nat.add_mul, Nat.one_mul]
theorem mem_colL {a : Sp4} {x : Int} {q : Nat} {c : Ce} : c ∈ colL a x q ↔ c.1 = x ∧ a.1.2 ≤ c.2 ∧ c.2 < a.1.2 + (q : Int) := by
  unfold colL
  rw [List.mem_map]
  constructor
  · rintro ⟨j, hj, rfl⟩
    rw [List.mem_range] at hj
    exact ⟨rfl, by show _ ≤ _ + _; omega, by show _ + _ < _; omega⟩
  · rintro ⟨h1, h2, h3⟩
    refine ⟨(c.2 - a.1.2).toNat, by rw [List.mem_range]; omega, ?_⟩
    obtain ⟨c1, c2⟩ := c
    simp only at h1 h2 h3
    subst h1
    show (c1, a.1.2 + ((c2 - a.1.2).toNat : Int)) = (c1, c2)
    congr 1
    omega
theorem mem_colsL {a : Sp4} {c : Ce} : ∀ {p : Nat}, c ∈ colsL a p ↔ a.1.1 ≤ c.1 ∧ c.1 < a.1.1 + (p : Int) ∧ a.1.2 ≤ c.2 ∧ c.2 < a.1.2 + (hgt a : Int)
  | 0 => by
    simp only [colsL, List.not_mem_nil, false_iff]
    omega
  | p + 1 => by
    rw [colsL, List.mem_append, mem_colsL, mem_colL]
    omega
theorem mem_cellsL {a : Sp4} {c : Ce} : c ∈ cellsL a ↔ a.1.1 ≤ c.1 ∧ c.1 ≤ a.2.1 ∧ a.1.2 ≤ c.2 ∧ c.2 ≤ a.2.2 := by
  unfold cellsL
  rw [mem_colsL]
  unfold wid hgt
  omega
theorem nodup_colL (a : Sp4) (x : Int) (q : Nat) : (colL a x q).Nodup := by
  unfold colL
  refine nodup_map _ List.nodup_range (fun i _ j _ e => ?_)
  injection e with _ e
  omega
theorem nodup_colsL (a : Sp4) : ∀ p, (colsL a p).Nodup
  | 0 => by simp [colsL]
  | p + 1 => by
    rw [colsL, List.nodup_append]
    refine ⟨nodup_colsL a p, nodup_colL a _ _, fun c h d h2 e => ?_⟩
    subst e
    rw [mem_colsL] at h
    rw [mem_colL] at h2
    omega
theorem nodup_cellsL (a : Sp4) : (cellsL a).Nodup := nodup_colsL a _
end Go.Proofs.Ytekhnolpgoejdab
namespace Go.Proofs.Ytekhnolpgoejdab
open Ieee Go.RowKit
set_option linter.unusedSimpArgs false
set_option linter.unusedVariables false

/-! ### What lay has laid -/
def NoSh (a b : Value) : Prop := ∀ g, vb a = some g → vb b ≠ some g
theorem NoSh.symm {a b : Value} (h : NoSh a b) : NoSh b a := fun g e e' => h g e' e
theorem heap_cell_eq {w w' : World} {k : Nat} (h : w'.heap[k]? = w.heap[k]?) (o : Nat) : w'.cell? ⟨k, o, none⟩ = w.cell? ⟨k, o, none⟩ := by simp only [World.cell?, h]
theorem heap_frozen_eq {w w' : World} {k : Nat} (h : w'.heap[k]? = w.heap[k]?) (o : Nat) : w'.frozen? ⟨k, o, none⟩ = w.frozen? ⟨k, o, none⟩ := by simp only [World.frozen?, h]
theorem OwnR.heap {sz base : Nat} {w w' : World} {v : Value} {n : Nat} {R : List Value} (h : OwnR sz base w v n R) (hh : ∀ g, vb v = some g → w'.heap[g]? = w.heap[g]?) : OwnR sz base w' v n R := by
  refine ⟨h.1, ?_⟩
  rcases h.2 with h2 | ⟨g, cap, e, h1, h2, h3, h4, h5, h6⟩
  · exact .inl h2
  · have hg := hh g (by rw [e]; rfl)
    exact .inr ⟨g, cap, e, h1, h2, h3, fun j u hj => (heap_cell_eq hg _).trans (h4 j u hj), fun j hj => by rw [heap_cell_eq hg]; exact h5 j hj, fun o => (heap_frozen_eq hg o).trans (h6 o)⟩
theorem own_obj {sz base : Nat} {w : World} {v : Value} {n : Nat} {R : List Value} (h : OwnR sz base w v n R) (hz : 0 < sz) (h0 : n ≠ 0 ∨ v = .slice none 0 0) {g : Nat} (e : vb v = some g) : base ≤ g ∧ g < w.heap.size ∧ ∃ o, w.heap[g]? = some o ∧ o.isCells = true := by
  rcases h.2 with ⟨rfl, _⟩ | ⟨g', cap, rfl, h1, h2, h3, h4, h5, h6⟩
  · cases e
  · have eg : g' = g := by simpa [vb] using e
    subst eg
    have hn : n ≠ 0 := by
      rcases h0 with h0 | h0
      · exact h0
      · cases h0
    have hc := h5 0 (Nat.mul_pos (by omega) hz)
    obtain ⟨x, hx⟩ := Option.isSome_iff_exists.1 hc
    have hl := World.block_lt_of_cell? _ _ hx
    refine ⟨h1, hl, ?_⟩
    unfold World.cell? at hx
    simp only at hx
    split at hx
    · rename_i c t f ho
      exact ⟨_, ho, rfl⟩
    · cases hx
structure LayS (W : World) (s0 n : Nat) (sa : Option Addr) (cap : Nat) (S : Nat → Sp4) (V : Nat → Bool) (k : Nat) (v3 v4 : Value) (M : List En) (ck : Nat) (Sm Wd : List Nat) (F : Ce → List Nat) : Prop where
  g6 : G6 W (s0 + 2) (.slice sa n cap) (.slice (some ⟨s0, 0, none⟩) n n) (.map (some (s0 + 1))) v3 v4 (.slice none 0 0)
  cg : W.cell? ⟨s0 + 3, 0, none⟩ = some (.pointer (some ⟨s0 + 2, 0, none⟩))
  spS : SpS W s0 S V k
  spX : ∀ j, j < n * 4 → (W.cell? ⟨s0, j, none⟩).isSome = true
  spF : ∀ o, W.frozen? ⟨s0, o, none⟩ = false
  o3 : OwnR 1 (s0 + 4) W v3 Sm.length (iRow Sm)
  n3 : Sm = [] → v3 = .slice none 0 0
  o4 : OwnR 1 (s0 + 4) W v4 Wd.length (iRow Wd)
  n4 : Wd = [] → v4 = .slice none 0 0
  mp : Mp W (s0 + 1) M ck
  keys : (M.map (·.1)).Nodup
  born : (M.map (·.2.2)).Nodup
  bornlt : ∀ m ∈ M, m.2.2 < ck
  om : ∀ m ∈ M, OwnR 1 (s0 + 4) W m.2.1 (F m.1).length (iRow (F m.1)) ∧ F m.1 ≠ []
  hasF : ∀ c, F c ≠ [] → ∃ m ∈ M, m.1 = c
  apart : (v3 :: v4 :: M.map (·.2.1)).Pairwise NoSh
  sz : s0 + 4 ≤ W.heap.size
section
variable {W W' : World} {s0 n : Nat} {sa : Option Addr} {cap : Nat} {S : Nat → Sp4} {V : Nat → Bool} {k : Nat} {v3 v4 : Value} {M : List En} {ck : Nat} {Sm Wd : List Nat} {F : Ce → List Nat}
theorem LayS.obj (h : LayS W s0 n sa cap S V k v3 v4 M ck Sm Wd F) : ∀ v ∈ v3 :: v4 :: M.map (·.2.1), ∀ g, vb v = some g → s0 + 4 ≤ g ∧ g < W.heap.size ∧ ∃ o, W.heap[g]? = some o ∧ o.isCells = true := by
  intro v hv g e
  rcases List.mem_cons.1 hv with rfl | hv
  · refine own_obj h.o3 (by decide) ?_ e
    by_cases hz : Sm = []
    · exact .inr (h.n3 hz)
    · exact .inl (fun e => hz (List.eq_nil_of_length_eq_zero e))
  · rcases List.mem_cons.1 hv with rfl | hv
    · refine own_obj h.o4 (by decide) ?_ e
      by_cases hz : Wd = []
      · exact .inr (h.n4 hz)
      · exact .inl (fun e => hz (List.eq_nil_of_length_eq_zero e))
    · obtain ⟨m, hm, rfl⟩ := List.mem_map.1 hv
      exact own_obj (h.om m hm).1 (by decide) (.inl (fun e => (h.om m hm).2 (List.eq_nil_of_length_eq_zero e))) e
theorem LayS.keep (h : LayS W s0 n sa cap S V k v3 v4 M ck Sm Wd F) (K : Nat → Prop) (hs : W.heap.size ≤ W'.heap.size) (hb : ∀ j, j < W.heap.size → ¬ K j → W'.heap[j]? = W.heap[j]?) (k0 : ¬ K s0) (k1 : ¬ K (s0 + 1)) (k2 : ¬ K (s0 + 2)) (k3 : ¬ K (s0 + 3)) (ko : ∀ v ∈ v3 :: v4 :: M.map (·.2.1), ∀ g, vb v = some g → ¬ K g) : LayS W' s0 n sa cap S V k v3 v4 M ck Sm Wd F := by
  have hsz := h.sz
  have e0 := hb s0 (by omega) k0
  have e1 := hb (s0 + 1) (by omega) k1
  have e2 := hb (s0 + 2) (by omega) k2
  have e3 := hb (s0 + 3) (by omega) k3
  have eo : ∀ v ∈ v3 :: v4 :: M.map (·.2.1), ∀ g, vb v = some g → W'.heap[g]? = W.heap[g]? := fun v hv g e => hb g (h.obj v hv g e).2.1 (ko v hv g e)
  exact
  { g6 := h.g6.same (heap_cell_eq e2) (heap_frozen_eq e2)
    cg := (heap_cell_eq e3 0).trans h.cg
    spS := fun i hi hv => by
      obtain ⟨a, b, c, d⟩ := h.spS i hi hv
      exact ⟨(heap_cell_eq e0 _).trans a, (heap_cell_eq e0 _).trans b, (heap_cell_eq e0 _).trans c, (heap_cell_eq e0 _).trans d⟩
    spX := fun j hj => by rw [heap_cell_eq e0]; exact h.spX j hj
    spF := fun o => (heap_frozen_eq e0 o).trans (h.spF o)
    o3 := h.o3.heap (eo v3 (by simp))
    n3 := h.n3
    o4 := h.o4.heap (eo v4 (by simp))
    n4 := h.n4
    mp := e1.trans h.mp
    keys := h.keys
    born := h.born
    bornlt := h.bornlt
    om := fun m hm => ⟨(h.om m hm).1.heap (eo m.2.1 (by simp only [List.mem_cons, List.mem_map]; exact .inr (.inr ⟨m, hm, rfl⟩))), (h.om m hm).2⟩
    hasF := h.hasF
    apart := h.apart
    sz := Nat.le_trans hsz hs }
theorem LayS.bel (h : LayS W s0 n sa cap S V k v3 v4 M ck Sm Wd F) (b : Bel W W') : LayS W' s0 n sa cap S V k v3 v4 M ck Sm Wd F :=
  h.keep (fun _ => False) b.size (fun j hj _ => b.1.block j hj) id id id id (fun _ _ _ _ => id)
/-- a block that is no cells, and lies behind, turns; new ones come -/
theorem LayS.grown (h : LayS W s0 n sa cap S V k v3 v4 M ck Sm Wd F) {row : Option Nat} (hg : W.grownBy W' row) {B : Nat} (hB : s0 + 4 ≤ B) (hr : ∀ r, row = some r → B ≤ r ∧ ∃ o : Obj, W.heap[r]? = some o ∧ o.isCells = false) : LayS W' s0 n sa cap S V k v3 v4 M ck Sm Wd F := by
  refine h.keep (fun j => row = some j) hg.size (fun j hj hk => hg.block j hj (fun e => hk e.symm)) ?_ ?_ ?_ ?_ ?_
  · intro e; have := (hr _ e).1; omega
  · intro e; have := (hr _ e).1; omega
  · intro e; have := (hr _ e).1; omega
  · intro e; have := (hr _ e).1; omega
  · intro v hv g e er
    obtain ⟨_, _, o, ho, hc⟩ := h.obj v hv g e
    obtain ⟨_, o', ho', hc'⟩ := hr g er
    rw [ho] at ho'
    cases ho'
    rw [hc] at hc'
    cases hc'
theorem LayS.low (h : LayS W s0 n sa cap S V k v3 v4 M ck Sm Wd F) (e0 : W'.heap[s0]? = W.heap[s0]?) (e3 : W'.heap[s0 + 3]? = W.heap[s0 + 3]?) : W'.cell? ⟨s0 + 3, 0, none⟩ = some (.pointer (some ⟨s0 + 2, 0, none⟩)) ∧ SpS W' s0 S V k ∧ (∀ j, j < n * 4 → (W'.cell? ⟨s0, j, none⟩).isSome = true) ∧ ∀ o, W'.frozen? ⟨s0, o, none⟩ = false :=
  ⟨(heap_cell_eq e3 0).trans h.cg, fun i hi hv => by
    obtain ⟨a, b, c, d⟩ := h.spS i hi hv
    exact ⟨(heap_cell_eq e0 _).trans a, (heap_cell_eq e0 _).trans b, (heap_cell_eq e0 _).trans c, (heap_cell_eq e0 _).trans d⟩, fun j hj => by rw [heap_cell_eq e0]; exact h.spX j hj, fun o => (heap_frozen_eq e0 o).trans (h.spF o)⟩
/-- one that does not lie -/
theorem LayS.skip (h : LayS W s0 n sa cap S V k v3 v4 M ck Sm Wd F) (hv : V k = false) : LayS W s0 n sa cap S V (k + 1) v3 v4 M ck Sm Wd F :=
  { h with spS := fun i hi hvi => h.spS i (by rcases Nat.lt_or_ge i k with h' | h'; exact h'; rw [show i = k by omega, hv] at hvi; cases hvi) hvi }
/-- a span is stored -/
theorem LayS.span (h : LayS W s0 n sa cap S V k v3 v4 M ck Sm Wd F) (hk : k < n) (hs : W.heap.size ≤ W'.heap.size) (hb : ∀ j, j < W.heap.size → j ≠ s0 → W'.heap[j]? = W.heap[j]?) (hf : ∀ o, W'.frozen? ⟨s0, o, none⟩ = W.frozen? ⟨s0, o, none⟩) (ho : ∀ o, (o < k * 4 ∨ k * 4 + 4 ≤ o) → W'.cell? ⟨s0, o, none⟩ = W.cell? ⟨s0, o, none⟩)
    (c0 : W'.cell? ⟨s0, k * 4, none⟩ = some (.int .i64 (S k).1.1)) (c1 : W'.cell? ⟨s0, k * 4 + 1, none⟩ = some (.int .i64 (S k).1.2)) (c2 : W'.cell? ⟨s0, k * 4 + 2, none⟩ = some (.int .i64 (S k).2.1)) (c3 : W'.cell? ⟨s0, k * 4 + 3, none⟩ = some (.int .i64 (S k).2.2)) : LayS W' s0 n sa cap S V (k + 1) v3 v4 M ck Sm Wd F := by
  have hsz := h.sz
  have e1 := hb (s0 + 1) (by omega) (by omega)
  have e2 := hb (s0 + 2) (by omega) (by omega)
  have e3 := hb (s0 + 3) (by omega) (by omega)
  have eo : ∀ v ∈ v3 :: v4 :: M.map (·.2.1), ∀ g, vb v = some g → W'.heap[g]? = W.heap[g]? := fun v hv g e => by
    obtain ⟨h1, h2, _⟩ := h.obj v hv g e
    exact hb g h2 (by omega)
  exact
  { g6 := h.g6.same (heap_cell_eq e2) (heap_frozen_eq e2)
    cg := (heap_cell_eq e3 0).trans h.cg
    spS := fun i hi hv => by
      by_cases e : i = k
      · subst e; exact ⟨c0, c1, c2, c3⟩
      · obtain ⟨a, b, c, d⟩ := h.spS i (by omega) hv
        exact ⟨(ho _ (by omega)).trans a, (ho _ (by omega)).trans b, (ho _ (by omega)).trans c, (ho _ (by omega)).trans d⟩
    spX := fun j hj => by
      by_cases e : j < k * 4 ∨ k * 4 + 4 ≤ j
      · rw [ho j e]; exact h.spX j hj
      · rcases (show j = k * 4 ∨ j = k * 4 + 1 ∨ j = k * 4 + 2 ∨ j = k * 4 + 3 by omega) with e | e | e | e
        · rw [e, c0]; rfl
        · rw [e, c1]; rfl
        · rw [e, c2]; rfl
        · rw [e, c3]; rfl
    spF := fun o => (hf o).trans (h.spF o)
    o3 := h.o3.heap (eo v3 (by simp))
    n3 := h.n3
    o4 := h.o4.heap (eo v4 (by simp))
    n4 := h.n4
    mp := e1.trans h.mp
    keys := h.keys
    born := h.born
    bornlt := h.bornlt
    om := fun m hm => ⟨(h.om m hm).1.heap (eo m.2.1 (by simp only [List.mem_cons, List.mem_map]; exact .inr (.inr ⟨m, hm, rfl⟩))), (h.om m hm).2⟩
    hasF := h.hasF
    apart := h.apart
    sz := Nat.le_trans hsz hs }
/-- what grew shares nothing with what was there -/
theorem nosh_new {v u : Value} {W : World} {g m c l : Nat} (hu : ∀ g, vb u = some g → g < W.heap.size) (hn : NoSh v u) (hg : W.heap.size ≤ g ∨ ∃ cp, v = .slice (some ⟨g, 0, none⟩) l cp) : NoSh (.slice (some ⟨g, 0, none⟩) m c) u := by
  intro x e e'
  have ex : g = x := by simpa [vb] using e
  subst ex
  rcases hg with hg | ⟨cp, rfl⟩
  · have := hu g e'; omega
  · exact hn g rfl e'
/-- a wide box is put to the others -/
theorem LayS.push4 (h : LayS W s0 n sa cap S V k v3 v4 M ck Sm Wd F) {W1 : World} {g cp i : Nat} (hO : OwnR 1 (s0 + 4) W1 (.slice (some ⟨g, 0, none⟩) (Wd.length + 1) cp) (Wd.length + 1) (iRow Wd ++ [.int .i64 (i : Int)])) (hOh : Oh v4 W W1) (hg : W.heap.size ≤ g ∨ ∃ c, v4 = .slice (some ⟨g, 0, none⟩) Wd.length c) :
    LayS (W1.setCell ⟨s0 + 2, 4, none⟩ (.slice (some ⟨g, 0, none⟩) (Wd.length + 1) cp)) s0 n sa cap S V k v3 (.slice (some ⟨g, 0, none⟩) (Wd.length + 1) cp) M ck Sm (Wd ++ [i]) F := by
  have hsz := h.sz
  have h4 := h.obj v4 (by simp)
  have hne : ∀ j, j < s0 + 4 → vb v4 ≠ some j := fun j hj e => by have := (h4 j e).1; omega
  have hb1 : ∀ j, j < W.heap.size → vb v4 ≠ some j → j ≠ s0 + 2 → (W1.setCell ⟨s0 + 2, 4, none⟩ (.slice (some ⟨g, 0, none⟩) (Wd.length + 1) cp)).heap[j]? = W.heap[j]? := fun j hj hv h2 => (Below.heap_setCell W1 _ _ j h2).trans (hOh.block j hj hv)
  obtain ⟨l1, l2, l3, l4⟩ := h.low (hb1 s0 (by omega) (hne _ (by omega)) (by omega)) (hb1 (s0 + 3) (by omega) (hne _ (by omega)) (by omega))
  have hap := List.pairwise_cons.1 h.apart
  have hap2 := List.pairwise_cons.1 hap.2
  have hgn : s0 + 2 ≠ g := by
    rcases hg with hg | ⟨c, hc⟩
    · omega
    · intro e; exact hne (s0 + 2) (by omega) (by rw [hc, e]; rfl)
  have hlt : ∀ v ∈ v3 :: v4 :: M.map (·.2.1), ∀ g, vb v = some g → g < W.heap.size := fun v hv g e => (h.obj v hv g e).2.1
  have keepv : ∀ v ∈ v3 :: v4 :: M.map (·.2.1), NoSh v v4 → ∀ x, vb v = some x → (W1.setCell ⟨s0 + 2, 4, none⟩ (.slice (some ⟨g, 0, none⟩) (Wd.length + 1) cp)).heap[x]? = W.heap[x]? := fun v hv hn x e => hb1 x (hlt v hv x e) (hn x e) (by have := (h.obj v hv x e).1; omega)
  have hn34 : NoSh v3 v4 := hap.1 v4 (by simp)
  have g61 := h.g6.oh hOh (hne (s0 + 2) (by omega))
  have ne : ∀ o, o ≠ 4 → (W1.setCell ⟨s0 + 2, 4, none⟩ (.slice (some ⟨g, 0, none⟩) (Wd.length + 1) cp)).cell? ⟨s0 + 2, o, none⟩ = W1.cell? ⟨s0 + 2, o, none⟩ := fun o ho => set_away (fun e => ho e.symm)
  exact
  { g6 := ⟨(ne 0 (by decide)).trans g61.c0, (ne 1 (by decide)).trans g61.c1, (ne 2 (by decide)).trans g61.c2, (ne 3 (by decide)).trans g61.c3, World.cell?_setCell_same' _ _ _ (by rw [g61.c4]; rfl), (ne 5 (by decide)).trans g61.c5, fun o => (World.frozen?_setCell _ _ _ _).trans (g61.fr o)⟩
    cg := l1
    spS := l2
    spX := l3
    spF := l4
    o3 := h.o3.heap (keepv v3 (by simp) hn34)
    n3 := h.n3
    o4 := by
      rw [List.length_append, iRow_app]
      exact hO.heap (fun x e => by
        have ex : g = x := by simpa [vb] using e
        subst ex
        exact Below.heap_setCell W1 _ _ g (fun e => hgn e.symm))
    n4 := fun e => by simp at e
    mp := (hb1 (s0 + 1) (by omega) (hne _ (by omega)) (by omega)).trans h.mp
    keys := h.keys
    born := h.born
    bornlt := h.bornlt
    om := fun m hm => ⟨(h.om m hm).1.heap (keepv m.2.1 (by simp only [List.mem_cons, List.mem_map]; exact .inr (.inr ⟨m, hm, rfl⟩)) (hap2.1 m.2.1 (List.mem_map.2 ⟨m, hm, rfl⟩)).symm), (h.om m hm).2⟩
    hasF := h.hasF
    apart := by
      refine List.pairwise_cons.2 ⟨fun u hu => ?_, List.pairwise_cons.2 ⟨fun u hu => nosh_new (hlt u (by simp [hu])) (hap2.1 u hu) hg, hap2.2⟩⟩
      rcases List.mem_cons.1 hu with rfl | hu
      · exact (nosh_new (hlt v3 (by simp)) hn34.symm hg).symm
      · exact hap.1 u (by simp [hu])
    sz := by rw [World.size_setCell]; exact Nat.le_trans hsz hOh.size }
/-- a small box is put to the others -/
theorem LayS.push3 (h : LayS W s0 n sa cap S V k v3 v4 M ck Sm Wd F) {W1 : World} {g cp i : Nat} (hO : OwnR 1 (s0 + 4) W1 (.slice (some ⟨g, 0, none⟩) (Sm.length + 1) cp) (Sm.length + 1) (iRow Sm ++ [.int .i64 (i : Int)])) (hOh : Oh v3 W W1) (hg : W.heap.size ≤ g ∨ ∃ c, v3 = .slice (some ⟨g, 0, none⟩) Sm.length c) :
    LayS (W1.setCell ⟨s0 + 2, 3, none⟩ (.slice (some ⟨g, 0, none⟩) (Sm.length + 1) cp)) s0 n sa cap S V k (.slice (some ⟨g, 0, none⟩) (Sm.length + 1) cp) v4 M ck (Sm ++ [i]) Wd F := by
  have hsz := h.sz
  have h4 := h.obj v3 (by simp)
  have hne : ∀ j, j < s0 + 4 → vb v3 ≠ some j := fun j hj e => by have := (h4 j e).1; omega
  have hb1 : ∀ j, j < W.heap.size → vb v3 ≠ some j → j ≠ s0 + 2 → (W1.setCell ⟨s0 + 2, 3, none⟩ (.slice (some ⟨g, 0, none⟩) (Sm.length + 1) cp)).heap[j]? = W.heap[j]? := fun j hj hv h2 => (Below.heap_setCell W1 _ _ j h2).trans (hOh.block j hj hv)
  obtain ⟨l1, l2, l3, l4⟩ := h.low (hb1 s0 (by omega) (hne _ (by omega)) (by omega)) (hb1 (s0 + 3) (by omega) (hne _ (by omega)) (by omega))
  have hap := List.pairwise_cons.1 h.apart
  have hap2 := List.pairwise_cons.1 hap.2
  have hgn : s0 + 2 ≠ g := by
    rcases hg with hg | ⟨c, hc⟩
    · omega
    · intro e; exact hne (s0 + 2) (by omega) (by rw [hc, e]; rfl)
  have hlt : ∀ v ∈ v3 :: v4 :: M.map (·.2.1), ∀ g, vb v = some g → g < W.heap.size := fun v hv g e => (h.obj v hv g e).2.1
  have keepv : ∀ v ∈ v3 :: v4 :: M.map (·.2.1), NoSh v v3 → ∀ x, vb v = some x → (W1.setCell ⟨s0 + 2, 3, none⟩ (.slice (some ⟨g, 0, none⟩) (Sm.length + 1) cp)).heap[x]? = W.heap[x]? := fun v hv hn x e => hb1 x (hlt v hv x e) (hn x e) (by have := (h.obj v hv x e).1; omega)
  have hn34 : NoSh v3 v4 := hap.1 v4 (by simp)
  have g61 := h.g6.oh hOh (hne (s0 + 2) (by omega))
  have ne : ∀ o, o ≠ 3 → (W1.setCell ⟨s0 + 2, 3, none⟩ (.slice (some ⟨g, 0, none⟩) (Sm.length + 1) cp)).cell? ⟨s0 + 2, o, none⟩ = W1.cell? ⟨s0 + 2, o, none⟩ := fun o ho => set_away (fun e => ho e.symm)
  exact
  { g6 := ⟨(ne 0 (by decide)).trans g61.c0, (ne 1 (by decide)).trans g61.c1, (ne 2 (by decide)).trans g61.c2, World.cell?_setCell_same' _ _ _ (by rw [g61.c3]; rfl), (ne 4 (by decide)).trans g61.c4, (ne 5 (by decide)).trans g61.c5, fun o => (World.frozen?_setCell _ _ _ _).trans (g61.fr o)⟩
    cg := l1
    spS := l2
    spX := l3
    spF := l4
    o3 := by
      rw [List.length_append, iRow_app]
      exact hO.heap (fun x e => by
        have ex : g = x := by simpa [vb] using e
        subst ex
        exact Below.heap_setCell W1 _ _ g (fun e => hgn e.symm))
    n3 := fun e => by simp at e
    o4 := h.o4.heap (keepv v4 (by simp) hn34.symm)
    n4 := h.n4
    mp := (hb1 (s0 + 1) (by omega) (hne _ (by omega)) (by omega)).trans h.mp
    keys := h.keys
    born := h.born
    bornlt := h.bornlt
    om := fun m hm => ⟨(h.om m hm).1.heap (keepv m.2.1 (by simp only [List.mem_cons, List.mem_map]; exact .inr (.inr ⟨m, hm, rfl⟩)) (hap.1 m.2.1 (by simp only [List.mem_cons, List.mem_map]; exact .inr ⟨m, hm, rfl⟩)).symm), (h.om m hm).2⟩
    hasF := h.hasF
    apart := List.pairwise_cons.2 ⟨fun u hu => nosh_new (hlt u (List.mem_cons_of_mem _ hu)) (hap.1 u hu) hg, hap.2⟩
    sz := by rw [World.size_setCell]; exact Nat.le_trans hsz hOh.size }
/-- the groups, with i behind that of c -/
def upF (F : Ce → List Nat) (c : Ce) (i : Nat) : Ce → List Nat := fun c' => if c' = c then F c ++ [i] else F c'
theorem pw_set {α : Type} {r : α → α → Prop} (hs : ∀ a b, r a b → r b a) {l : List α} (h : l.Pairwise r) {j : Nat} {x : α} (hx : ∀ (i : Nat) (hi : i < l.length), i ≠ j → r x l[i]) : (l.set j x).Pairwise r := by
  rw [List.pairwise_iff_getElem] at h ⊢
  intro a b ha hb hab
  have ha' : a < l.length := by simpa using ha
  have hb' : b < l.length := by simpa using hb
  rw [List.getElem_set, List.getElem_set]
  by_cases ea : j = a
  · rw [if_pos ea, if_neg (by omega)]; exact hx b hb' (by omega)
  · by_cases eb : j = b
    · rw [if_neg ea, if_pos eb]; exact hs _ _ (hx a ha' (by omega))
    · rw [if_neg ea, if_neg eb]; exact h a b ha' hb' hab
/-- a number is put into a cell that is there -/
theorem LayS.groupA (h : LayS W s0 n sa cap S V k v3 v4 M ck Sm Wd F) {c : Ce} {i j bn g cp : Nat} {v : Value} (hj : M[j]? = some (c, v, bn))
    (hO : OwnR 1 (s0 + 4) W' (.slice (some ⟨g, 0, none⟩) ((F c).length + 1) cp) ((F c).length + 1) (iRow (F c) ++ [.int .i64 (i : Int)])) (hs : W.heap.size ≤ W'.heap.size) (hb : ∀ x, x < W.heap.size → x ≠ s0 + 1 → vb v ≠ some x → W'.heap[x]? = W.heap[x]?)
    (hm : Mp W' (s0 + 1) (M.set j (c, .slice (some ⟨g, 0, none⟩) ((F c).length + 1) cp, bn)) ck) (hg : W.heap.size ≤ g ∨ ∃ cp, v = .slice (some ⟨g, 0, none⟩) (F c).length cp) :
    LayS W' s0 n sa cap S V k v3 v4 (M.set j (c, .slice (some ⟨g, 0, none⟩) ((F c).length + 1) cp, bn)) ck Sm Wd (upF F c i) := by
  have hsz := h.sz
  obtain ⟨hl, hje⟩ := List.getElem?_eq_some_iff.1 hj
  have hjm : (c, v, bn) ∈ M := List.mem_of_getElem? hj
  have hvm : v ∈ v3 :: v4 :: M.map (·.2.1) := by simp only [List.mem_cons, List.mem_map]; exact .inr (.inr ⟨_, hjm, rfl⟩)
  have hvo := h.obj v hvm
  have hne : ∀ x, x < s0 + 4 → vb v ≠ some x := fun x hx e => by have := (hvo x e).1; omega
  obtain ⟨l1, l2, l3, l4⟩ := h.low (hb s0 (by omega) (by omega) (hne _ (by omega))) (hb (s0 + 3) (by omega) (by omega) (hne _ (by omega)))
  have e2 := hb (s0 + 2) (by omega) (by omega) (hne _ (by omega))
  have hlt : ∀ v ∈ v3 :: v4 :: M.map (·.2.1), ∀ g, vb v = some g → g < W.heap.size := fun v hv g e => (h.obj v hv g e).2.1
  have hap := List.pairwise_cons.1 h.apart
  have hap2 := List.pairwise_cons.1 hap.2
  have h3v : NoSh v3 v := hap.1 v (by simp only [List.mem_cons, List.mem_map]; exact .inr ⟨_, hjm, rfl⟩)
  have h4v : NoSh v4 v := hap2.1 v (List.mem_map.2 ⟨_, hjm, rfl⟩)
  have keepv : ∀ u ∈ v3 :: v4 :: M.map (·.2.1), NoSh u v → ∀ x, vb u = some x → W'.heap[x]? = W.heap[x]? := fun u hu hn x e => hb x (hlt u hu x e) (by have := (h.obj u hu x e).1; omega) (hn x e)
  have hother : ∀ (a : Nat) (ha : a < M.length), a ≠ j → NoSh v M[a].2.1 ∧ M[a].1 ≠ c := by
    intro a ha hne
    have p1 := List.pairwise_iff_getElem.1 hap2.2
    have p2 := List.pairwise_iff_getElem.1 h.keys
    have ev : M[j].2.1 = v := by rw [hje]
    have ec : M[j].1 = c := by rw [hje]
    rcases Nat.lt_or_gt_of_ne hne with hh | hh
    · have q1 := p1 a j (by simpa using ha) (by simpa using hl) hh
      have q2 := p2 a j (by simpa using ha) (by simpa using hl) hh
      simp only [List.getElem_map] at q1 q2
      rw [ev] at q1
      rw [ec] at q2
      exact ⟨q1.symm, q2⟩
    · have q1 := p1 j a (by simpa using hl) (by simpa using ha) hh
      have q2 := p2 j a (by simpa using hl) (by simpa using ha) hh
      simp only [List.getElem_map] at q1 q2
      rw [ev] at q1
      rw [ec] at q2
      exact ⟨q1, fun e => q2 e.symm⟩
  have hmem : ∀ m ∈ M.set j (c, .slice (some ⟨g, 0, none⟩) ((F c).length + 1) cp, bn), m = (c, .slice (some ⟨g, 0, none⟩) ((F c).length + 1) cp, bn) ∨ (m ∈ M ∧ NoSh v m.2.1 ∧ m.1 ≠ c) := by
    intro m hm'
    obtain ⟨a, ha, e⟩ := List.getElem_of_mem hm'
    have ha' : a < M.length := by simpa using ha
    rw [List.getElem_set] at e
    by_cases ea : j = a
    · rw [if_pos ea] at e; exact .inl e.symm
    · rw [if_neg ea] at e
      have := hother a ha' (by omega)
      rw [e] at this
      exact .inr ⟨e ▸ List.getElem_mem ha', this⟩
  have hkm : (M.set j (c, .slice (some ⟨g, 0, none⟩) ((F c).length + 1) cp, bn)).map (·.1) = M.map (·.1) := by
    rw [List.map_set]
    apply List.ext_getElem?
    intro a
    rw [List.getElem?_set]
    split
    · rename_i e; subst e
      simp [hl, hje]
    · rfl
  have hbm : (M.set j (c, .slice (some ⟨g, 0, none⟩) ((F c).length + 1) cp, bn)).map (·.2.2) = M.map (·.2.2) := by
    rw [List.map_set]
    apply List.ext_getElem?
    intro a
    rw [List.getElem?_set]
    split
    · rename_i e; subst e
      simp [hl, hje]
    · rfl
  exact
  { g6 := h.g6.same (heap_cell_eq e2) (heap_frozen_eq e2)
    cg := l1
    spS := l2
    spX := l3
    spF := l4
    o3 := h.o3.heap (keepv v3 (by simp) h3v)
    n3 := h.n3
    o4 := h.o4.heap (keepv v4 (by simp) h4v)
    n4 := h.n4
    mp := hm
    keys := by rw [hkm]; exact h.keys
    born := by rw [hbm]; exact h.born
    bornlt := fun m hm' => by
      rcases hmem m hm' with e | ⟨e, _⟩
      · have hx := h.bornlt _ hjm
        rw [e]; exact hx
      · exact h.bornlt m e
    om := fun m hm' => by
      rcases hmem m hm' with e | ⟨e, hn, hc⟩
      · rw [e]
        show OwnR 1 (s0 + 4) W' (.slice (some ⟨g, 0, none⟩) ((F c).length + 1) cp) (upF F c i c).length (iRow (upF F c i c)) ∧ upF F c i c ≠ []
        rw [upF, if_pos rfl, List.length_append, iRow_app]
        exact ⟨hO, by simp⟩
      · rw [upF, if_neg hc]
        exact ⟨(h.om m e).1.heap (keepv m.2.1 (by simp only [List.mem_cons, List.mem_map]; exact .inr (.inr ⟨m, e, rfl⟩)) hn.symm), (h.om m e).2⟩
    hasF := fun c' hc' => by
      by_cases e : c' = c
      · exact ⟨_, List.mem_iff_getElem.2 ⟨j, by simpa using hl, List.getElem_set_self _⟩, e.symm⟩
      · rw [upF, if_neg e] at hc'
        obtain ⟨m, hm', hmc⟩ := h.hasF c' hc'
        obtain ⟨a, ha, ea⟩ := List.getElem_of_mem hm'
        have haj : j ≠ a := fun e2 => e (by subst e2; rw [hje] at ea; rw [← hmc, ← ea])
        exact ⟨m, List.mem_iff_getElem.2 ⟨a, by simpa using ha, by rw [List.getElem_set, if_neg haj]; exact ea⟩, hmc⟩
    apart := by
      have : v3 :: v4 :: (M.set j (c, .slice (some ⟨g, 0, none⟩) ((F c).length + 1) cp, bn)).map (·.2.1) = (v3 :: v4 :: M.map (·.2.1)).set (j + 2) (.slice (some ⟨g, 0, none⟩) ((F c).length + 1) cp) := by
        rw [List.map_set]; rfl
      rw [this]
      refine pw_set (fun a b => NoSh.symm) h.apart (fun a ha hne => ?_)
      match a, ha with
      | 0, _ => exact nosh_new (hlt v3 (by simp)) h3v.symm hg
      | 1, _ => exact nosh_new (hlt v4 (by simp)) h4v.symm hg
      | a + 2, ha =>
        have ha' : a < M.length := by simpa using ha
        simp only [List.getElem_cons_succ, List.getElem_map]
        exact nosh_new (hlt _ (by simp only [List.mem_cons, List.mem_map]; exact .inr (.inr ⟨_, List.getElem_mem ha', rfl⟩))) (hother a ha' (by omega)).1 hg
    sz := Nat.le_trans hsz hs }
/-- a number is put into a cell that was not there -/
theorem LayS.groupB (h : LayS W s0 n sa cap S V k v3 v4 M ck Sm Wd F) {c : Ce} {i g cp : Nat} (hc : ∀ m ∈ M, m.1 ≠ c) (hF : F c = [])
    (hO : OwnR 1 (s0 + 4) W' (.slice (some ⟨g, 0, none⟩) 1 cp) 1 [.int .i64 (i : Int)]) (hs : W.heap.size ≤ W'.heap.size) (hb : ∀ x, x < W.heap.size → x ≠ s0 + 1 → W'.heap[x]? = W.heap[x]?)
    (hm : Mp W' (s0 + 1) (M ++ [(c, .slice (some ⟨g, 0, none⟩) 1 cp, ck)]) (ck + 1)) (hg : W.heap.size ≤ g) :
    LayS W' s0 n sa cap S V k v3 v4 (M ++ [(c, .slice (some ⟨g, 0, none⟩) 1 cp, ck)]) (ck + 1) Sm Wd (upF F c i) := by
  have hsz := h.sz
  obtain ⟨l1, l2, l3, l4⟩ := h.low (hb s0 (by omega) (by omega)) (hb (s0 + 3) (by omega) (by omega))
  have e2 := hb (s0 + 2) (by omega) (by omega)
  have hlt : ∀ v ∈ v3 :: v4 :: M.map (·.2.1), ∀ g, vb v = some g → g < W.heap.size := fun v hv g e => (h.obj v hv g e).2.1
  have keepv : ∀ u ∈ v3 :: v4 :: M.map (·.2.1), ∀ x, vb u = some x → W'.heap[x]? = W.heap[x]? := fun u hu x e => hb x (hlt u hu x e) (by have := (h.obj u hu x e).1; omega)
  have hnew : ∀ u ∈ v3 :: v4 :: M.map (·.2.1), NoSh u (.slice (some ⟨g, 0, none⟩) 1 cp) := fun u hu x e e' => by
    have ex : g = x := by simpa [vb] using e'
    have := hlt u hu x e
    omega
  exact
  { g6 := h.g6.same (heap_cell_eq e2) (heap_frozen_eq e2)
    cg := l1
    spS := l2
    spX := l3
    spF := l4
    o3 := h.o3.heap (keepv v3 (by simp))
    n3 := h.n3
    o4 := h.o4.heap (keepv v4 (by simp))
    n4 := h.n4
    mp := hm
    keys := by
      rw [List.map_append, List.nodup_append]
      refine ⟨h.keys, by simp, fun a ha b hb2 e => ?_⟩
      obtain ⟨m, hm', rfl⟩ := List.mem_map.1 ha
      simp only [List.map_cons, List.map_nil, List.mem_cons, List.not_mem_nil, or_false] at hb2
      exact hc m hm' (e.trans hb2)
    born := by
      rw [List.map_append, List.nodup_append]
      refine ⟨h.born, by simp, fun a ha b hb2 e => ?_⟩
      obtain ⟨m, hm', rfl⟩ := List.mem_map.1 ha
      simp only [List.map_cons, List.map_nil, List.mem_cons, List.not_mem_nil, or_false] at hb2
      have := h.bornlt m hm'
      omega
    bornlt := fun m hm' => by
      rcases List.mem_append.1 hm' with e | e
      · have := h.bornlt m e; omega
      · simp only [List.mem_cons, List.not_mem_nil, or_false] at e
        rw [e]; exact Nat.lt_succ_self _
    om := fun m hm' => by
      rcases List.mem_append.1 hm' with e | e
      · rw [upF, if_neg (hc m e)]
        exact ⟨(h.om m e).1.heap (keepv m.2.1 (by simp only [List.mem_cons, List.mem_map]; exact .inr (.inr ⟨m, e, rfl⟩))), (h.om m e).2⟩
      · simp only [List.mem_cons, List.not_mem_nil, or_false] at e
        rw [e]
        show OwnR 1 (s0 + 4) W' (.slice (some ⟨g, 0, none⟩) 1 cp) (upF F c i c).length (iRow (upF F c i c)) ∧ upF F c i c ≠ []
        rw [upF, if_pos rfl, hF]
        exact ⟨hO, by simp⟩
    hasF := fun c' hc' => by
      by_cases e : c' = c
      · exact ⟨_, List.mem_append_right _ (List.mem_singleton.2 rfl), e.symm⟩
      · rw [upF, if_neg e] at hc'
        obtain ⟨m, hm', hmc⟩ := h.hasF c' hc'
        exact ⟨m, List.mem_append_left _ hm', hmc⟩
    apart := by
      have : v3 :: v4 :: (M ++ [(c, (.slice (some ⟨g, 0, none⟩) 1 cp : Value), ck)]).map (·.2.1) = (v3 :: v4 :: M.map (·.2.1)) ++ [.slice (some ⟨g, 0, none⟩) 1 cp] := by
        rw [List.map_append]; rfl
      rw [this, List.pairwise_append]
      refine ⟨h.apart, by simp, fun a ha b hb2 => ?_⟩
      simp only [List.mem_cons, List.not_mem_nil, or_false] at hb2
      rw [hb2]; exact hnew a ha
    sz := Nat.le_trans hsz hs }
end
end Go.Proofs.Ytekhnolpgoejdab
