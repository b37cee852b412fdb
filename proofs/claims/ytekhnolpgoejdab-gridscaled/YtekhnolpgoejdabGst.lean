/-
  Plain facts on floats, more: rounding to the nearest rung, sums and products of finite floats, signs turned. No program is named here.
-/
import Derived.Test.YtekhnolpgoejdabGmap
import Derived.Test.YtekhnolpgoejdabSwh
import Derived.Test.YtekhnolpgoejdabApps
import Derived.Test.YtekhnolpgoejdabMulti
import Derived.RangeFuncBox
namespace Go.Proofs.Ytekhnolpgoejdab
open Ieee Go.RowKit
set_option linter.unusedSimpArgs false
set_option linter.unusedVariables false

/-! ### The ground: a struct of six fields; what lies below N but that struct stays -/
structure Sta (N : Nat) (K : Nat → Prop) (w w' : World) : Prop where
  os : w'.os = w.os
  tape : w'.tape = w.tape
  output : w'.output = w.output
  size : w.heap.size ≤ w'.heap.size
  block : ∀ k, k < N → ¬ K k → w'.heap[k]? = w.heap[k]?
theorem Sta.refl (N : Nat) (K : Nat → Prop) (w : World) : Sta N K w w := ⟨rfl, rfl, rfl, Nat.le_refl _, fun _ _ _ => rfl⟩
theorem Sta.trans {N : Nat} {K : Nat → Prop} {a b c : World} (h : Sta N K a b) (k : Sta N K b c) : Sta N K a c :=
  ⟨k.os.trans h.os, k.tape.trans h.tape, k.output.trans h.output, Nat.le_trans h.size k.size, fun i hi hk => (k.block i hi hk).trans (h.block i hi hk)⟩
theorem Sta.of_below {N : Nat} {K : Nat → Prop} {a b : World} (h : Below N a b) : Sta N K a b := ⟨h.os, h.tape, h.output, h.size, fun k hk _ => h.block k hk⟩
theorem Sta.of_bel {N : Nat} {K : Nat → Prop} {a b : World} (h : Bel a b) (hN : N ≤ a.heap.size) : Sta N K a b := Sta.of_below (h.1.mono hN)
theorem Sta.low {N : Nat} {K : Nat → Prop} {a b : World} (h : Sta N K a b) {B : Nat} (hB : B ≤ N) (hK : ∀ k, K k → B ≤ k) : Below B a b := ⟨h.os, h.tape, h.output, h.size, fun k hk => h.block k (by omega) (fun hh => by have := hK k hh; omega)⟩
theorem Sta.cell {N : Nat} {K : Nat → Prop} {a b : World} (h : Sta N K a b) {k o : Nat} (hk : k < N) (hn : ¬ K k) : b.cell? ⟨k, o, none⟩ = a.cell? ⟨k, o, none⟩ := by
  simp only [World.cell?, h.block k hk hn]
theorem Sta.frozen {N : Nat} {K : Nat → Prop} {a b : World} (h : Sta N K a b) {k o : Nat} (hk : k < N) (hn : ¬ K k) : b.frozen? ⟨k, o, none⟩ = a.frozen? ⟨k, o, none⟩ := by
  simp only [World.frozen?, h.block k hk hn]
theorem Sta.mono {N : Nat} {K K' : Nat → Prop} {a b : World} (h : Sta N K a b) (hK : ∀ k, K k → K' k) : Sta N K' a b := ⟨h.os, h.tape, h.output, h.size, fun k hk hn => h.block k hk (fun hh => hn (hK k hh))⟩
theorem Sta.set {N : Nat} {K : Nat → Prop} {a b : World} (h : Sta N K a b) {p : Addr} (hp : K p.block) (v : Value) : Sta N K a (b.setCell p v) := by
  have h2 := (Below.refl 0 b).setCell (p := p) (Nat.zero_le _) v
  refine ⟨h2.os.trans h.os, h2.tape.trans h.tape, h2.output.trans h.output, Nat.le_trans h.size h2.size, fun k hk hn => ?_⟩
  rw [← h.block k hk hn]
  have hne : p.block ≠ k := fun e => hn (e ▸ hp)
  unfold World.setCell
  split <;> (show (Array.modify _ _ _)[k]? = _; rw [Array.getElem?_modify, if_neg hne])
theorem below_frozen {B : Nat} {a b : World} (h : Below B a b) {k o : Nat} (hk : k < B) : b.frozen? ⟨k, o, none⟩ = a.frozen? ⟨k, o, none⟩ := by
  simp only [World.frozen?, h.block k hk]
theorem below_cell {B : Nat} {a b : World} (h : Below B a b) {k o : Nat} (hk : k < B) : b.cell? ⟨k, o, none⟩ = a.cell? ⟨k, o, none⟩ := by
  simp only [World.cell?, h.block k hk]
/-- the six fields as they lie -/
structure G6 (w : World) (gb : Nat) (v0 v1 v2 v3 v4 v5 : Value) : Prop where
  c0 : w.cell? ⟨gb, 0, none⟩ = some v0
  c1 : w.cell? ⟨gb, 1, none⟩ = some v1
  c2 : w.cell? ⟨gb, 2, none⟩ = some v2
  c3 : w.cell? ⟨gb, 3, none⟩ = some v3
  c4 : w.cell? ⟨gb, 4, none⟩ = some v4
  c5 : w.cell? ⟨gb, 5, none⟩ = some v5
  fr : ∀ o, w.frozen? ⟨gb, o, none⟩ = false
theorem G6.same {w w' : World} {gb : Nat} {v0 v1 v2 v3 v4 v5 : Value} (h : G6 w gb v0 v1 v2 v3 v4 v5) (hc : ∀ o, w'.cell? ⟨gb, o, none⟩ = w.cell? ⟨gb, o, none⟩) (hf : ∀ o, w'.frozen? ⟨gb, o, none⟩ = w.frozen? ⟨gb, o, none⟩) : G6 w' gb v0 v1 v2 v3 v4 v5 :=
  ⟨(hc 0).trans h.c0, (hc 1).trans h.c1, (hc 2).trans h.c2, (hc 3).trans h.c3, (hc 4).trans h.c4, (hc 5).trans h.c5, fun o => (hf o).trans (h.fr o)⟩
theorem G6.lt {w : World} {gb : Nat} {v0 v1 v2 v3 v4 v5 : Value} (h : G6 w gb v0 v1 v2 v3 v4 v5) : gb < w.heap.size := World.block_lt_of_cell? _ _ h.c0
theorem G6.below {w w' : World} {gb B : Nat} {v0 v1 v2 v3 v4 v5 : Value} (h : G6 w gb v0 v1 v2 v3 v4 v5) (b : Below B w w') (hb : gb < B) : G6 w' gb v0 v1 v2 v3 v4 v5 := h.same (fun _ => below_cell b hb) (fun _ => below_frozen b hb)
theorem G6.bel {w w' : World} {gb : Nat} {v0 v1 v2 v3 v4 v5 : Value} (h : G6 w gb v0 v1 v2 v3 v4 v5) (b : Bel w w') : G6 w' gb v0 v1 v2 v3 v4 v5 := h.below b.1 h.lt
theorem G6.set5 {w : World} {gb : Nat} {v0 v1 v2 v3 v4 v5 : Value} (h : G6 w gb v0 v1 v2 v3 v4 v5) (v : Value) : G6 (w.setCell ⟨gb, 5, none⟩ v) gb v0 v1 v2 v3 v4 v := by
  have ne : ∀ o, o ≠ 5 → (w.setCell ⟨gb, 5, none⟩ v).cell? ⟨gb, o, none⟩ = w.cell? ⟨gb, o, none⟩ := fun o ho => set_away (fun e => ho e.symm)
  exact ⟨(ne 0 (by decide)).trans h.c0, (ne 1 (by decide)).trans h.c1, (ne 2 (by decide)).trans h.c2, (ne 3 (by decide)).trans h.c3, (ne 4 (by decide)).trans h.c4, World.cell?_setCell_same' _ _ _ (by rw [h.c5]; rfl), fun o => (World.frozen?_setCell _ _ _ _).trans (h.fr o)⟩
/-- a row of numbers, as it lies below N -/
def RowN (w : World) (N : Nat) (K : Nat → Prop) (sa : Option Addr) (R : List Nat) : Prop := R = [] ∨ ∃ g o, sa = some ⟨g, o, none⟩ ∧ g < N ∧ ¬ K g ∧ Is w g o R
theorem RowN.sta {w w' : World} {N : Nat} {K : Nat → Prop} {sa : Option Addr} {R : List Nat} (h : RowN w N K sa R) (s : Sta N K w w') : RowN w' N K sa R := by
  rcases h with h | ⟨g, o, e, hg, hk, h⟩
  · exact .inl h
  · exact .inr ⟨g, o, e, hg, hk, fun k r hr => (s.cell hg hk).trans (h k r hr)⟩
/-- the boxes, below N -/
def BoxN (w : World) (N : Nat) (K : Nat → Prop) (sa : Option Addr) (n : Nat) (B : Nat → Bo) : Prop := n = 0 ∨ ∃ b off, sa = some ⟨b, off, none⟩ ∧ b < N ∧ ¬ K b ∧ Bs w b off n B
theorem BoxN.sta {w w' : World} {N : Nat} {K : Nat → Prop} {sa : Option Addr} {n : Nat} {B : Nat → Bo} (h : BoxN w N K sa n B) (s : Sta N K w w') : BoxN w' N K sa n B := by
  rcases h with h | ⟨b, off, e, hb, hk, h⟩
  · exact .inl h
  · refine .inr ⟨b, off, e, hb, hk, fun i hi => ?_⟩
    obtain ⟨h1, h2, h3, h4⟩ := h i hi
    exact ⟨(s.cell hb hk).trans h1, (s.cell hb hk).trans h2, (s.cell hb hk).trans h3, (s.cell hb hk).trans h4⟩
theorem OwnR.same {sz base : Nat} {w w' : World} {v : Value} {n : Nat} {R : List Value} (h : OwnR sz base w v n R) (hc : ∀ g o, base ≤ g → w'.cell? ⟨g, o, none⟩ = w.cell? ⟨g, o, none⟩) (hf : ∀ g o, base ≤ g → w'.frozen? ⟨g, o, none⟩ = w.frozen? ⟨g, o, none⟩) : OwnR sz base w' v n R := by
  refine ⟨h.1, ?_⟩
  rcases h.2 with h2 | ⟨g, cap, e, h1, h2, h3, h4, h5, h6⟩
  · exact .inl h2
  · exact .inr ⟨g, cap, e, h1, h2, h3, fun j u hj => (hc _ _ h1).trans (h4 j u hj), fun j hj => by rw [hc _ _ h1]; exact h5 j hj, fun o => (hf _ _ h1).trans (h6 o)⟩
theorem OwnR.set {sz base : Nat} {w : World} {v : Value} {n : Nat} {R : List Value} (h : OwnR sz base w v n R) {c o : Nat} (hc : c < base) (x : Value) : OwnR sz base (w.setCell ⟨c, o, none⟩ x) v n R :=
  h.same (fun g o' hg => set_block (by omega)) (fun g o' _ => World.frozen?_setCell _ _ _ _)
/-- the pairs of a box and others -/
def pwL (B : Nat → Bo) (i : Nat) (R : List Nat) : List (Nat × Nat) := (R.filter fun k => ovO (B i) (B k)).map fun k => (min i k, max i k)
theorem pwL_snoc (B : Nat → Bo) (i k : Nat) (R : List Nat) : pwL B i (R ++ [k]) = pwL B i R ++ (if ovO (B i) (B k) then [(min i k, max i k)] else []) := by
  unfold pwL
  rw [List.filter_append, List.map_append]
  congr 1
  cases h : ovO (B i) (B k) <;> simp [h]
theorem pwL_len (B : Nat → Bo) (i : Nat) (R : List Nat) : (pwL B i R).length ≤ R.length := by
  unfold pwL; rw [List.length_map]; exact List.length_filter_le _ _
theorem take_snoc {R : List Nat} {t x : Nat} (h : R[t]? = some x) : R.take (t + 1) = R.take t ++ [x] := by
  rw [List.take_add_one, h]; rfl
end Go.Proofs.Ytekhnolpgoejdab
