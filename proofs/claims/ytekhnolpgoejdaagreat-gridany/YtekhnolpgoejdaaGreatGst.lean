/-
  Plain facts that go together.
-/
import Derived.Test.YtekhnolpgoejdaaGreatGmap
import Derived.Test.YtekhnolpgoejdaaGreatSwt
import Derived.Test.YtekhnolpgoejdaaGreatApps
import Derived.Test.YtekhnolpgoejdaaGreatMulti
import Derived.RangeFuncBox
import Derived.Laws.AppendOwn
import Derived.Laws.IdiomCopy
import Derived.OwnWalk
import Derived.WideShapes
namespace Go.Proofs.YtekhnolpgoejdaaGreat
open Ieee Go.RowKit
set_option linter.unusedSimpArgs false
set_option linter.unusedVariables false

/-! ### The ground: a struct of six fields; what lies below N but that struct stays -/
structure Sta (N : Nat) (K : Nat → Prop) (w w' : World) : Prop where
  os : w'.os = w.os
  tape : w'.tape = w.tape
  output : w'.output = w.output
  size : w.heap.size ≤ w'.heap.size
  block : ∀ k, k < N → ¬ K k → w'.heap[k]? = w.heap[k]?
theorem Sta.refl (N : Nat) (K : Nat → Prop) (w : World) : Sta N K w w := ⟨rfl, rfl, rfl, Nat.le_refl _, fun _ _ _ => rfl⟩
theorem Sta.trans {N : Nat} {K : Nat → Prop} {a b c : World} (h : Sta N K a b) (k : Sta N K b c) : Sta N K a c :=
  ⟨k.os.trans h.os, k.tape.trans h.tape, k.output.trans h.output, Nat.le_trans h.size k.size, fun i hi hk => (k.block i hi hk).trans (h.block i hi hk)⟩
theorem Sta.of_below {N : Nat} {K : Nat → Prop} {a b : World} (h : Below N a b) : Sta N K a b := ⟨h.os, h.tape, h.output, h.size, fun k hk _ => h.block k hk⟩
theorem Sta.of_bel {N : Nat} {K : Nat → Prop} {a b : World} (h : Bel a b) (hN : N ≤ a.heap.size) : Sta N K a b := Sta.of_below (h.1.mono hN)
theorem Sta.low {N : Nat} {K : Nat → Prop} {a b : World} (h : Sta N K a b) {B : Nat} (hB : B ≤ N) (hK : ∀ k, K k → B ≤ k) : Below B a b := ⟨h.os, h.tape, h.output, h.size, fun k hk => h.block k (by omega) (fun hh => by have := hK k hh; omega)⟩
theorem Sta.cell {N : Nat} {K : Nat → Prop} {a b : World} (h : Sta N K a b) {k o : Nat} (hk : k < N) (hn : ¬ K k) : b.cell? ⟨k, o, none⟩ = a.cell? ⟨k, o, none⟩ := by
  simp only [World.cell?, h.block k hk hn]
theorem Sta.frozen {N : Nat} {K : Nat → Prop} {a b : World} (h : Sta N K a b) {k o : Nat} (hk : k < N) (hn : ¬ K k) : b.frozen? ⟨k, o, none⟩ = a.frozen? ⟨k, o, none⟩ := by
  simp only [World.frozen?, h.block k hk hn]
theorem Sta.mono {N : Nat} {K K' : Nat → Prop} {a b : World} (h : Sta N K a b) (hK : ∀ k, K k → K' k) : Sta N K' a b := ⟨h.os, h.tape, h.output, h.size, fun k hk hn => h.block k hk (fun hh => hn (hK k hh))⟩
theorem Sta.set {N : Nat} {K : Nat → Prop} {a b : World} (h : Sta N K a b) {p : Addr} (hp : K p.block) (v : Value) : Sta N K a (b.setCell p v) := by
  have h2 := (Below.refl 0 b).setCell (p := p) (Nat.zero_le _) v
  refine ⟨h2.os.trans h.os, h2.tape.trans h.tape, h2.output.trans h.output, Nat.le_trans h.size h2.size, fun k hk hn => ?_⟩
  rw [← h.block k hk hn]
  have hne : p.block ≠ k := fun e => hn (e ▸ hp)
  unfold World.setCell
  split <;> (show (Array.modify _ _ _)[k]? = _; rw [Array.getElem?_modify, if_neg hne])
theorem below_frozen {B : Nat} {a b : World} (h : Below B a b) {k o : Nat} (hk : k < B) : b.frozen? ⟨k, o, none⟩ = a.frozen? ⟨k, o, none⟩ := by
  simp only [World.frozen?, h.block k hk]
theorem below_cell {B : Nat} {a b : World} (h : Below B a b) {k o : Nat} (hk : k < B) : b.cell? ⟨k, o, none⟩ = a.cell? ⟨k, o, none⟩ := by
  simp only [World.cell?, h.block k hk]
/-- the six fields as they lie -/
structure G6 (w : World) (gb : Nat) (v0 v1 v2 v3 v4 v5 : Value) : Prop where
  c0 : w.cell? ⟨gb, 0, none⟩ = some v0
  c1 : w.cell? ⟨gb, 1, none⟩ = some v1
  c2 : w.cell? ⟨gb, 2, none⟩ = some v2
  c3 : w.cell? ⟨gb, 3, none⟩ = some v3
  c4 : w.cell? ⟨gb, 4, none⟩ = some v4
  c5 : w.cell? ⟨gb, 5, none⟩ = some v5
  fr : ∀ o, w.frozen? ⟨gb, o, none⟩ = false
theorem G6.same {w w' : World} {gb : Nat} {v0 v1 v2 v3 v4 v5 : Value} (h : G6 w gb v0 v1 v2 v3 v4 v5) (hc : ∀ o, w'.cell? ⟨gb, o, none⟩ = w.cell? ⟨gb, o, none⟩) (hf : ∀ o, w'.frozen? ⟨gb, o, none⟩ = w.frozen? ⟨gb, o, none⟩) : G6 w' gb v0 v1 v2 v3 v4 v5 :=
  ⟨(hc 0).trans h.c0, (hc 1).trans h.c1, (hc 2).trans h.c2, (hc 3).trans h.c3, (hc 4).trans h.c4, (hc 5).trans h.c5, fun o => (hf o).trans (h.fr o)⟩
theorem G6.lt {w : World} {gb : Nat} {v0 v1 v2 v3 v4 v5 : Value} (h : G6 w gb v0 v1 v2 v3 v4 v5) : gb < w.heap.size := World.block_lt_of_cell? _ _ h.c0
theorem G6.below {w w' : World} {gb B : Nat} {v0 v1 v2 v3 v4 v5 : Value} (h : G6 w gb v0 v1 v2 v3 v4 v5) (b : Below B w w') (hb : gb < B) : G6 w' gb v0 v1 v2 v3 v4 v5 := h.same (fun _ => below_cell b hb) (fun _ => below_frozen b hb)
theorem G6.bel {w w' : World} {gb : Nat} {v0 v1 v2 v3 v4 v5 : Value} (h : G6 w gb v0 v1 v2 v3 v4 v5) (b : Bel w w') : G6 w' gb v0 v1 v2 v3 v4 v5 := h.below b.1 h.lt
theorem G6.set5 {w : World} {gb : Nat} {v0 v1 v2 v3 v4 v5 : Value} (h : G6 w gb v0 v1 v2 v3 v4 v5) (v : Value) : G6 (w.setCell ⟨gb, 5, none⟩ v) gb v0 v1 v2 v3 v4 v := by
  have ne : ∀ o, o ≠ 5 → (w.setCell ⟨gb, 5, none⟩ v).cell? ⟨gb, o, none⟩ = w.cell? ⟨gb, o, none⟩ := fun o ho => set_away (fun e => ho e.symm)
  exact ⟨(ne 0 (by decide)).trans h.c0, (ne 1 (by decide)).trans h.c1, (ne 2 (by decide)).trans h.c2, (ne 3 (by decide)).trans h.c3, (ne 4 (by decide)).trans h.c4, World.cell?_setCell_same' _ _ _ (by rw [h.c5]; rfl), fun o => (World.frozen?_setCell _ _ _ _).trans (h.fr o)⟩
/-- a row of numbers, as it lies below N -/
def RowN (w : World) (N : Nat) (K : Nat → Prop) (sa : Option Addr) (R : List Nat) : Prop := R = [] ∨ ∃ g o, sa = some ⟨g, o, none⟩ ∧ g < N ∧ ¬ K g ∧ Is w g o R
theorem RowN.sta {w w' : World} {N : Nat} {K : Nat → Prop} {sa : Option Addr} {R : List Nat} (h : RowN w N K sa R) (s : Sta N K w w') : RowN w' N K sa R := by
  rcases h with h | ⟨g, o, e, hg, hk, h⟩
  · exact .inl h
  · exact .inr ⟨g, o, e, hg, hk, fun k r hr => (s.cell hg hk).trans (h k r hr)⟩
/-- the boxes, below N -/
def BoxN (w : World) (N : Nat) (K : Nat → Prop) (sa : Option Addr) (n : Nat) (B : Nat → Bo) : Prop := n = 0 ∨ ∃ b off, sa = some ⟨b, off, none⟩ ∧ b < N ∧ ¬ K b ∧ Bs w b off n B
theorem BoxN.sta {w w' : World} {N : Nat} {K : Nat → Prop} {sa : Option Addr} {n : Nat} {B : Nat → Bo} (h : BoxN w N K sa n B) (s : Sta N K w w') : BoxN w' N K sa n B := by
  rcases h with h | ⟨b, off, e, hb, hk, h⟩
  · exact .inl h
  · refine .inr ⟨b, off, e, hb, hk, fun i hi => ?_⟩
    obtain ⟨h1, h2, h3, h4⟩ := h i hi
    exact ⟨(s.cell hb hk).trans h1, (s.cell hb hk).trans h2, (s.cell hb hk).trans h3, (s.cell hb hk).trans h4⟩
theorem OwnR.same {sz base : Nat} {w w' : World} {v : Value} {n : Nat} {R : List Value} (h : OwnR sz base w v n R) (hc : ∀ g o, base ≤ g → w'.cell? ⟨g, o, none⟩ = w.cell? ⟨g, o, none⟩) (hf : ∀ g o, base ≤ g → w'.frozen? ⟨g, o, none⟩ = w.frozen? ⟨g, o, none⟩) : OwnR sz base w' v n R := by
  refine ⟨h.1, ?_⟩
  rcases h.2 with h2 | ⟨g, cap, e, h1, h2, h3, h4, h5, h6⟩
  · exact .inl h2
  · exact .inr ⟨g, cap, e, h1, h2, h3, fun j u hj => (hc _ _ h1).trans (h4 j u hj), fun j hj => by rw [hc _ _ h1]; exact h5 j hj, fun o => (hf _ _ h1).trans (h6 o)⟩
theorem OwnR.set {sz base : Nat} {w : World} {v : Value} {n : Nat} {R : List Value} (h : OwnR sz base w v n R) {c o : Nat} (hc : c < base) (x : Value) : OwnR sz base (w.setCell ⟨c, o, none⟩ x) v n R :=
  h.same (fun g o' hg => set_block (by omega)) (fun g o' _ => World.frozen?_setCell _ _ _ _)
/-- the pairs of a box and others -/
def pwL (B : Nat → Bo) (i : Nat) (R : List Nat) : List (Nat × Nat) := (R.filter fun k => ovO (B i) (B k)).map fun k => (min i k, max i k)
theorem pwL_snoc (B : Nat → Bo) (i k : Nat) (R : List Nat) : pwL B i (R ++ [k]) = pwL B i R ++ (if ovO (B i) (B k) then [(min i k, max i k)] else []) := by
  unfold pwL
  rw [List.filter_append, List.map_append]
  congr 1
  cases h : ovO (B i) (B k) <;> simp [h]
theorem pwL_len (B : Nat → Bo) (i : Nat) (R : List Nat) : (pwL B i R).length ≤ R.length := by
  unfold pwL; rw [List.length_map]; exact List.length_filter_le _ _
theorem take_snoc {R : List Nat} {t x : Nat} (h : R[t]? = some x) : R.take (t + 1) = R.take t ++ [x] := by
  rw [List.take_add_one, h]; rfl
end Go.Proofs.YtekhnolpgoejdaaGreat

namespace Go.Proofs.YtekhnolpgoejdaaGreat
open Ieee Go.RowKit
set_option linter.unusedSimpArgs false
set_option linter.unusedVariables false

/-! ### The pairs of wide boxes -/
def wdL (B : Nat → Bo) (Wd Sm : List Nat) : Nat → List (Nat × Nat)
  | 0 => []
  | t + 1 => wdL B Wd Sm t ++ (match Wd[t]? with | some i => pwL B i (Wd.drop (t + 1)) ++ pwL B i Sm | none => [])
theorem wdL_at {B : Nat → Bo} {Wd Sm : List Nat} {t i : Nat} (h : Wd[t]? = some i) : wdL B Wd Sm (t + 1) = (wdL B Wd Sm t ++ pwL B i (Wd.drop (t + 1))) ++ pwL B i Sm := by
  rw [wdL, h, List.append_assoc]
theorem wdL_len {B : Nat → Bo} {Wd Sm : List Nat} : ∀ t, (wdL B Wd Sm t).length ≤ t * (Wd.length + Sm.length)
  | 0 => by simp [wdL]
  | t + 1 => by
    have ih := wdL_len (B := B) (Wd := Wd) (Sm := Sm) t
    rw [wdL, List.length_append, Nat.add_mul, Nat.one_mul]
    have : (match Wd[t]? with | some i => pwL B i (Wd.drop (t + 1)) ++ pwL B i Sm | none => []).length ≤ Wd.length + Sm.length := by
      split
      · rw [List.length_append]
        rename_i i _
        have h1 := pwL_len B i (Wd.drop (t + 1))
        have h2 := pwL_len B i Sm
        rw [List.length_drop] at h1
        omega
      · simp
    omega
theorem RowN.drop {w : World} {N : Nat} {K : Nat → Prop} {g o : Nat} {R : List Nat} (h : RowN w N K (some ⟨g, o, none⟩) R) (j : Nat) : RowN w N K (some ⟨g, o + j, none⟩) (R.drop j) := by
  rcases h with h | ⟨g', o', e, hg, hk, h⟩
  · left; rw [h]; simp
  · cases e; exact .inr ⟨g, o + j, rfl, hg, hk, h.drop j⟩
end Go.Proofs.YtekhnolpgoejdaaGreat

namespace Go.Proofs.YtekhnolpgoejdaaGreat
open Ieee Go.RowKit
set_option linter.unusedSimpArgs false
set_option linter.unusedVariables false

/-! ### The pairs of a cell -/
abbrev Sp4 := (Int × Int) × (Int × Int)
def firstC (a b : Sp4) : Int × Int := (max a.1.1 b.1.1, max a.1.2 b.1.2)
def cpL (B : Nat → Bo) (S : Nat → Sp4) (c : Ce) (i : Nat) (R : List Nat) : List (Nat × Nat) := (R.filter fun k => ovO (B i) (B k) && decide (firstC (S i) (S k) = c)).map fun k => (i, k)
def ccL (B : Nat → Bo) (S : Nat → Sp4) (c : Ce) (R : List Nat) : Nat → List (Nat × Nat)
  | 0 => []
  | t + 1 => ccL B S c R t ++ (match R[t]? with | some i => cpL B S c i (R.drop (t + 1)) | none => [])
theorem ccL_at {B : Nat → Bo} {S : Nat → Sp4} {c : Ce} {R : List Nat} {t i : Nat} (h : R[t]? = some i) : ccL B S c R (t + 1) = ccL B S c R t ++ cpL B S c i (R.drop (t + 1)) := by rw [ccL, h]
theorem cpL_snoc (B : Nat → Bo) (S : Nat → Sp4) (c : Ce) (i k : Nat) (R : List Nat) : cpL B S c i (R ++ [k]) = cpL B S c i R ++ (if ovO (B i) (B k) && decide (firstC (S i) (S k) = c) then [(i, k)] else []) := by
  unfold cpL
  rw [List.filter_append, List.map_append]
  congr 1
  cases h : (ovO (B i) (B k) && decide (firstC (S i) (S k) = c)) <;> simp [h]
theorem cpL_pre {B : Nat → Bo} {S : Nat → Sp4} {c : Ce} {i : Nat} {R : List Nat} (t : Nat) : (cpL B S c i (R.take t)).length ≤ (cpL B S c i R).length := by
  unfold cpL
  rw [List.length_map, List.length_map]
  exact List.Sublist.length_le (List.Sublist.filter _ (List.take_sublist t R))
theorem ccL_pre {B : Nat → Bo} {S : Nat → Sp4} {c : Ce} {R : List Nat} : ∀ {t m : Nat}, t ≤ m → (ccL B S c R t).length ≤ (ccL B S c R m).length
  | t, 0, h => by rw [show t = 0 by omega]; exact Nat.le_refl _
  | t, m + 1, h => by
    rcases Nat.lt_or_ge t (m + 1) with h' | h'
    · have := ccL_pre (B := B) (S := S) (c := c) (R := R) (show t ≤ m by omega)
      rw [ccL, List.length_append]; omega
    · rw [show t = m + 1 by omega]; exact Nat.le_refl _
/-- spans of those that lie -/
def SpS (w : World) (sb : Nat) (S : Nat → Sp4) (V : Nat → Bool) (n : Nat) : Prop := ∀ i, i < n → V i = true → w.cell? ⟨sb, i * 4, none⟩ = some (.int .i64 (S i).1.1) ∧ w.cell? ⟨sb, i * 4 + 1, none⟩ = some (.int .i64 (S i).1.2) ∧ w.cell? ⟨sb, i * 4 + 2, none⟩ = some (.int .i64 (S i).2.1) ∧ w.cell? ⟨sb, i * 4 + 3, none⟩ = some (.int .i64 (S i).2.2)
theorem SpS.sta {w w' : World} {N sb n : Nat} {K : Nat → Prop} {S : Nat → Sp4} {V : Nat → Bool} (h : SpS w sb S V n) (s : Sta N K w w') (hs : sb < N) (hk : ¬ K sb) : SpS w' sb S V n := fun i hi hv => by
  obtain ⟨h1, h2, h3, h4⟩ := h i hi hv
  exact ⟨(s.cell hs hk).trans h1, (s.cell hs hk).trans h2, (s.cell hs hk).trans h3, (s.cell hs hk).trans h4⟩
theorem SpS.bel {w w' : World} {sb n : Nat} {S : Nat → Sp4} {V : Nat → Bool} (h : SpS w sb S V n) (b : Bel w w') : SpS w' sb S V n := fun i hi hv => by
  obtain ⟨h1, h2, h3, h4⟩ := h i hi hv
  exact ⟨keepB b h1, keepB b h2, keepB b h3, keepB b h4⟩
end Go.Proofs.YtekhnolpgoejdaaGreat

namespace Go.Proofs.YtekhnolpgoejdaaGreat
open Ieee Go.RowKit Go.WideShapes
set_option linter.unusedSimpArgs false
set_option linter.unusedVariables false

/-! ### append: all but the row's own block stays, whatever it is -/
def vb : Value → Option Nat
  | .slice (some a) _ _ => some a.block
  | _ => none
structure Oh (v : Value) (w w' : World) : Prop where
  os : w'.os = w.os
  tape : w'.tape = w.tape
  output : w'.output = w.output
  size : w.heap.size ≤ w'.heap.size
  block : ∀ k, k < w.heap.size → vb v ≠ some k → w'.heap[k]? = w.heap[k]?
theorem oh_new (v : Value) (w : World) (cs : Array Value) (e : TypeId) : Oh v w (w.drew.alloc (.cells cs e)) := by
  have h := (Below.refl w.heap.size w).drew.alloc (Nat.le_refl _) (.cells cs e)
  exact ⟨h.os, h.tape, h.output, h.size, fun k hk _ => h.block k hk⟩
theorem heap_sets (g : Nat) : ∀ (vs : List Value) (o : Nat) (w : World) (k : Nat), k ≠ g → (w.setCells g o vs).heap[k]? = w.heap[k]? := by
  intro vs
  induction vs with
  | nil => intro o w k _; rfl
  | cons u vs ih =>
    intro o w k hk
    rw [World.setCells, ih _ _ _ hk]
    exact Below.heap_setCell w _ _ k hk
theorem oh_sets (g cap n o : Nat) (vs : List Value) (w : World) : Oh (.slice (some ⟨g, 0, none⟩) n cap) w (w.setCells g o vs) := by
  have h := low_sets vs o w (Nat.zero_le g)
  exact ⟨h.os, h.tape, h.output, h.size, fun k hk hn => heap_sets g vs o w k (fun e => hn (by rw [e]; rfl))⟩
theorem run_appU {P : Program} {sz by_ base : Nat} {w : World} {v z : Value} {n : Nat} {R N : List Value} (t ty e : TypeId) (ht : P.underlying t = some (.slice e)) (hinf : (P.info? e).map (fun i => (i.zero, i.size, i.bytes)) = some (some z, sz, by_)) (hzc : z.cells.size = sz)
    (a ao m c : Nat) (h : OwnR sz base w v n R) (hN : N.length = m * sz) (hs : Rw w a ao N) (h1 : ∀ u ∈ N, u.oneCell' = true) (hm : 0 < m) (hb : base ≤ w.heap.size) (hml : n + m ≤ maxLen) (hr : (n + m) * by_ ≤ 140737488355328) :
    ∃ v' w', (Builtin.append_ #[t, t] ty #[v, .slice (some ⟨a, ao, none⟩) m c]).run P w = .ok v' w' ∧ OwnR sz base w' v' (n + m) (R ++ N) ∧ (∃ g cap, v' = .slice (some ⟨g, 0, none⟩) (n + m) cap ∧ (w.heap.size ≤ g ∨ ∃ cp, v = .slice (some ⟨g, 0, none⟩) n cp)) ∧ Oh v w w' := by
  obtain ⟨i0, hi, hz0, hz1, hz2⟩ := info_parts hinf
  have hsr : ∀ j u, N[j]? = some u → w.cell? ((⟨a, ao, none⟩ : Addr).add j) = some u := fun j u hj => by rw [add_plain]; exact hs j u hj
  have hmx : maxLen ≤ 9223372036854775807 := by unfold maxLen; decide
  have zs : ∀ k, (Builtin.zeroCells z.cells k).size = k * sz := fun k => by rw [size_zeroCells, hzc]
  have hRN : (R ++ N).length = (n + m) * sz := by rw [List.length_append, h.1, hN, Nat.add_mul]
  have grown : ∀ old, OwnR sz base (w.drew.alloc (.cells (R.toArray ++ N.toArray ++ Builtin.zeroCells z.cells (grownCap w (n + m) old e - (n + m))) e)) (.slice (some ⟨w.heap.size, 0, none⟩) (n + m) (grownCap w (n + m) old e)) (n + m) (R ++ N) := by
    intro old
    have hge := grownCap_ge w (n + m) old e
    have hcm := grownCap_le_maxLen w (n + m) old e hml
    refine ownR_new (w := w.drew) hRN hb hge hcm ?_ (fun j u hj => ?_)
    · simp only [Array.size_append, List.size_toArray, zs]
      rw [h.1, hN, ← Nat.add_mul, ← Nat.add_mul]
      congr 1
      omega
    · have hjl : j < (R ++ N).length := by
        rcases Nat.lt_or_ge j (R ++ N).length with h' | h'
        · exact h'
        · rw [List.getElem?_eq_none h'] at hj; cases hj
      rw [Array.getElem?_append_left (by simpa using hjl), show R.toArray ++ N.toArray = (R ++ N).toArray by simp, List.getElem?_toArray]
      exact hj
  have ohnew : ∀ cs, Oh v w (w.drew.alloc (.cells cs e)) := fun cs => oh_new v w cs e
  rcases h.2 with ⟨rfl, rfl⟩ | ⟨g, cap, rfl, h1', h2, h3, h4, h5, h6⟩
  · have hR0 : R = [] := by have := h.1; simpa using this
    subst hR0
    have hr' := run_append_nil (P := P) w t ty e i0 z ht hi hz0 ⟨a, ao, none⟩ m c N (by rw [hz1, hN]) hsr hm (by omega) (by rw [hz2]; simp at hr; omega)
    have hg := grown 0
    simp only [Nat.zero_add, List.nil_append] at hg ⊢
    refine ⟨_, _, hr', ?_, ⟨_, _, rfl, .inl (Nat.le_refl _)⟩, ohnew _⟩
    simpa using hg
  · by_cases hroom : n + m ≤ cap
    · have hx : ∀ j, j < N.length → (w.cell? ⟨g, n * sz + j, none⟩).isSome = true := fun j hj => h5 _ (by
        rw [hN] at hj
        have : (n + m) * sz ≤ cap * sz := Nat.mul_le_mul_right _ hroom
        rw [Nat.add_mul] at this
        omega)
      have hf1 := run_firstCells_some (P := P) w sz m ⟨a, ao, none⟩ m c N hN hsr
      have hst := run_storeCells_cells (P := P) g (n * sz) N 0 w (by simpa using hx) (fun j _ => h6 _) h1
      simp only [Nat.add_zero] at hst
      refine ⟨_, w.setCells g (n * sz) N, ?_, ⟨hRN, .inr ⟨g, cap, rfl, h1', hroom, h3, ?_, fun j hj => some_setsR _ _ _ (h5 j hj), fun o => (World.frozen?_setCells g _ _ _ _).trans (h6 o)⟩⟩, ⟨_, _, rfl, .inr ⟨_, rfl⟩⟩, oh_sets g _ _ _ _ w⟩
      · simp [Builtin.append_, run_underlying ht, sizeOf, typeInfo, hi, hz1, Builtin.lenOf, hroom, hf1, add_plain, hst]
      · intro j u hj
        rw [Nat.zero_add]
        by_cases hjn : j < R.length
        · rw [List.getElem?_append_left hjn] at hj
          rw [World.cell?_setCells_out g _ _ _ ⟨g, j, none⟩ (fun _ _ => .inl (by show j < n * sz; rw [← h.1]; exact hjn))]
          have := h4 j u hj
          rwa [Nat.zero_add] at this
        · obtain ⟨q, rfl⟩ : ∃ q, j = R.length + q := ⟨j - R.length, by omega⟩
          rw [List.getElem?_append_right (by omega), Nat.add_sub_cancel_left] at hj
          have hq : q < N.length := by
            rcases Nat.lt_or_ge q N.length with h' | h'
            · exact h'
            · rw [List.getElem?_eq_none h'] at hj; cases hj
          rw [h.1, World.cell?_setCells_in g _ _ w hx q hq]
          rw [List.getElem?_eq_getElem hq] at hj
          exact hj
    · have hr' := run_append_grow (P := P) w t ty e i0 z ht hi hz0 ⟨g, 0, none⟩ n cap R (by rw [hz1]; exact h.1) (fun j u hj => by rw [add_plain]; exact h4 j u hj) ⟨a, ao, none⟩ m c N (by rw [hz1, hN]) hsr (by omega) (by omega) (by rw [hz2]; exact growslice_fits (by omega) hr)
      exact ⟨_, _, hr', grown cap, ⟨_, _, rfl, .inl (Nat.le_refl _)⟩, ohnew _⟩
theorem wpList_appU {P : Program} {sz by_ base : Nat} {w : World} {v z : Value} {n : Nat} {R N : List Value} {ops : Array Oper} {rest : List Oper} {o : Oper} {a : Act} {Q : Exit → Act → World → Prop} (t e : TypeId) (hgd : o.guard = none) (s x : Operand)
    (ho : o.op = .call { callee := .builtin .append, args := #[s, x], argTypes := #[t, t] }) (ht : P.underlying t = some (.slice e)) (hinf : (P.info? e).map (fun i => (i.zero, i.size, i.bytes)) = some (some z, sz, by_)) (hzc : z.cells.size = sz)
    (hv : a.eval s = v) (b ao m c : Nat) (hx : a.eval x = .slice (some ⟨b, ao, none⟩) m c) (h : OwnR sz base w v n R) (hN : N.length = m * sz) (hs : Rw w b ao N) (h1 : ∀ u ∈ N, u.oneCell' = true) (hm : 0 < m) (hb : base ≤ w.heap.size) (hml : n + m ≤ maxLen) (hr : (n + m) * by_ ≤ 140737488355328)
    (hK : ∀ v' w', OwnR sz base w' v' (n + m) (R ++ N) → (∃ g cap, v' = .slice (some ⟨g, 0, none⟩) (n + m) cap ∧ (w.heap.size ≤ g ∨ ∃ cp, v = .slice (some ⟨g, 0, none⟩) n cp)) → Oh v w w' → wpList P ops Q rest (a.put o.dst v') w') : wpList P ops Q (o :: rest) a w := by
  obtain ⟨v', w', hrun, h1', h2, h3⟩ := run_appU t o.type e ht hinf hzc b ao m c h hN hs h1 hm hb hml hr
  refine wpList_plain hgd fun K hK' => ?_
  unfold Oper.wp
  simp [execOp, ho, resolve, invoke, builtin, hv, hx, hrun, Result.andThen]
  exact hK' _ _ (hK v' w' h1' h2 h3)
/-- what a row of its own, that grows, and the struct at gb, may turn: all else stays -/
structure Mov (gb : Nat) (w : World) (v : Value) (w' : World) (u : Value) : Prop where
  os : w'.os = w.os
  tape : w'.tape = w.tape
  output : w'.output = w.output
  size : w.heap.size ≤ w'.heap.size
  block : ∀ k, k < w.heap.size → k ≠ gb → vb v ≠ some k → w'.heap[k]? = w.heap[k]?
  old : ∀ k, k < w.heap.size → vb u = some k → vb v = some k
theorem Mov.refl (gb : Nat) (w : World) (v : Value) : Mov gb w v w v := ⟨rfl, rfl, rfl, Nat.le_refl _, fun _ _ _ _ => rfl, fun _ _ h => h⟩
theorem Mov.trans {gb : Nat} {a b c : World} {u v x : Value} (h : Mov gb a u b v) (k : Mov gb b v c x) : Mov gb a u c x :=
  ⟨k.os.trans h.os, k.tape.trans h.tape, k.output.trans h.output, Nat.le_trans h.size k.size, fun i hi hg hv => (k.block i (Nat.lt_of_lt_of_le hi h.size) hg (fun e => hv (h.old i hi e))).trans (h.block i hi hg hv), fun i hi e => h.old i hi (k.old i (Nat.lt_of_lt_of_le hi h.size) e)⟩
theorem Mov.of_bel {gb : Nat} {a b : World} {v : Value} (h : Bel a b) : Mov gb a v b v := ⟨h.1.os, h.1.tape, h.1.output, h.1.size, fun k hk _ _ => h.1.block k hk, fun _ _ e => e⟩
theorem Mov.of_app {gb : Nat} {w w' : World} {v : Value} {n m g cap : Nat} (h : Oh v w w') (hg : w.heap.size ≤ g ∨ ∃ cp, v = .slice (some ⟨g, 0, none⟩) n cp) : Mov gb w v w' (.slice (some ⟨g, 0, none⟩) m cap) :=
  ⟨h.os, h.tape, h.output, h.size, fun k hk _ hv => h.block k hk hv, fun k hk e => by
    have e : g = k := by simpa [vb] using e
    rcases hg with hg | ⟨cp, rfl⟩
    · omega
    · rw [← e]; rfl⟩
theorem Mov.set {gb : Nat} {a b : World} {v u : Value} (h : Mov gb a v b u) {o : Nat} (x : Value) : Mov gb a v (b.setCell ⟨gb, o, none⟩ x) u := by
  have h2 := (Below.refl 0 b).setCell (p := ⟨gb, o, none⟩) (Nat.zero_le _) x
  exact ⟨h2.os.trans h.os, h2.tape.trans h.tape, h2.output.trans h.output, Nat.le_trans h.size h2.size, fun k hk hg hv => (Below.heap_setCell b _ _ k hg).trans (h.block k hk hg hv), h.old⟩
theorem Mov.cell {gb : Nat} {a b : World} {v u : Value} (h : Mov gb a v b u) {k o : Nat} (hk : k < a.heap.size) (hg : k ≠ gb) (hv : vb v ≠ some k) : b.cell? ⟨k, o, none⟩ = a.cell? ⟨k, o, none⟩ := by
  simp only [World.cell?, h.block k hk hg hv]
/-- what lies below N, where the row lies above, stays but the struct -/
theorem Mov.sta {gb N : Nat} {a b : World} {v u : Value} (h : Mov gb a v b u) (hN : N ≤ a.heap.size) (hv : ∀ k, vb v = some k → N ≤ k) : Sta N (· = gb) a b :=
  ⟨h.os, h.tape, h.output, h.size, fun k hk hg => h.block k (by omega) hg (fun e => by have := hv k e; omega)⟩
theorem G6.oh {w w' : World} {gb : Nat} {v v0 v1 v2 v3 v4 v5 : Value} (h : G6 w gb v0 v1 v2 v3 v4 v5) (b : Oh v w w') (hv : vb v ≠ some gb) : G6 w' gb v0 v1 v2 v3 v4 v5 :=
  h.same (fun o => by simp only [World.cell?, b.block gb h.lt hv]) (fun o => by simp only [World.frozen?, b.block gb h.lt hv])
theorem own_vb {sz base : Nat} {w : World} {v : Value} {n : Nat} {R : List Value} (h : OwnR sz base w v n R) : ∀ k, vb v = some k → base ≤ k := by
  intro k e
  rcases h.2 with ⟨rfl, _⟩ | ⟨g, cap, rfl, h1, _⟩
  · cases e
  · have : g = k := by simpa [vb] using e
    omega
theorem own_lt {sz base : Nat} {w : World} {v : Value} {n : Nat} {R : List Value} (h : OwnR sz base w v n R) (h0 : n ≠ 0 ∨ v = .slice none 0 0) (hz : 0 < sz) : ∀ k, vb v = some k → k < w.heap.size := by
  intro k e
  rcases own_split h hz with ⟨hn, _⟩ | ⟨_, g, cap, rfl, _, hg, _⟩
  · rcases h0 with h0 | h0
    · exact absurd hn h0
    · rw [h0] at e; cases e
  · have : g = k := by simpa [vb] using e
    omega
end Go.Proofs.YtekhnolpgoejdaaGreat

namespace Go.Proofs.YtekhnolpgoejdaaGreat
open Ieee Go.RowKit
set_option linter.unusedSimpArgs false
set_option linter.unusedVariables false

/-! ### The cells of a span, column by column -/
def colL (a : Sp4) (x : Int) (q : Nat) : List Ce := (List.range q).map fun j : Nat => (x, a.1.2 + (j : Int))
def hgt (a : Sp4) : Nat := (a.2.2 - a.1.2 + 1).toNat
def wid (a : Sp4) : Nat := (a.2.1 - a.1.1 + 1).toNat
def colsL (a : Sp4) : Nat → List Ce
  | 0 => []
  | p + 1 => colsL a p ++ colL a (a.1.1 + (p : Int)) (hgt a)
def cellsL (a : Sp4) : List Ce := colsL a (wid a)
theorem colL_succ (a : Sp4) (x : Int) (q : Nat) : colL a x (q + 1) = colL a x q ++ [(x, a.1.2 + (q : Int))] := by
  unfold colL; rw [List.range_succ, List.map_append]; rfl
theorem colL_len (a : Sp4) (x : Int) (q : Nat) : (colL a x q).length = q := by simp [colL]
theorem colsL_len (a : Sp4) : ∀ p, (colsL a p).length = p * hgt a
  | 0 => by simp [colsL]
  | p + 1 => by rw [colsL, List.length_append, colsL_len a p, colL_len, Nat.add_mul, Nat.one_mul]
theorem mem_colL {a : Sp4} {x : Int} {q : Nat} {c : Ce} : c ∈ colL a x q ↔ c.1 = x ∧ a.1.2 ≤ c.2 ∧ c.2 < a.1.2 + (q : Int) := by
  unfold colL
  rw [List.mem_map]
  constructor
  · rintro ⟨j, hj, rfl⟩
    rw [List.mem_range] at hj
    exact ⟨rfl, by show _ ≤ _ + _; omega, by show _ + _ < _; omega⟩
  · rintro ⟨h1, h2, h3⟩
    refine ⟨(c.2 - a.1.2).toNat, by rw [List.mem_range]; omega, ?_⟩
    obtain ⟨c1, c2⟩ := c
    simp only at h1 h2 h3
    subst h1
    show (c1, a.1.2 + ((c2 - a.1.2).toNat : Int)) = (c1, c2)
    congr 1
    omega
theorem mem_colsL {a : Sp4} {c : Ce} : ∀ {p : Nat}, c ∈ colsL a p ↔ a.1.1 ≤ c.1 ∧ c.1 < a.1.1 + (p : Int) ∧ a.1.2 ≤ c.2 ∧ c.2 < a.1.2 + (hgt a : Int)
  | 0 => by
    simp only [colsL, List.not_mem_nil, false_iff]
    omega
  | p + 1 => by
    rw [colsL, List.mem_append, mem_colsL, mem_colL]
    omega
theorem mem_cellsL {a : Sp4} {c : Ce} : c ∈ cellsL a ↔ a.1.1 ≤ c.1 ∧ c.1 ≤ a.2.1 ∧ a.1.2 ≤ c.2 ∧ c.2 ≤ a.2.2 := by
  unfold cellsL
  rw [mem_colsL]
  unfold wid hgt
  omega
theorem nodup_colL (a : Sp4) (x : Int) (q : Nat) : (colL a x q).Nodup := by
  unfold colL
  refine nodup_map _ List.nodup_range (fun i _ j _ e => ?_)
  injection e with _ e
  omega
theorem nodup_colsL (a : Sp4) : ∀ p, (colsL a p).Nodup
  | 0 => by simp [colsL]
  | p + 1 => by
    rw [colsL, List.nodup_append]
    refine ⟨nodup_colsL a p, nodup_colL a _ _, fun c h d h2 e => ?_⟩
    subst e
    rw [mem_colsL] at h
    rw [mem_colL] at h2
    omega
theorem nodup_cellsL (a : Sp4) : (cellsL a).Nodup := nodup_colsL a _
end Go.Proofs.YtekhnolpgoejdaaGreat
namespace Go.Proofs.YtekhnolpgoejdaaGreat
open Ieee Go.RowKit
set_option linter.unusedSimpArgs false
set_option linter.unusedVariables false

/-! ### What lay has laid -/
def NoSh (a b : Value) : Prop := ∀ g, vb a = some g → vb b ≠ some g
theorem NoSh.symm {a b : Value} (h : NoSh a b) : NoSh b a := fun g e e' => h g e' e
theorem heap_cell_eq {w w' : World} {k : Nat} (h : w'.heap[k]? = w.heap[k]?) (o : Nat) : w'.cell? ⟨k, o, none⟩ = w.cell? ⟨k, o, none⟩ := by simp only [World.cell?, h]
theorem heap_frozen_eq {w w' : World} {k : Nat} (h : w'.heap[k]? = w.heap[k]?) (o : Nat) : w'.frozen? ⟨k, o, none⟩ = w.frozen? ⟨k, o, none⟩ := by simp only [World.frozen?, h]
theorem OwnR.heap {sz base : Nat} {w w' : World} {v : Value} {n : Nat} {R : List Value} (h : OwnR sz base w v n R) (hh : ∀ g, vb v = some g → w'.heap[g]? = w.heap[g]?) : OwnR sz base w' v n R := by
  refine ⟨h.1, ?_⟩
  rcases h.2 with h2 | ⟨g, cap, e, h1, h2, h3, h4, h5, h6⟩
  · exact .inl h2
  · have hg := hh g (by rw [e]; rfl)
    exact .inr ⟨g, cap, e, h1, h2, h3, fun j u hj => (heap_cell_eq hg _).trans (h4 j u hj), fun j hj => by rw [heap_cell_eq hg]; exact h5 j hj, fun o => (heap_frozen_eq hg o).trans (h6 o)⟩
theorem own_obj {sz base : Nat} {w : World} {v : Value} {n : Nat} {R : List Value} (h : OwnR sz base w v n R) (hz : 0 < sz) (h0 : n ≠ 0 ∨ v = .slice none 0 0) {g : Nat} (e : vb v = some g) : base ≤ g ∧ g < w.heap.size ∧ ∃ o, w.heap[g]? = some o ∧ o.isCells = true := by
  rcases h.2 with ⟨rfl, _⟩ | ⟨g', cap, rfl, h1, h2, h3, h4, h5, h6⟩
  · cases e
  · have eg : g' = g := by simpa [vb] using e
    subst eg
    have hn : n ≠ 0 := by
      rcases h0 with h0 | h0
      · exact h0
      · cases h0
    have hc := h5 0 (Nat.mul_pos (by omega) hz)
    obtain ⟨x, hx⟩ := Option.isSome_iff_exists.1 hc
    have hl := World.block_lt_of_cell? _ _ hx
    refine ⟨h1, hl, ?_⟩
    unfold World.cell? at hx
    simp only at hx
    split at hx
    · rename_i c t f ho
      exact ⟨_, ho, rfl⟩
    · cases hx
structure LayS (W : World) (s0 n : Nat) (sa : Option Addr) (cap : Nat) (S : Nat → Sp4) (V : Nat → Bool) (k : Nat) (v3 v4 : Value) (M : List En) (ck : Nat) (Sm Wd : List Nat) (F : Ce → List Nat) : Prop where
  g6 : G6 W (s0 + 2) (.slice sa n cap) (.slice (some ⟨s0, 0, none⟩) n n) (.map (some (s0 + 1))) v3 v4 (.slice none 0 0)
  cg : W.cell? ⟨s0 + 3, 0, none⟩ = some (.pointer (some ⟨s0 + 2, 0, none⟩))
  spS : SpS W s0 S V k
  spX : ∀ j, j < n * 4 → (W.cell? ⟨s0, j, none⟩).isSome = true
  spF : ∀ o, W.frozen? ⟨s0, o, none⟩ = false
  o3 : OwnR 1 (s0 + 4) W v3 Sm.length (iRow Sm)
  n3 : Sm = [] → v3 = .slice none 0 0
  o4 : OwnR 1 (s0 + 4) W v4 Wd.length (iRow Wd)
  n4 : Wd = [] → v4 = .slice none 0 0
  mp : Mp W (s0 + 1) M ck
  keys : (M.map (·.1)).Nodup
  born : (M.map (·.2.2)).Nodup
  bornlt : ∀ m ∈ M, m.2.2 < ck
  om : ∀ m ∈ M, OwnR 1 (s0 + 4) W m.2.1 (F m.1).length (iRow (F m.1)) ∧ F m.1 ≠ []
  hasF : ∀ c, F c ≠ [] → ∃ m ∈ M, m.1 = c
  apart : (v3 :: v4 :: M.map (·.2.1)).Pairwise NoSh
  sz : s0 + 4 ≤ W.heap.size
section
variable {W W' : World} {s0 n : Nat} {sa : Option Addr} {cap : Nat} {S : Nat → Sp4} {V : Nat → Bool} {k : Nat} {v3 v4 : Value} {M : List En} {ck : Nat} {Sm Wd : List Nat} {F : Ce → List Nat}
theorem LayS.obj (h : LayS W s0 n sa cap S V k v3 v4 M ck Sm Wd F) : ∀ v ∈ v3 :: v4 :: M.map (·.2.1), ∀ g, vb v = some g → s0 + 4 ≤ g ∧ g < W.heap.size ∧ ∃ o, W.heap[g]? = some o ∧ o.isCells = true := by
  intro v hv g e
  rcases List.mem_cons.1 hv with rfl | hv
  · refine own_obj h.o3 (by decide) ?_ e
    by_cases hz : Sm = []
    · exact .inr (h.n3 hz)
    · exact .inl (fun e => hz (List.eq_nil_of_length_eq_zero e))
  · rcases List.mem_cons.1 hv with rfl | hv
    · refine own_obj h.o4 (by decide) ?_ e
      by_cases hz : Wd = []
      · exact .inr (h.n4 hz)
      · exact .inl (fun e => hz (List.eq_nil_of_length_eq_zero e))
    · obtain ⟨m, hm, rfl⟩ := List.mem_map.1 hv
      exact own_obj (h.om m hm).1 (by decide) (.inl (fun e => (h.om m hm).2 (List.eq_nil_of_length_eq_zero e))) e
theorem LayS.keep (h : LayS W s0 n sa cap S V k v3 v4 M ck Sm Wd F) (K : Nat → Prop) (hs : W.heap.size ≤ W'.heap.size) (hb : ∀ j, j < W.heap.size → ¬ K j → W'.heap[j]? = W.heap[j]?) (k0 : ¬ K s0) (k1 : ¬ K (s0 + 1)) (k2 : ¬ K (s0 + 2)) (k3 : ¬ K (s0 + 3)) (ko : ∀ v ∈ v3 :: v4 :: M.map (·.2.1), ∀ g, vb v = some g → ¬ K g) : LayS W' s0 n sa cap S V k v3 v4 M ck Sm Wd F := by
  have hsz := h.sz
  have e0 := hb s0 (by omega) k0
  have e1 := hb (s0 + 1) (by omega) k1
  have e2 := hb (s0 + 2) (by omega) k2
  have e3 := hb (s0 + 3) (by omega) k3
  have eo : ∀ v ∈ v3 :: v4 :: M.map (·.2.1), ∀ g, vb v = some g → W'.heap[g]? = W.heap[g]? := fun v hv g e => hb g (h.obj v hv g e).2.1 (ko v hv g e)
  exact
  { g6 := h.g6.same (heap_cell_eq e2) (heap_frozen_eq e2)
    cg := (heap_cell_eq e3 0).trans h.cg
    spS := fun i hi hv => by
      obtain ⟨a, b, c, d⟩ := h.spS i hi hv
      exact ⟨(heap_cell_eq e0 _).trans a, (heap_cell_eq e0 _).trans b, (heap_cell_eq e0 _).trans c, (heap_cell_eq e0 _).trans d⟩
    spX := fun j hj => by rw [heap_cell_eq e0]; exact h.spX j hj
    spF := fun o => (heap_frozen_eq e0 o).trans (h.spF o)
    o3 := h.o3.heap (eo v3 (by simp))
    n3 := h.n3
    o4 := h.o4.heap (eo v4 (by simp))
    n4 := h.n4
    mp := e1.trans h.mp
    keys := h.keys
    born := h.born
    bornlt := h.bornlt
    om := fun m hm => ⟨(h.om m hm).1.heap (eo m.2.1 (by simp only [List.mem_cons, List.mem_map]; exact .inr (.inr ⟨m, hm, rfl⟩))), (h.om m hm).2⟩
    hasF := h.hasF
    apart := h.apart
    sz := Nat.le_trans hsz hs }
theorem LayS.bel (h : LayS W s0 n sa cap S V k v3 v4 M ck Sm Wd F) (b : Bel W W') : LayS W' s0 n sa cap S V k v3 v4 M ck Sm Wd F :=
  h.keep (fun _ => False) b.size (fun j hj _ => b.1.block j hj) id id id id (fun _ _ _ _ => id)
/-- a block that is no cells, and lies behind, turns; new ones come -/
theorem LayS.grown (h : LayS W s0 n sa cap S V k v3 v4 M ck Sm Wd F) {row : Option Nat} (hg : W.grownBy W' row) {B : Nat} (hB : s0 + 4 ≤ B) (hr : ∀ r, row = some r → B ≤ r ∧ ∃ o : Obj, W.heap[r]? = some o ∧ o.isCells = false) : LayS W' s0 n sa cap S V k v3 v4 M ck Sm Wd F := by
  refine h.keep (fun j => row = some j) hg.size (fun j hj hk => hg.block j hj (fun e => hk e.symm)) ?_ ?_ ?_ ?_ ?_
  · intro e; have := (hr _ e).1; omega
  · intro e; have := (hr _ e).1; omega
  · intro e; have := (hr _ e).1; omega
  · intro e; have := (hr _ e).1; omega
  · intro v hv g e er
    obtain ⟨_, _, o, ho, hc⟩ := h.obj v hv g e
    obtain ⟨_, o', ho', hc'⟩ := hr g er
    rw [ho] at ho'
    cases ho'
    rw [hc] at hc'
    cases hc'
theorem LayS.low (h : LayS W s0 n sa cap S V k v3 v4 M ck Sm Wd F) (e0 : W'.heap[s0]? = W.heap[s0]?) (e3 : W'.heap[s0 + 3]? = W.heap[s0 + 3]?) : W'.cell? ⟨s0 + 3, 0, none⟩ = some (.pointer (some ⟨s0 + 2, 0, none⟩)) ∧ SpS W' s0 S V k ∧ (∀ j, j < n * 4 → (W'.cell? ⟨s0, j, none⟩).isSome = true) ∧ ∀ o, W'.frozen? ⟨s0, o, none⟩ = false :=
  ⟨(heap_cell_eq e3 0).trans h.cg, fun i hi hv => by
    obtain ⟨a, b, c, d⟩ := h.spS i hi hv
    exact ⟨(heap_cell_eq e0 _).trans a, (heap_cell_eq e0 _).trans b, (heap_cell_eq e0 _).trans c, (heap_cell_eq e0 _).trans d⟩, fun j hj => by rw [heap_cell_eq e0]; exact h.spX j hj, fun o => (heap_frozen_eq e0 o).trans (h.spF o)⟩
/-- one that does not lie -/
theorem LayS.skip (h : LayS W s0 n sa cap S V k v3 v4 M ck Sm Wd F) (hv : V k = false) : LayS W s0 n sa cap S V (k + 1) v3 v4 M ck Sm Wd F :=
  { h with spS := fun i hi hvi => h.spS i (by rcases Nat.lt_or_ge i k with h' | h'; exact h'; rw [show i = k by omega, hv] at hvi; cases hvi) hvi }
/-- a span is stored -/
theorem LayS.span (h : LayS W s0 n sa cap S V k v3 v4 M ck Sm Wd F) (hk : k < n) (hs : W.heap.size ≤ W'.heap.size) (hb : ∀ j, j < W.heap.size → j ≠ s0 → W'.heap[j]? = W.heap[j]?) (hf : ∀ o, W'.frozen? ⟨s0, o, none⟩ = W.frozen? ⟨s0, o, none⟩) (ho : ∀ o, (o < k * 4 ∨ k * 4 + 4 ≤ o) → W'.cell? ⟨s0, o, none⟩ = W.cell? ⟨s0, o, none⟩)
    (c0 : W'.cell? ⟨s0, k * 4, none⟩ = some (.int .i64 (S k).1.1)) (c1 : W'.cell? ⟨s0, k * 4 + 1, none⟩ = some (.int .i64 (S k).1.2)) (c2 : W'.cell? ⟨s0, k * 4 + 2, none⟩ = some (.int .i64 (S k).2.1)) (c3 : W'.cell? ⟨s0, k * 4 + 3, none⟩ = some (.int .i64 (S k).2.2)) : LayS W' s0 n sa cap S V (k + 1) v3 v4 M ck Sm Wd F := by
  have hsz := h.sz
  have e1 := hb (s0 + 1) (by omega) (by omega)
  have e2 := hb (s0 + 2) (by omega) (by omega)
  have e3 := hb (s0 + 3) (by omega) (by omega)
  have eo : ∀ v ∈ v3 :: v4 :: M.map (·.2.1), ∀ g, vb v = some g → W'.heap[g]? = W.heap[g]? := fun v hv g e => by
    obtain ⟨h1, h2, _⟩ := h.obj v hv g e
    exact hb g h2 (by omega)
  exact
  { g6 := h.g6.same (heap_cell_eq e2) (heap_frozen_eq e2)
    cg := (heap_cell_eq e3 0).trans h.cg
    spS := fun i hi hv => by
      by_cases e : i = k
      · subst e; exact ⟨c0, c1, c2, c3⟩
      · obtain ⟨a, b, c, d⟩ := h.spS i (by omega) hv
        exact ⟨(ho _ (by omega)).trans a, (ho _ (by omega)).trans b, (ho _ (by omega)).trans c, (ho _ (by omega)).trans d⟩
    spX := fun j hj => by
      by_cases e : j < k * 4 ∨ k * 4 + 4 ≤ j
      · rw [ho j e]; exact h.spX j hj
      · rcases (show j = k * 4 ∨ j = k * 4 + 1 ∨ j = k * 4 + 2 ∨ j = k * 4 + 3 by omega) with e | e | e | e
        · rw [e, c0]; rfl
        · rw [e, c1]; rfl
        · rw [e, c2]; rfl
        · rw [e, c3]; rfl
    spF := fun o => (hf o).trans (h.spF o)
    o3 := h.o3.heap (eo v3 (by simp))
    n3 := h.n3
    o4 := h.o4.heap (eo v4 (by simp))
    n4 := h.n4
    mp := e1.trans h.mp
    keys := h.keys
    born := h.born
    bornlt := h.bornlt
    om := fun m hm => ⟨(h.om m hm).1.heap (eo m.2.1 (by simp only [List.mem_cons, List.mem_map]; exact .inr (.inr ⟨m, hm, rfl⟩))), (h.om m hm).2⟩
    hasF := h.hasF
    apart := h.apart
    sz := Nat.le_trans hsz hs }
/-- what grew shares nothing with what was there -/
theorem nosh_new {v u : Value} {W : World} {g m c l : Nat} (hu : ∀ g, vb u = some g → g < W.heap.size) (hn : NoSh v u) (hg : W.heap.size ≤ g ∨ ∃ cp, v = .slice (some ⟨g, 0, none⟩) l cp) : NoSh (.slice (some ⟨g, 0, none⟩) m c) u := by
  intro x e e'
  have ex : g = x := by simpa [vb] using e
  subst ex
  rcases hg with hg | ⟨cp, rfl⟩
  · have := hu g e'; omega
  · exact hn g rfl e'
/-- a wide box is put to the others -/
theorem LayS.push4 (h : LayS W s0 n sa cap S V k v3 v4 M ck Sm Wd F) {W1 : World} {g cp i : Nat} (hO : OwnR 1 (s0 + 4) W1 (.slice (some ⟨g, 0, none⟩) (Wd.length + 1) cp) (Wd.length + 1) (iRow Wd ++ [.int .i64 (i : Int)])) (hOh : Oh v4 W W1) (hg : W.heap.size ≤ g ∨ ∃ c, v4 = .slice (some ⟨g, 0, none⟩) Wd.length c) :
    LayS (W1.setCell ⟨s0 + 2, 4, none⟩ (.slice (some ⟨g, 0, none⟩) (Wd.length + 1) cp)) s0 n sa cap S V k v3 (.slice (some ⟨g, 0, none⟩) (Wd.length + 1) cp) M ck Sm (Wd ++ [i]) F := by
  have hsz := h.sz
  have h4 := h.obj v4 (by simp)
  have hne : ∀ j, j < s0 + 4 → vb v4 ≠ some j := fun j hj e => by have := (h4 j e).1; omega
  have hb1 : ∀ j, j < W.heap.size → vb v4 ≠ some j → j ≠ s0 + 2 → (W1.setCell ⟨s0 + 2, 4, none⟩ (.slice (some ⟨g, 0, none⟩) (Wd.length + 1) cp)).heap[j]? = W.heap[j]? := fun j hj hv h2 => (Below.heap_setCell W1 _ _ j h2).trans (hOh.block j hj hv)
  obtain ⟨l1, l2, l3, l4⟩ := h.low (hb1 s0 (by omega) (hne _ (by omega)) (by omega)) (hb1 (s0 + 3) (by omega) (hne _ (by omega)) (by omega))
  have hap := List.pairwise_cons.1 h.apart
  have hap2 := List.pairwise_cons.1 hap.2
  have hgn : s0 + 2 ≠ g := by
    rcases hg with hg | ⟨c, hc⟩
    · omega
    · intro e; exact hne (s0 + 2) (by omega) (by rw [hc, e]; rfl)
  have hlt : ∀ v ∈ v3 :: v4 :: M.map (·.2.1), ∀ g, vb v = some g → g < W.heap.size := fun v hv g e => (h.obj v hv g e).2.1
  have keepv : ∀ v ∈ v3 :: v4 :: M.map (·.2.1), NoSh v v4 → ∀ x, vb v = some x → (W1.setCell ⟨s0 + 2, 4, none⟩ (.slice (some ⟨g, 0, none⟩) (Wd.length + 1) cp)).heap[x]? = W.heap[x]? := fun v hv hn x e => hb1 x (hlt v hv x e) (hn x e) (by have := (h.obj v hv x e).1; omega)
  have hn34 : NoSh v3 v4 := hap.1 v4 (by simp)
  have g61 := h.g6.oh hOh (hne (s0 + 2) (by omega))
  have ne : ∀ o, o ≠ 4 → (W1.setCell ⟨s0 + 2, 4, none⟩ (.slice (some ⟨g, 0, none⟩) (Wd.length + 1) cp)).cell? ⟨s0 + 2, o, none⟩ = W1.cell? ⟨s0 + 2, o, none⟩ := fun o ho => set_away (fun e => ho e.symm)
  exact
  { g6 := ⟨(ne 0 (by decide)).trans g61.c0, (ne 1 (by decide)).trans g61.c1, (ne 2 (by decide)).trans g61.c2, (ne 3 (by decide)).trans g61.c3, World.cell?_setCell_same' _ _ _ (by rw [g61.c4]; rfl), (ne 5 (by decide)).trans g61.c5, fun o => (World.frozen?_setCell _ _ _ _).trans (g61.fr o)⟩
    cg := l1
    spS := l2
    spX := l3
    spF := l4
    o3 := h.o3.heap (keepv v3 (by simp) hn34)
    n3 := h.n3
    o4 := by
      rw [List.length_append, iRow_app]
      exact hO.heap (fun x e => by
        have ex : g = x := by simpa [vb] using e
        subst ex
        exact Below.heap_setCell W1 _ _ g (fun e => hgn e.symm))
    n4 := fun e => by simp at e
    mp := (hb1 (s0 + 1) (by omega) (hne _ (by omega)) (by omega)).trans h.mp
    keys := h.keys
    born := h.born
    bornlt := h.bornlt
    om := fun m hm => ⟨(h.om m hm).1.heap (keepv m.2.1 (by simp only [List.mem_cons, List.mem_map]; exact .inr (.inr ⟨m, hm, rfl⟩)) (hap2.1 m.2.1 (List.mem_map.2 ⟨m, hm, rfl⟩)).symm), (h.om m hm).2⟩
    hasF := h.hasF
    apart := by
      refine List.pairwise_cons.2 ⟨fun u hu => ?_, List.pairwise_cons.2 ⟨fun u hu => nosh_new (hlt u (by simp [hu])) (hap2.1 u hu) hg, hap2.2⟩⟩
      rcases List.mem_cons.1 hu with rfl | hu
      · exact (nosh_new (hlt v3 (by simp)) hn34.symm hg).symm
      · exact hap.1 u (by simp [hu])
    sz := by rw [World.size_setCell]; exact Nat.le_trans hsz hOh.size }
/-- a small box is put to the others -/
theorem LayS.push3 (h : LayS W s0 n sa cap S V k v3 v4 M ck Sm Wd F) {W1 : World} {g cp i : Nat} (hO : OwnR 1 (s0 + 4) W1 (.slice (some ⟨g, 0, none⟩) (Sm.length + 1) cp) (Sm.length + 1) (iRow Sm ++ [.int .i64 (i : Int)])) (hOh : Oh v3 W W1) (hg : W.heap.size ≤ g ∨ ∃ c, v3 = .slice (some ⟨g, 0, none⟩) Sm.length c) :
    LayS (W1.setCell ⟨s0 + 2, 3, none⟩ (.slice (some ⟨g, 0, none⟩) (Sm.length + 1) cp)) s0 n sa cap S V k (.slice (some ⟨g, 0, none⟩) (Sm.length + 1) cp) v4 M ck (Sm ++ [i]) Wd F := by
  have hsz := h.sz
  have h4 := h.obj v3 (by simp)
  have hne : ∀ j, j < s0 + 4 → vb v3 ≠ some j := fun j hj e => by have := (h4 j e).1; omega
  have hb1 : ∀ j, j < W.heap.size → vb v3 ≠ some j → j ≠ s0 + 2 → (W1.setCell ⟨s0 + 2, 3, none⟩ (.slice (some ⟨g, 0, none⟩) (Sm.length + 1) cp)).heap[j]? = W.heap[j]? := fun j hj hv h2 => (Below.heap_setCell W1 _ _ j h2).trans (hOh.block j hj hv)
  obtain ⟨l1, l2, l3, l4⟩ := h.low (hb1 s0 (by omega) (hne _ (by omega)) (by omega)) (hb1 (s0 + 3) (by omega) (hne _ (by omega)) (by omega))
  have hap := List.pairwise_cons.1 h.apart
  have hap2 := List.pairwise_cons.1 hap.2
  have hgn : s0 + 2 ≠ g := by
    rcases hg with hg | ⟨c, hc⟩
    · omega
    · intro e; exact hne (s0 + 2) (by omega) (by rw [hc, e]; rfl)
  have hlt : ∀ v ∈ v3 :: v4 :: M.map (·.2.1), ∀ g, vb v = some g → g < W.heap.size := fun v hv g e => (h.obj v hv g e).2.1
  have keepv : ∀ v ∈ v3 :: v4 :: M.map (·.2.1), NoSh v v3 → ∀ x, vb v = some x → (W1.setCell ⟨s0 + 2, 3, none⟩ (.slice (some ⟨g, 0, none⟩) (Sm.length + 1) cp)).heap[x]? = W.heap[x]? := fun v hv hn x e => hb1 x (hlt v hv x e) (hn x e) (by have := (h.obj v hv x e).1; omega)
  have hn34 : NoSh v3 v4 := hap.1 v4 (by simp)
  have g61 := h.g6.oh hOh (hne (s0 + 2) (by omega))
  have ne : ∀ o, o ≠ 3 → (W1.setCell ⟨s0 + 2, 3, none⟩ (.slice (some ⟨g, 0, none⟩) (Sm.length + 1) cp)).cell? ⟨s0 + 2, o, none⟩ = W1.cell? ⟨s0 + 2, o, none⟩ := fun o ho => set_away (fun e => ho e.symm)
  exact
  { g6 := ⟨(ne 0 (by decide)).trans g61.c0, (ne 1 (by decide)).trans g61.c1, (ne 2 (by decide)).trans g61.c2, World.cell?_setCell_same' _ _ _ (by rw [g61.c3]; rfl), (ne 4 (by decide)).trans g61.c4, (ne 5 (by decide)).trans g61.c5, fun o => (World.frozen?_setCell _ _ _ _).trans (g61.fr o)⟩
    cg := l1
    spS := l2
    spX := l3
    spF := l4
    o3 := by
      rw [List.length_append, iRow_app]
      exact hO.heap (fun x e => by
        have ex : g = x := by simpa [vb] using e
        subst ex
        exact Below.heap_setCell W1 _ _ g (fun e => hgn e.symm))
    n3 := fun e => by simp at e
    o4 := h.o4.heap (keepv v4 (by simp) hn34.symm)
    n4 := h.n4
    mp := (hb1 (s0 + 1) (by omega) (hne _ (by omega)) (by omega)).trans h.mp
    keys := h.keys
    born := h.born
    bornlt := h.bornlt
    om := fun m hm => ⟨(h.om m hm).1.heap (keepv m.2.1 (by simp only [List.mem_cons, List.mem_map]; exact .inr (.inr ⟨m, hm, rfl⟩)) (hap.1 m.2.1 (by simp only [List.mem_cons, List.mem_map]; exact .inr ⟨m, hm, rfl⟩)).symm), (h.om m hm).2⟩
    hasF := h.hasF
    apart := List.pairwise_cons.2 ⟨fun u hu => nosh_new (hlt u (List.mem_cons_of_mem _ hu)) (hap.1 u hu) hg, hap.2⟩
    sz := by rw [World.size_setCell]; exact Nat.le_trans hsz hOh.size }
/-- the groups, with i behind that of c -/
def upF (F : Ce → List Nat) (c : Ce) (i : Nat) : Ce → List Nat := fun c' => if c' = c then F c ++ [i] else F c'
theorem pw_set {α : Type} {r : α → α → Prop} (hs : ∀ a b, r a b → r b a) {l : List α} (h : l.Pairwise r) {j : Nat} {x : α} (hx : ∀ (i : Nat) (hi : i < l.length), i ≠ j → r x l[i]) : (l.set j x).Pairwise r := by
  rw [List.pairwise_iff_getElem] at h ⊢
  intro a b ha hb hab
  have ha' : a < l.length := by simpa using ha
  have hb' : b < l.length := by simpa using hb
  rw [List.getElem_set, List.getElem_set]
  by_cases ea : j = a
  · rw [if_pos ea, if_neg (by omega)]; exact hx b hb' (by omega)
  · by_cases eb : j = b
    · rw [if_neg ea, if_pos eb]; exact hs _ _ (hx a ha' (by omega))
    · rw [if_neg ea, if_neg eb]; exact h a b ha' hb' hab
/-- a number is put into a cell that is there -/
theorem LayS.groupA (h : LayS W s0 n sa cap S V k v3 v4 M ck Sm Wd F) {c : Ce} {i j bn g cp : Nat} {v : Value} (hj : M[j]? = some (c, v, bn))
    (hO : OwnR 1 (s0 + 4) W' (.slice (some ⟨g, 0, none⟩) ((F c).length + 1) cp) ((F c).length + 1) (iRow (F c) ++ [.int .i64 (i : Int)])) (hs : W.heap.size ≤ W'.heap.size) (hb : ∀ x, x < W.heap.size → x ≠ s0 + 1 → vb v ≠ some x → W'.heap[x]? = W.heap[x]?)
    (hm : Mp W' (s0 + 1) (M.set j (c, .slice (some ⟨g, 0, none⟩) ((F c).length + 1) cp, bn)) ck) (hg : W.heap.size ≤ g ∨ ∃ cp, v = .slice (some ⟨g, 0, none⟩) (F c).length cp) :
    LayS W' s0 n sa cap S V k v3 v4 (M.set j (c, .slice (some ⟨g, 0, none⟩) ((F c).length + 1) cp, bn)) ck Sm Wd (upF F c i) := by
  have hsz := h.sz
  obtain ⟨hl, hje⟩ := List.getElem?_eq_some_iff.1 hj
  have hjm : (c, v, bn) ∈ M := List.mem_of_getElem? hj
  have hvm : v ∈ v3 :: v4 :: M.map (·.2.1) := by simp only [List.mem_cons, List.mem_map]; exact .inr (.inr ⟨_, hjm, rfl⟩)
  have hvo := h.obj v hvm
  have hne : ∀ x, x < s0 + 4 → vb v ≠ some x := fun x hx e => by have := (hvo x e).1; omega
  obtain ⟨l1, l2, l3, l4⟩ := h.low (hb s0 (by omega) (by omega) (hne _ (by omega))) (hb (s0 + 3) (by omega) (by omega) (hne _ (by omega)))
  have e2 := hb (s0 + 2) (by omega) (by omega) (hne _ (by omega))
  have hlt : ∀ v ∈ v3 :: v4 :: M.map (·.2.1), ∀ g, vb v = some g → g < W.heap.size := fun v hv g e => (h.obj v hv g e).2.1
  have hap := List.pairwise_cons.1 h.apart
  have hap2 := List.pairwise_cons.1 hap.2
  have h3v : NoSh v3 v := hap.1 v (by simp only [List.mem_cons, List.mem_map]; exact .inr ⟨_, hjm, rfl⟩)
  have h4v : NoSh v4 v := hap2.1 v (List.mem_map.2 ⟨_, hjm, rfl⟩)
  have keepv : ∀ u ∈ v3 :: v4 :: M.map (·.2.1), NoSh u v → ∀ x, vb u = some x → W'.heap[x]? = W.heap[x]? := fun u hu hn x e => hb x (hlt u hu x e) (by have := (h.obj u hu x e).1; omega) (hn x e)
  have hother : ∀ (a : Nat) (ha : a < M.length), a ≠ j → NoSh v M[a].2.1 ∧ M[a].1 ≠ c := by
    intro a ha hne
    have p1 := List.pairwise_iff_getElem.1 hap2.2
    have p2 := List.pairwise_iff_getElem.1 h.keys
    have ev : M[j].2.1 = v := by rw [hje]
    have ec : M[j].1 = c := by rw [hje]
    rcases Nat.lt_or_gt_of_ne hne with hh | hh
    · have q1 := p1 a j (by simpa using ha) (by simpa using hl) hh
      have q2 := p2 a j (by simpa using ha) (by simpa using hl) hh
      simp only [List.getElem_map] at q1 q2
      rw [ev] at q1
      rw [ec] at q2
      exact ⟨q1.symm, q2⟩
    · have q1 := p1 j a (by simpa using hl) (by simpa using ha) hh
      have q2 := p2 j a (by simpa using hl) (by simpa using ha) hh
      simp only [List.getElem_map] at q1 q2
      rw [ev] at q1
      rw [ec] at q2
      exact ⟨q1, fun e => q2 e.symm⟩
  have hmem : ∀ m ∈ M.set j (c, .slice (some ⟨g, 0, none⟩) ((F c).length + 1) cp, bn), m = (c, .slice (some ⟨g, 0, none⟩) ((F c).length + 1) cp, bn) ∨ (m ∈ M ∧ NoSh v m.2.1 ∧ m.1 ≠ c) := by
    intro m hm'
    obtain ⟨a, ha, e⟩ := List.getElem_of_mem hm'
    have ha' : a < M.length := by simpa using ha
    rw [List.getElem_set] at e
    by_cases ea : j = a
    · rw [if_pos ea] at e; exact .inl e.symm
    · rw [if_neg ea] at e
      have := hother a ha' (by omega)
      rw [e] at this
      exact .inr ⟨e ▸ List.getElem_mem ha', this⟩
  have hkm : (M.set j (c, .slice (some ⟨g, 0, none⟩) ((F c).length + 1) cp, bn)).map (·.1) = M.map (·.1) := by
    rw [List.map_set]
    apply List.ext_getElem?
    intro a
    rw [List.getElem?_set]
    split
    · rename_i e; subst e
      simp [hl, hje]
    · rfl
  have hbm : (M.set j (c, .slice (some ⟨g, 0, none⟩) ((F c).length + 1) cp, bn)).map (·.2.2) = M.map (·.2.2) := by
    rw [List.map_set]
    apply List.ext_getElem?
    intro a
    rw [List.getElem?_set]
    split
    · rename_i e; subst e
      simp [hl, hje]
    · rfl
  exact
  { g6 := h.g6.same (heap_cell_eq e2) (heap_frozen_eq e2)
    cg := l1
    spS := l2
    spX := l3
    spF := l4
    o3 := h.o3.heap (keepv v3 (by simp) h3v)
    n3 := h.n3
    o4 := h.o4.heap (keepv v4 (by simp) h4v)
    n4 := h.n4
    mp := hm
    keys := by rw [hkm]; exact h.keys
    born := by rw [hbm]; exact h.born
    bornlt := fun m hm' => by
      rcases hmem m hm' with e | ⟨e, _⟩
      · have hx := h.bornlt _ hjm
        rw [e]; exact hx
      · exact h.bornlt m e
    om := fun m hm' => by
      rcases hmem m hm' with e | ⟨e, hn, hc⟩
      · rw [e]
        show OwnR 1 (s0 + 4) W' (.slice (some ⟨g, 0, none⟩) ((F c).length + 1) cp) (upF F c i c).length (iRow (upF F c i c)) ∧ upF F c i c ≠ []
        rw [upF, if_pos rfl, List.length_append, iRow_app]
        exact ⟨hO, by simp⟩
      · rw [upF, if_neg hc]
        exact ⟨(h.om m e).1.heap (keepv m.2.1 (by simp only [List.mem_cons, List.mem_map]; exact .inr (.inr ⟨m, e, rfl⟩)) hn.symm), (h.om m e).2⟩
    hasF := fun c' hc' => by
      by_cases e : c' = c
      · exact ⟨_, List.mem_iff_getElem.2 ⟨j, by simpa using hl, List.getElem_set_self _⟩, e.symm⟩
      · rw [upF, if_neg e] at hc'
        obtain ⟨m, hm', hmc⟩ := h.hasF c' hc'
        obtain ⟨a, ha, ea⟩ := List.getElem_of_mem hm'
        have haj : j ≠ a := fun e2 => e (by subst e2; rw [hje] at ea; rw [← hmc, ← ea])
        exact ⟨m, List.mem_iff_getElem.2 ⟨a, by simpa using ha, by rw [List.getElem_set, if_neg haj]; exact ea⟩, hmc⟩
    apart := by
      have : v3 :: v4 :: (M.set j (c, .slice (some ⟨g, 0, none⟩) ((F c).length + 1) cp, bn)).map (·.2.1) = (v3 :: v4 :: M.map (·.2.1)).set (j + 2) (.slice (some ⟨g, 0, none⟩) ((F c).length + 1) cp) := by
        rw [List.map_set]; rfl
      rw [this]
      refine pw_set (fun a b => NoSh.symm) h.apart (fun a ha hne => ?_)
      match a, ha with
      | 0, _ => exact nosh_new (hlt v3 (by simp)) h3v.symm hg
      | 1, _ => exact nosh_new (hlt v4 (by simp)) h4v.symm hg
      | a + 2, ha =>
        have ha' : a < M.length := by simpa using ha
        simp only [List.getElem_cons_succ, List.getElem_map]
        exact nosh_new (hlt _ (by simp only [List.mem_cons, List.mem_map]; exact .inr (.inr ⟨_, List.getElem_mem ha', rfl⟩))) (hother a ha' (by omega)).1 hg
    sz := Nat.le_trans hsz hs }
/-- a number is put into a cell that was not there -/
theorem LayS.groupB (h : LayS W s0 n sa cap S V k v3 v4 M ck Sm Wd F) {c : Ce} {i g cp : Nat} (hc : ∀ m ∈ M, m.1 ≠ c) (hF : F c = [])
    (hO : OwnR 1 (s0 + 4) W' (.slice (some ⟨g, 0, none⟩) 1 cp) 1 [.int .i64 (i : Int)]) (hs : W.heap.size ≤ W'.heap.size) (hb : ∀ x, x < W.heap.size → x ≠ s0 + 1 → W'.heap[x]? = W.heap[x]?)
    (hm : Mp W' (s0 + 1) (M ++ [(c, .slice (some ⟨g, 0, none⟩) 1 cp, ck)]) (ck + 1)) (hg : W.heap.size ≤ g) :
    LayS W' s0 n sa cap S V k v3 v4 (M ++ [(c, .slice (some ⟨g, 0, none⟩) 1 cp, ck)]) (ck + 1) Sm Wd (upF F c i) := by
  have hsz := h.sz
  obtain ⟨l1, l2, l3, l4⟩ := h.low (hb s0 (by omega) (by omega)) (hb (s0 + 3) (by omega) (by omega))
  have e2 := hb (s0 + 2) (by omega) (by omega)
  have hlt : ∀ v ∈ v3 :: v4 :: M.map (·.2.1), ∀ g, vb v = some g → g < W.heap.size := fun v hv g e => (h.obj v hv g e).2.1
  have keepv : ∀ u ∈ v3 :: v4 :: M.map (·.2.1), ∀ x, vb u = some x → W'.heap[x]? = W.heap[x]? := fun u hu x e => hb x (hlt u hu x e) (by have := (h.obj u hu x e).1; omega)
  have hnew : ∀ u ∈ v3 :: v4 :: M.map (·.2.1), NoSh u (.slice (some ⟨g, 0, none⟩) 1 cp) := fun u hu x e e' => by
    have ex : g = x := by simpa [vb] using e'
    have := hlt u hu x e
    omega
  exact
  { g6 := h.g6.same (heap_cell_eq e2) (heap_frozen_eq e2)
    cg := l1
    spS := l2
    spX := l3
    spF := l4
    o3 := h.o3.heap (keepv v3 (by simp))
    n3 := h.n3
    o4 := h.o4.heap (keepv v4 (by simp))
    n4 := h.n4
    mp := hm
    keys := by
      rw [List.map_append, List.nodup_append]
      refine ⟨h.keys, by simp, fun a ha b hb2 e => ?_⟩
      obtain ⟨m, hm', rfl⟩ := List.mem_map.1 ha
      simp only [List.map_cons, List.map_nil, List.mem_cons, List.not_mem_nil, or_false] at hb2
      exact hc m hm' (e.trans hb2)
    born := by
      rw [List.map_append, List.nodup_append]
      refine ⟨h.born, by simp, fun a ha b hb2 e => ?_⟩
      obtain ⟨m, hm', rfl⟩ := List.mem_map.1 ha
      simp only [List.map_cons, List.map_nil, List.mem_cons, List.not_mem_nil, or_false] at hb2
      have := h.bornlt m hm'
      omega
    bornlt := fun m hm' => by
      rcases List.mem_append.1 hm' with e | e
      · have := h.bornlt m e; omega
      · simp only [List.mem_cons, List.not_mem_nil, or_false] at e
        rw [e]; exact Nat.lt_succ_self _
    om := fun m hm' => by
      rcases List.mem_append.1 hm' with e | e
      · rw [upF, if_neg (hc m e)]
        exact ⟨(h.om m e).1.heap (keepv m.2.1 (by simp only [List.mem_cons, List.mem_map]; exact .inr (.inr ⟨m, e, rfl⟩))), (h.om m e).2⟩
      · simp only [List.mem_cons, List.not_mem_nil, or_false] at e
        rw [e]
        show OwnR 1 (s0 + 4) W' (.slice (some ⟨g, 0, none⟩) 1 cp) (upF F c i c).length (iRow (upF F c i c)) ∧ upF F c i c ≠ []
        rw [upF, if_pos rfl, hF]
        exact ⟨hO, by simp⟩
    hasF := fun c' hc' => by
      by_cases e : c' = c
      · exact ⟨_, List.mem_append_right _ (List.mem_singleton.2 rfl), e.symm⟩
      · rw [upF, if_neg e] at hc'
        obtain ⟨m, hm', hmc⟩ := h.hasF c' hc'
        exact ⟨m, List.mem_append_left _ hm', hmc⟩
    apart := by
      have : v3 :: v4 :: (M ++ [(c, (.slice (some ⟨g, 0, none⟩) 1 cp : Value), ck)]).map (·.2.1) = (v3 :: v4 :: M.map (·.2.1)) ++ [.slice (some ⟨g, 0, none⟩) 1 cp] := by
        rw [List.map_append]; rfl
      rw [this, List.pairwise_append]
      refine ⟨h.apart, by simp, fun a ha b hb2 => ?_⟩
      simp only [List.mem_cons, List.not_mem_nil, or_false] at hb2
      rw [hb2]; exact hnew a ha
    sz := Nat.le_trans hsz hs }
end
end Go.Proofs.YtekhnolpgoejdaaGreat
