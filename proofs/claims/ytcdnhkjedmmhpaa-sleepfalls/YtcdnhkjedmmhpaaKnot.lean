/-
  Plain facts on floats, more: rounding to the nearest rung, sums and products of finite floats, signs turned. No program is named here.
-/
import Derived.Test.YtcdnhkjedmmhpaaOuts
namespace Go.Proofs.Ytcdnhkjedmmhpaa
open Ieee Go.RowKit
set_option linter.unusedSimpArgs false
set_option linter.unusedVariables false

/-! ### All but the blocks F is as it was; what could be written can be -/
structure Fx (F : List Nat) (w w' : World) : Prop where
  os : w'.os = w.os
  tape : w'.tape = w.tape
  output : w'.output = w.output
  size : w.heap.size ≤ w'.heap.size
  block : ∀ k, k < w.heap.size → k ∉ F → w'.heap[k]? = w.heap[k]?
  froz : ∀ a, w'.frozen? a = w.frozen? a
  thr : ∀ b o n, w.there b o n → w'.there b o n
theorem Fx.refl (F : List Nat) (w : World) : Fx F w w := ⟨rfl, rfl, rfl, Nat.le_refl _, fun _ _ _ => rfl, fun _ => rfl, fun _ _ _ h => h⟩
theorem Fx.trans {F : List Nat} {a b c : World} (h : Fx F a b) (k : Fx F b c) : Fx F a c :=
  ⟨k.os.trans h.os, k.tape.trans h.tape, k.output.trans h.output, Nat.le_trans h.size k.size, fun i hi hn => (k.block i (Nat.lt_of_lt_of_le hi h.size) hn).trans (h.block i hi hn), fun x => (k.froz x).trans (h.froz x), fun b o n ht => k.thr b o n (h.thr b o n ht)⟩
theorem Fx.of_bel {F : List Nat} {a b : World} (h : Bel a b) : Fx F a b := ⟨h.1.os, h.1.tape, h.1.output, h.1.size, fun k hk _ => h.1.block k hk, h.2, fun _ _ _ ht => there_bel ht h⟩
theorem Fx.bel {F : List Nat} {w0 a b : World} (h : Fx F a b) (g : Bel w0 a) (hF : ∀ k ∈ F, w0.heap.size ≤ k) : Bel w0 b :=
  ⟨⟨h.os.trans g.1.os, h.tape.trans g.1.tape, h.output.trans g.1.output, Nat.le_trans g.1.size h.size, fun k hk => (h.block k (Nat.lt_of_lt_of_le hk g.1.size) (fun hm => by have := hF k hm; omega)).trans (g.1.block k hk)⟩, fun x => (h.froz x).trans (g.2 x)⟩
theorem Fx.cellEq {F : List Nat} {a b : World} (h : Fx F a b) {k o : Nat} (hk : k < a.heap.size) (hn : k ∉ F) : b.cell? ⟨k, o, none⟩ = a.cell? ⟨k, o, none⟩ := by
  have e := h.block k hk hn
  unfold World.cell?
  simp only [e]
theorem Fx.cell {F : List Nat} {a b : World} (h : Fx F a b) {k o : Nat} {v : Value} (hn : k ∉ F) (hc : a.cell? ⟨k, o, none⟩ = some v) : b.cell? ⟨k, o, none⟩ = some v :=
  (h.cellEq (World.block_lt_of_cell? a _ hc) hn).trans hc
theorem Fx.rng {F : List Nat} {a b : World} (h : Fx F a b) {k o : Nat} {cs : List Value} (hn : k ∉ F) (hc : a.rangeAt k o cs) : b.rangeAt k o cs := fun j v hj => h.cell hn (hc j v hj)
theorem sets_rest (g : Nat) : ∀ (vs : List Value) (o : Nat) (w : World), (w.setCells g o vs).os = w.os ∧ (w.setCells g o vs).tape = w.tape ∧ (w.setCells g o vs).output = w.output ∧ ∀ k, k ≠ g → (w.setCells g o vs).heap[k]? = w.heap[k]?
  | [], _, _ => ⟨rfl, rfl, rfl, fun _ _ => rfl⟩
  | v :: r, o, w => by
    obtain ⟨h1, h2, h3, h4⟩ := sets_rest g r (o + 1) (w.setCell ⟨g, o, none⟩ v)
    have b := (Below.refl 0 w).setCell (p := ⟨g, o, none⟩) (Nat.zero_le _) v
    rw [World.setCells]
    exact ⟨h1.trans b.os, h2.trans b.tape, h3.trans b.output, fun k hk => (h4 k hk).trans (Below.heap_setCell w _ _ k hk)⟩
theorem Fx.sets {F : List Nat} {a b : World} (h : Fx F a b) {g : Nat} (hg : g ∈ F) (o : Nat) (vs : List Value) : Fx F a (b.setCells g o vs) := by
  obtain ⟨h1, h2, h3, h4⟩ := sets_rest g vs o b
  exact ⟨h1.trans h.os, h2.trans h.tape, h3.trans h.output, by rw [sets_size]; exact h.size, fun k hk hn => (h4 k (by rintro rfl; exact hn hg)).trans (h.block k hk hn), fun x => (sets_frozen _ _ _ _ _).trans (h.froz x), fun c q n ht => World.there_setCells (h.thr c q n ht) _ _ _⟩
theorem sets_out (b : Nat) : ∀ (vs : List Value) (o : Nat) (w : World) (q : Nat), q < o ∨ o + vs.length ≤ q → (w.setCells b o vs).cell? ⟨b, q, none⟩ = w.cell? ⟨b, q, none⟩
  | [], _, _, _, _ => rfl
  | v :: r, o, w, q, h => by
    rw [World.setCells, sets_out b r _ _ _ (by simp only [List.length_cons] at h; omega), World.cell?_setCell_other _ _ _ _ (by intro e; injection e with _ e2; simp only [List.length_cons] at h; omega)]

theorem rngK {W w' : World} {b o : Nat} {cs : List Value} (h : W.rangeAt b o cs) (g : Bel W w') : w'.rangeAt b o cs := fun j v hv => keep g (h j v hv)
/-! ### A region that draws its order: it reads, calls once at the most what matters, and stores last. so i = some (b, o, d): operation i stores what operation d gave at the cells o .. of the block b; rd i: operation i reads or calls, and every store waits for it -/
def cellsV (v : Value) (cs : List Value) : Prop := v = .agg cs.toArray ∨ cs = [v]
def inSo (so : Nat → Option (Nat × Nat × Nat)) (sz : Nat → Nat) (L : Nat → Bool) (b q : Nat) : Prop := ∃ j o d, so j = some (b, o, d) ∧ L j = true ∧ o ≤ q ∧ q < o + sz j
theorem wp_region_knot {P : Program} {id : Nat} {Q : Exit → Act → World → Prop} {a0 : Act} {w : World} {l : List Oper} (n : Nat) (hnl : l.length = n) (Rel : Nat → Value → Prop) (rd : Nat → Bool) (so : Nat → Option (Nat × Nat × Nat)) (sz : Nat → Nat) (F : List Nat) (f : Nat) (A : (Nat → Value) → Act) (hm : P.follows .mixedOrders = true)
    (hB : invB l.toArray a0.tmps.size = true) (hA : ∀ s, putL l.toArray a0 (fun _ => true) s n = A s)
    (hpre : ∀ i j b o d, i < n → rd i = true → so j = some (b, o, d) → rch l.toArray f j i = true)
    (hdep : ∀ i b o d, so i = some (b, o, d) → i < n ∧ rd i = false ∧ b ∈ F ∧ d < n ∧ so d = none ∧ bnd l.toArray i d = true)
    (hne : ∀ i j b o d o' d', i ≠ j → so i = some (b, o, d) → so j = some (b, o', d') → o + sz i ≤ o' ∨ o' + sz j ≤ o)
    (hq : ∀ i o, i < n → l[i]? = some o → so i = none → rd i = true → ∀ s : Nat → Value, (∀ j, j < n → so j = none → bnd l.toArray i j = true → Rel j (s j)) → ∀ W, Bel w W → ∀ K : Act → World → Prop, Veil (∀ v W', Rel i v → Bel W W' → K ((A s).put o.dst v) W') → Oper.wp P o (A s) W K (fun _ _ _ => False))
    (hp : ∀ i o, i < n → l[i]? = some o → so i = none → rd i = false → ∀ s : Nat → Value, (∀ j, j < n → so j = none → bnd l.toArray i j = true → Rel j (s j)) → ∀ W K, Veil (∀ v, Rel i v → K ((A s).put o.dst v) W) → Oper.wp P o (A s) W K (fun _ _ _ => False))
    (hst : ∀ i o b q d, i < n → l[i]? = some o → so i = some (b, q, d) → ∀ s : Nat → Value, (∀ j, j < n → so j = none → bnd l.toArray i j = true → Rel j (s j)) → ∀ W, Fx F w W → ∀ K : Act → World → Prop, Veil (∀ cs : List Value, cellsV (s d) cs → cs.length = sz i → W.there b q cs.length → K ((A s).put o.dst undef) (W.setCells b q cs)) → Oper.wp P o (A s) W K (fun _ _ _ => False))
    (ht : ∀ s : Nat → Value, (∀ j, j < n → so j = none → Rel j (s j)) → ∀ W, Fx F w W → (∀ b q, b < w.heap.size → ¬ inSo so sz (fun _ => true) b q → W.cell? ⟨b, q, none⟩ = w.cell? ⟨b, q, none⟩) → (∀ j b o d, so j = some (b, o, d) → ∃ cs : List Value, cellsV (s d) cs ∧ cs.length = sz j ∧ W.rangeAt b o cs) → Q .normal (A s) W) :
    (Code.region id l.toArray true).wp P Q a0 w := by
  refine wp_region_inv n hnl (fun L s W => (∀ j, j < n → so j = none → L j = true → Rel j (s j)) ∧ ((∀ j, so j ≠ none → L j = false) → Bel w W) ∧ Fx F w W ∧ (∀ b q, b < w.heap.size → ¬ inSo so sz L b q → W.cell? ⟨b, q, none⟩ = w.cell? ⟨b, q, none⟩) ∧ ∀ j b o d, so j = some (b, o, d) → L j = true → L d = true ∧ ∃ cs : List Value, cellsV (s d) cs ∧ cs.length = sz j ∧ W.rangeAt b o cs) A hm hB hA ?_ ?_ ?_ ?_
  · refine ⟨fun j _ _ h => (by cases h), fun _ => bl_drew (bl_refl w), Fx.of_bel (bl_drew (bl_refl w)), fun b q hb _ => (bcell (bl_drew (bl_refl w))).1 b q hb, fun j _ _ _ _ h => (by cases h)⟩
  · rintro i o hi ho L s W hLi hd hsh ⟨hV, hb0, hb, hc, hS⟩ K hK
    cases hso : so i with
    | none =>
      have up : ∀ v : Value, Rel i v → ∀ j, j < n → so j = none → updL L i j = true → Rel j (updS s i v j) := fun v hv j hj hn hl => by
        unfold updL at hl
        unfold updS
        by_cases e : j = i
        · subst e; simpa using hv
        · rw [if_neg e] at hl ⊢; exact hV j hj hn hl
      have out : ∀ b q, ¬ inSo so sz (updL L i) b q → ¬ inSo so sz L b q := fun b q h ⟨j, o, d, h1, h2, h3⟩ => h ⟨j, o, d, h1, by unfold updL; split; rfl; exact h2, h3⟩
      have hol : ∀ (v : Value) (W' : World), (∀ b o cs, W.rangeAt b o cs → W'.rangeAt b o cs) → ∀ j b o d, so j = some (b, o, d) → updL L i j = true → updL L i d = true ∧ ∃ cs : List Value, cellsV (updS s i v d) cs ∧ cs.length = sz j ∧ W'.rangeAt b o cs := fun v W' hW j b o d hsj hl => by
        have e : j ≠ i := by rintro rfl; rw [hso] at hsj; cases hsj
        unfold updL at hl
        rw [if_neg e] at hl
        obtain ⟨hLd, cs, h1, h2, h3⟩ := hS j b o d hsj hl
        have ed : d ≠ i := by rintro rfl; rw [hLi] at hLd; cases hLd
        exact ⟨by unfold updL; rw [if_neg ed]; exact hLd, cs, by unfold updS; rw [if_neg ed]; exact h1, h2, hW _ _ _ h3⟩
      cases hrd : rd i with
      | true =>
        have hno : ∀ j, so j ≠ none → L j = false := fun j hj => by
          cases hl : L j with
          | false => rfl
          | true =>
            obtain ⟨⟨b, q, d⟩, e⟩ := Option.ne_none_iff_exists'.1 hj
            have hjn := (hdep j b q d e).1
            have h1 := rch_up (ops := l.toArray) (L := L) (fun k m hk => hsh k m (by simpa [hnl] using hk)) f j i (by simpa [hnl] using hjn) hl (hpre i j b q d hi hrd e)
            rw [hLi] at h1; cases h1
        have hw := hb0 hno
        refine hq i o hi ho hso hrd s (fun j hj hn hbj => hV j hj hn (hd j hbj)) W hw K (fun v W' hv hw' => hK.out v W' ⟨up v hv, fun _ => bl_trans hw hw', hb.trans (Fx.of_bel hw'), fun b q hbq hn => ?_, hol v W' (fun _ _ _ h => rngK h hw')⟩)
        exact ((bcell hw').1 b q (Nat.lt_of_lt_of_le hbq hb.size)).trans (hc b q hbq (out b q hn))
      | false =>
        refine hp i o hi ho hso hrd s (fun j hj hn hbj => hV j hj hn (hd j hbj)) W K (fun v hv => hK.out v W ⟨up v hv, fun h => hb0 (fun j hj => ?_), hb, fun b q hbq hn => hc b q hbq (out b q hn), hol v W (fun _ _ _ h => h)⟩)
        have h1 := h j hj
        unfold updL at h1
        split at h1
        · cases h1
        · exact h1
    | some bd =>
      obtain ⟨b, q, d⟩ := bd
      obtain ⟨_, hri, hbF, hdn, hdo, hbd⟩ := hdep i b q d hso
      have ed : d ≠ i := by rintro rfl; rw [hso] at hdo; cases hdo
      refine hst i o b q d hi ho hso s (fun j hj hn hbj => hV j hj hn (hd j hbj)) W hb K (fun cs he hl hth => hK.out undef _ ⟨fun j hj hn hl => ?_, fun h => ?_, hb.sets hbF _ _, fun c r hcr hn => ?_, fun j b' o' d' hsj hl' => ?_⟩)
      · have e : j ≠ i := by rintro rfl; rw [hso] at hn; cases hn
        unfold updL at hl
        rw [if_neg e] at hl
        unfold updS
        rw [if_neg e]
        exact hV j hj hn hl
      · have := h i (by rw [hso]; simp)
        unfold updL at this
        simp at this
      · have hnL : ¬ inSo so sz L c r := fun ⟨j, o, d, h1, h2, h3⟩ => hn ⟨j, o, d, h1, by unfold updL; split; rfl; exact h2, h3⟩
        have hni : ¬ (b = c ∧ q ≤ r ∧ r < q + cs.length) := fun ⟨e1, e2, e3⟩ => hn ⟨i, q, d, by rw [hso, e1], by unfold updL; simp, e2, by rw [← hl]; exact e3⟩
        by_cases e : c = b
        · subst e
          rw [sets_out _ _ _ _ _ (by omega)]
          exact hc _ _ hcr hnL
        · rw [sets_far _ _ _ _ _ _ e]
          exact hc _ _ hcr hnL
      · by_cases e : j = i
        · subst e
          rw [hso] at hsj
          cases hsj
          refine ⟨by unfold updL; rw [if_neg ed]; exact hd _ hbd, cs, by unfold updS; rw [if_neg ed]; exact he, hl, World.rangeAt_setCells_same _ _ _ _ hth⟩
        · unfold updL at hl'
          rw [if_neg e] at hl'
          obtain ⟨hLd, cs', h1, h2, h3⟩ := hS j b' o' d' hsj hl'
          have ed' : d' ≠ i := by rintro rfl; rw [hLi] at hLd; cases hLd
          refine ⟨by unfold updL; rw [if_neg ed']; exact hLd, cs', by unfold updS; rw [if_neg ed']; exact h1, h2, fun k u hu => ?_⟩
          by_cases eb : b' = b
          · subst eb
            have hk : k < cs'.length := (List.getElem?_eq_some_iff.1 hu).1
            have := hne j i b' o' d' q d e hsj hso
            rw [sets_out _ _ _ _ _ (by omega)]
            exact h3 k u hu
          · rw [sets_far _ _ _ _ _ _ eb]
            exact h3 k u hu
  · rintro L L' s W hLL ⟨hV, hb0, hb, hc, hS⟩
    have hin : ∀ j, so j ≠ none → L j = L' j := fun j hj => by
      obtain ⟨⟨b, q, d⟩, e⟩ := Option.ne_none_iff_exists'.1 hj
      exact hLL j (hdep j b q d e).1
    refine ⟨fun j hj hn hl => hV j hj hn ((hLL j hj).trans hl), fun h => hb0 (fun j hj => (hin j hj).trans (h j hj)), hb, fun b q hbq hn => hc b q hbq (fun ⟨j, o, d, h1, h2, h3⟩ => hn ⟨j, o, d, h1, (hin j (by rw [h1]; simp)).symm.trans h2, h3⟩), fun j b o d hsj hl => ?_⟩
    obtain ⟨h1, h2⟩ := hS j b o d hsj ((hin j (by rw [hsj]; simp)).trans hl)
    exact ⟨(hLL d (hdep j b o d hsj).2.2.2.1).symm.trans h1, h2⟩
  · rintro s W ⟨hV, hb0, hb, hc, hS⟩
    exact ht s (fun j hj hn => hV j hj hn rfl) W hb hc (fun j b o d hsj => (hS j b o d hsj rfl).2)
end Go.Proofs.Ytcdnhkjedmmhpaa
