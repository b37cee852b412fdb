/-
  Plain facts on floats, more: rounding to the nearest rung, sums and products of finite floats, signs turned. No program is named here.
-/
import Derived.Test.YtcdnhkjedmmhpaaOnc7
import Derived.Deep.MidRow
namespace Go.Proofs.Ytcdnhkjedmmhpaa
open Ieee Go.RowKit
set_option linter.unusedSimpArgs false
set_option linter.unusedVariables false

/-! ### A region that draws its order, reads, and stores whole structs into blocks of their own (a function's results): so i = some (b, d): operation i stores what operation d gave into the block b -/
def Bo (so : Nat → Option (Nat × Nat)) (w W : World) : Prop := w.heap.size ≤ W.heap.size ∧ (∀ b o, b < w.heap.size → (∀ i d, so i ≠ some (b, d)) → W.cell? ⟨b, o, none⟩ = w.cell? ⟨b, o, none⟩) ∧ (∀ a, W.frozen? a = w.frozen? a) ∧ ∀ b o n, w.there b o n → W.there b o n
theorem there_bel {w w' : World} {b o n : Nat} (h : w.there b o n) (g : Bel w w') : w'.there b o n := fun j hj => by
  obtain ⟨h1, h2⟩ := h j hj
  obtain ⟨u, hu⟩ := Option.isSome_iff_exists.1 h1
  exact ⟨by rw [keep g hu]; rfl, by rw [g.2]; exact h2⟩
theorem Bo.bel {so : Nat → Option (Nat × Nat)} {w W W' : World} (h : Bo so w W) (g : Bel W W') : Bo so w W' :=
  ⟨Nat.le_trans h.1 g.size, fun b o hb hn => ((bcell g).1 b o (Nat.lt_of_lt_of_le hb h.1)).trans (h.2.1 b o hb hn), fun a => (g.2 a).trans (h.2.2.1 a), fun b o n ht => there_bel (h.2.2.2 b o n ht) g⟩
theorem Bo.rng {so : Nat → Option (Nat × Nat)} {w W : World} (h : Bo so w W) {b o : Nat} {cs : List Value} (hr : w.rangeAt b o cs) (hn : ∀ i d, so i ≠ some (b, d)) : W.rangeAt b o cs := fun j v hv => by
  have h1 := hr j v hv
  exact (h.2.1 b (o + j) (World.block_lt_of_cell? w _ h1) hn).trans h1
theorem Bo.cell {so : Nat → Option (Nat × Nat)} {w W : World} (h : Bo so w W) {b o : Nat} {v : Value} (h1 : w.cell? ⟨b, o, none⟩ = some v) (hn : ∀ i d, so i ≠ some (b, d)) : W.cell? ⟨b, o, none⟩ = some v :=
  (h.2.1 b o (World.block_lt_of_cell? w _ h1) hn).trans h1
theorem sets_size (b : Nat) : ∀ (vs : List Value) (o : Nat) (w : World), (w.setCells b o vs).heap.size = w.heap.size
  | [], _, _ => rfl
  | v :: r, o, w => by rw [World.setCells, sets_size b r]; simp
theorem sets_bel {b : Nat} : ∀ (vs : List Value) (o : Nat) {W0 w : World}, Bel W0 w → W0.heap.size ≤ b → Bel W0 (w.setCells b o vs)
  | [], _, _, _, h, _ => h
  | v :: r, o, _, w, h, hb => by rw [World.setCells]; exact sets_bel r (o + 1) (bl_set h hb) hb
theorem sets_frozen (b : Nat) : ∀ (vs : List Value) (o : Nat) (w : World) (a : Addr), (w.setCells b o vs).frozen? a = w.frozen? a
  | [], _, _, _ => rfl
  | v :: r, o, w, a => by rw [World.setCells, sets_frozen b r, World.frozen?_setCell]
theorem sets_far (b : Nat) : ∀ (vs : List Value) (o : Nat) (w : World) (c q : Nat), c ≠ b → (w.setCells b o vs).cell? ⟨c, q, none⟩ = w.cell? ⟨c, q, none⟩
  | [], _, _, _, _, _ => rfl
  | v :: r, o, w, c, q, h => by rw [World.setCells, sets_far b r _ _ _ _ h, World.cell?_setCell_other _ _ _ _ (by intro e; injection e with e1; exact h e1.symm)]
theorem wp_region_outs {P : Program} {id : Nat} {Q : Exit → Act → World → Prop} {a0 : Act} {w w0 : World} {l : List Oper} (n : Nat) (hnl : l.length = n) (Rel : Nat → Value → Prop) (so : Nat → Option (Nat × Nat)) (A : (Nat → Value) → Act) (hm : P.follows .mixedOrders = true)
    (hB : invB l.toArray a0.tmps.size = true) (hA : ∀ s, putL l.toArray a0 (fun _ => true) s n = A s) (hbel : Bel w0 w)
    (hdep : ∀ i b d, i < n → so i = some (b, d) → d < n ∧ so d = none ∧ bnd l.toArray i d = true)
    (hne : ∀ i j b d b' d', i ≠ j → so i = some (b, d) → so j = some (b', d') → b ≠ b')
    (hS0 : ∀ i b d, so i = some (b, d) → w0.heap.size ≤ b)
    (hq : ∀ i o, i < n → l[i]? = some o → so i = none → ∀ s : Nat → Value, (∀ j, j < n → so j = none → bnd l.toArray i j = true → Rel j (s j)) → ∀ W, Bo so w W → ∀ K : Act → World → Prop, Veil (∀ v W', Rel i v → Bel W W' → K ((A s).put o.dst v) W') → Oper.wp P o (A s) W K (fun _ _ _ => False))
    (hst : ∀ i o b d, i < n → l[i]? = some o → so i = some (b, d) → ∀ s : Nat → Value, (∀ j, j < n → so j = none → bnd l.toArray i j = true → Rel j (s j)) → ∀ W, Bo so w W → ∀ K : Act → World → Prop, Veil (∀ cs : List Value, s d = .agg cs.toArray → W.there b 0 cs.length → K ((A s).put o.dst undef) (W.setCells b 0 cs)) → Oper.wp P o (A s) W K (fun _ _ _ => False))
    (ht : ∀ s : Nat → Value, (∀ j, j < n → so j = none → Rel j (s j)) → ∀ W, Bel w0 W → Bo so w W → (∀ j b d, j < n → so j = some (b, d) → ∃ cs : List Value, s d = .agg cs.toArray ∧ W.rangeAt b 0 cs) → Q .normal (A s) W) :
    (Code.region id l.toArray true).wp P Q a0 w := by
  refine wp_region_inv n hnl (fun L s W => (∀ j, j < n → so j = none → L j = true → Rel j (s j)) ∧ Bel w0 W ∧ Bo so w W ∧ ∀ j b d, j < n → so j = some (b, d) → L j = true → L d = true ∧ ∃ cs : List Value, s d = .agg cs.toArray ∧ W.rangeAt b 0 cs) A hm hB hA ?_ ?_ ?_ ?_
  · refine ⟨fun j _ _ h => (by cases h), bl_drew hbel, ?_, fun j _ _ _ _ h => (by cases h)⟩
    exact Bo.bel ⟨Nat.le_refl _, fun _ _ _ _ => rfl, fun _ => rfl, fun _ _ _ h => h⟩ (bl_drew (bl_refl w))
  · rintro i o hi ho L s W hLi hd hsh ⟨hV, hb0, hb, hS⟩ K hK
    cases hso : so i with
    | none =>
      refine hq i o hi ho hso s (fun j hj hn hbj => hV j hj hn (hd j hbj)) W hb K (fun v W' hv hw => hK.out v W' ⟨fun j hj hn hl => ?_, bl_trans hb0 hw, hb.bel hw, fun j b d hj hsj hl => ?_⟩)
      · unfold updL at hl
        unfold updS
        by_cases e : j = i
        · subst e; simpa using hv
        · rw [if_neg e] at hl ⊢; exact hV j hj hn hl
      · have e : j ≠ i := by rintro rfl; rw [hso] at hsj; cases hsj
        unfold updL at hl
        rw [if_neg e] at hl
        obtain ⟨hLd, cs, h1, h2⟩ := hS j b d hj hsj hl
        have ed : d ≠ i := by rintro rfl; rw [hLi] at hLd; cases hLd
        refine ⟨by unfold updL; rw [if_neg ed]; exact hLd, cs, by unfold updS; rw [if_neg ed]; exact h1, fun k u hu => keep hw (h2 k u hu)⟩
    | some bd =>
      obtain ⟨b, d⟩ := bd
      obtain ⟨hdn, hdo, hbd⟩ := hdep i b d hi hso
      have ed : d ≠ i := by rintro rfl; rw [hso] at hdo; cases hdo
      refine hst i o b d hi ho hso s (fun j hj hn hbj => hV j hj hn (hd j hbj)) W hb K (fun cs he hth => hK.out undef _ ⟨fun j hj hn hl => ?_, ?_, ?_, fun j b' d' hj hsj hl => ?_⟩)
      · have e : j ≠ i := by rintro rfl; rw [hso] at hn; cases hn
        unfold updL at hl
        rw [if_neg e] at hl
        unfold updS
        rw [if_neg e]
        exact hV j hj hn hl
      · exact sets_bel cs 0 hb0 (hS0 i b d hso)
      · refine ⟨by rw [sets_size]; exact hb.1, fun c q hc hn => ?_, fun a => by rw [sets_frozen]; exact hb.2.2.1 a, fun c q k h => World.there_setCells (hb.2.2.2 c q k h) _ _ _⟩
        rw [sets_far _ _ _ _ _ _ (by rintro rfl; exact hn i d hso)]
        exact hb.2.1 c q hc hn
      · by_cases e : j = i
        · subst e
          rw [hso] at hsj
          cases hsj
          refine ⟨by unfold updL; rw [if_neg ed]; exact hd _ hbd, cs, by unfold updS; rw [if_neg ed]; exact he, World.rangeAt_setCells_same _ _ _ _ hth⟩
        · unfold updL at hl
          rw [if_neg e] at hl
          obtain ⟨hLd, cs', h1, h2⟩ := hS j b' d' hj hsj hl
          have ed' : d' ≠ i := by rintro rfl; rw [hLi] at hLd; cases hLd
          refine ⟨by unfold updL; rw [if_neg ed']; exact hLd, cs', by unfold updS; rw [if_neg ed']; exact h1, fun k u hu => ?_⟩
          rw [sets_far _ _ _ _ _ _ (hne j i b' d' b d e hsj hso)]
          exact h2 k u hu
  · rintro L L' s W hLL ⟨hV, hb0, hb, hS⟩
    refine ⟨fun j hj hn hl => hV j hj hn ((hLL j hj).trans hl), hb0, hb, fun j b d hj hsj hl => ?_⟩
    obtain ⟨h1, h2⟩ := hS j b d hj hsj ((hLL j hj).trans hl)
    exact ⟨(hLL d (hdep j b d hj hsj).1).symm.trans h1, h2⟩
  · rintro s W ⟨hV, hb0, hb, hS⟩
    exact ht s (fun j hj hn => hV j hj hn rfl) W hb0 hb (fun j b d hj hsj => (hS j b d hj hsj rfl).2)
end Go.Proofs.Ytcdnhkjedmmhpaa
