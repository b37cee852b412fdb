/-
  Plain facts that go together.
-/
import Derived.Test.YtfohggiehbplkaaOuts
import Derived.Test.YtfohggiehbplkaaFlt
import Derived.Laws.AppendOwn
import Derived.Laws.IdiomCopy
import Derived.OwnWalk
import Derived.WideShapes
import Derived.Test.YtfohggiehbplkaaOnc5
namespace Go.Proofs.Ytfohggiehbplkaa
open Ieee Go.RowKit
set_option linter.unusedSimpArgs false
set_option linter.unusedVariables false
structure Fx (F : List Nat) (w w' : World) : Prop where
 os : w'.os = w.os
 tape : w'.tape = w.tape
 output : w'.output = w.output
 size : w.heap.size ≤ w'.heap.size
 block : ∀ k, k < w.heap.size → k ∉ F → w'.heap[k]? = w.heap[k]?
 froz : ∀ a, w'.frozen? a = w.frozen? a
 thr : ∀ b o n, w.there b o n → w'.there b o n
theorem Fx.refl (F : List Nat) (w : World) : Fx F w w := ⟨rfl, rfl, rfl, Nat.le_refl _, fun _ _ _ => rfl, fun _ => rfl, fun _ _ _ h => h⟩
theorem Fx.trans {F : List Nat} {a b c : World} (h : Fx F a b) (k : Fx F b c) : Fx F a c :=
 ⟨k.os.trans h.os, k.tape.trans h.tape, k.output.trans h.output, Nat.le_trans h.size k.size, fun i hi hn => (k.block i (Nat.lt_of_lt_of_le hi h.size) hn).trans (h.block i hi hn), fun x => (k.froz x).trans (h.froz x), fun b o n ht => k.thr b o n (h.thr b o n ht)⟩
theorem Fx.of_bel {F : List Nat} {a b : World} (h : Bel a b) : Fx F a b := ⟨h.1.os, h.1.tape, h.1.output, h.1.size, fun k hk _ => h.1.block k hk, h.2, fun _ _ _ ht => there_bel ht h⟩
theorem Fx.bel {F : List Nat} {w0 a b : World} (h : Fx F a b) (g : Bel w0 a) (hF : ∀ k ∈ F, w0.heap.size ≤ k) : Bel w0 b :=
 ⟨⟨h.os.trans g.1.os, h.tape.trans g.1.tape, h.output.trans g.1.output, Nat.le_trans g.1.size h.size, fun k hk => (h.block k (Nat.lt_of_lt_of_le hk g.1.size) (fun hm => by have := hF k hm; omega)).trans (g.1.block k hk)⟩, fun x => (h.froz x).trans (g.2 x)⟩
theorem Fx.cellEq {F : List Nat} {a b : World} (h : Fx F a b) {k o : Nat} (hk : k < a.heap.size) (hn : k ∉ F) : b.cell? ⟨k, o, none⟩ = a.cell? ⟨k, o, none⟩ := by
 have e := h.block k hk hn
 unfold World.cell?
 simp only [e]
theorem Fx.cell {F : List Nat} {a b : World} (h : Fx F a b) {k o : Nat} {v : Value} (hn : k ∉ F) (hc : a.cell? ⟨k, o, none⟩ = some v) : b.cell? ⟨k, o, none⟩ = some v :=
 (h.cellEq (World.block_lt_of_cell? a _ hc) hn).trans hc
theorem Fx.rng {F : List Nat} {a b : World} (h : Fx F a b) {k o : Nat} {cs : List Value} (hn : k ∉ F) (hc : a.rangeAt k o cs) : b.rangeAt k o cs := fun j v hj => h.cell hn (hc j v hj)
theorem sets_rest (g : Nat) : ∀ (vs : List Value) (o : Nat) (w : World), (w.setCells g o vs).os = w.os ∧ (w.setCells g o vs).tape = w.tape ∧ (w.setCells g o vs).output = w.output ∧ ∀ k, k ≠ g → (w.setCells g o vs).heap[k]? = w.heap[k]?
 | [], _, _ => ⟨rfl, rfl, rfl, fun _ _ => rfl⟩
 | v :: r, o, w => by
  obtain ⟨h1, h2, h3, h4⟩ := sets_rest g r (o + 1) (w.setCell ⟨g, o, none⟩ v)
  have b := (Below.refl 0 w).setCell (p := ⟨g, o, none⟩) (Nat.zero_le _) v
  rw [World.setCells]
  exact ⟨h1.trans b.os, h2.trans b.tape, h3.trans b.output, fun k hk => (h4 k hk).trans (Below.heap_setCell w _ _ k hk)⟩
theorem Fx.sets {F : List Nat} {a b : World} (h : Fx F a b) {g : Nat} (hg : g ∈ F) (o : Nat) (vs : List Value) : Fx F a (b.setCells g o vs) := by
 obtain ⟨h1, h2, h3, h4⟩ := sets_rest g vs o b
 exact ⟨h1.trans h.os, h2.trans h.tape, h3.trans h.output, by rw [sets_size]; exact h.size, fun k hk hn => (h4 k (by rintro rfl; exact hn hg)).trans (h.block k hk hn), fun x => (sets_frozen _ _ _ _ _).trans (h.froz x), fun c q n ht => World.there_setCells (h.thr c q n ht) _ _ _⟩
theorem sets_out (b : Nat) : ∀ (vs : List Value) (o : Nat) (w : World) (q : Nat), q < o ∨ o + vs.length ≤ q → (w.setCells b o vs).cell? ⟨b, q, none⟩ = w.cell? ⟨b, q, none⟩
 | [], _, _, _, _ => rfl
 | v :: r, o, w, q, h => by
  rw [World.setCells, sets_out b r _ _ _ (by simp only [List.length_cons] at h; omega), World.cell?_setCell_other _ _ _ _ (by intro e; injection e with _ e2; simp only [List.length_cons] at h; omega)]
theorem rngK {W w' : World} {b o : Nat} {cs : List Value} (h : W.rangeAt b o cs) (g : Bel W w') : w'.rangeAt b o cs := fun j v hv => keep g (h j v hv)
def cellsV (v : Value) (cs : List Value) : Prop := v = .agg cs.toArray ∨ cs = [v]
def inSo (so : Nat → Option (Nat × Nat × Nat)) (sz : Nat → Nat) (L : Nat → Bool) (b q : Nat) : Prop := ∃ j o d, so j = some (b, o, d) ∧ L j = true ∧ o ≤ q ∧ q < o + sz j
theorem wp_region_knot {P : Program} {id : Nat} {Q : Exit → Act → World → Prop} {a0 : Act} {w : World} {l : List Oper} (n : Nat) (hnl : l.length = n) (Rel : Nat → Value → Prop) (rd : Nat → Bool) (so : Nat → Option (Nat × Nat × Nat)) (sz : Nat → Nat) (F : List Nat) (f : Nat) (A : (Nat → Value) → Act) (hm : P.follows .mixedOrders = true)
  (hB : invB l.toArray a0.tmps.size = true) (hA : ∀ s, putL l.toArray a0 (fun _ => true) s n = A s)
  (hpre : ∀ i j b o d, i < n → rd i = true → so j = some (b, o, d) → rch l.toArray f j i = true)
  (hdep : ∀ i b o d, so i = some (b, o, d) → i < n ∧ rd i = false ∧ b ∈ F ∧ d < n ∧ so d = none ∧ bnd l.toArray i d = true)
  (hne : ∀ i j b o d o' d', i ≠ j → so i = some (b, o, d) → so j = some (b, o', d') → o + sz i ≤ o' ∨ o' + sz j ≤ o)
  (hq : ∀ i o, i < n → l[i]? = some o → so i = none → rd i = true → ∀ s : Nat → Value, (∀ j, j < n → so j = none → bnd l.toArray i j = true → Rel j (s j)) → ∀ W, Bel w W → ∀ K : Act → World → Prop, Veil (∀ v W', Rel i v → Bel W W' → K ((A s).put o.dst v) W') → Oper.wp P o (A s) W K (fun _ _ _ => False))
  (hp : ∀ i o, i < n → l[i]? = some o → so i = none → rd i = false → ∀ s : Nat → Value, (∀ j, j < n → so j = none → bnd l.toArray i j = true → Rel j (s j)) → ∀ W K, Veil (∀ v, Rel i v → K ((A s).put o.dst v) W) → Oper.wp P o (A s) W K (fun _ _ _ => False))
  (hst : ∀ i o b q d, i < n → l[i]? = some o → so i = some (b, q, d) → ∀ s : Nat → Value, (∀ j, j < n → so j = none → bnd l.toArray i j = true → Rel j (s j)) → ∀ W, Fx F w W → ∀ K : Act → World → Prop, Veil (∀ cs : List Value, cellsV (s d) cs → cs.length = sz i → W.there b q cs.length → K ((A s).put o.dst undef) (W.setCells b q cs)) → Oper.wp P o (A s) W K (fun _ _ _ => False))
  (ht : ∀ s : Nat → Value, (∀ j, j < n → so j = none → Rel j (s j)) → ∀ W, Fx F w W → (∀ b q, b < w.heap.size → ¬ inSo so sz (fun _ => true) b q → W.cell? ⟨b, q, none⟩ = w.cell? ⟨b, q, none⟩) → (∀ j b o d, so j = some (b, o, d) → ∃ cs : List Value, cellsV (s d) cs ∧ cs.length = sz j ∧ W.rangeAt b o cs) → Q .normal (A s) W) :
  (Code.region id l.toArray true).wp P Q a0 w := by
 refine wp_region_inv n hnl (fun L s W => (∀ j, j < n → so j = none → L j = true → Rel j (s j)) ∧ ((∀ j, so j ≠ none → L j = false) → Bel w W) ∧ Fx F w W ∧ (∀ b q, b < w.heap.size → ¬ inSo so sz L b q → W.cell? ⟨b, q, none⟩ = w.cell? ⟨b, q, none⟩) ∧ ∀ j b o d, so j = some (b, o, d) → L j = true → L d = true ∧ ∃ cs : List Value, cellsV (s d) cs ∧ cs.length = sz j ∧ W.rangeAt b o cs) A hm hB hA ?_ ?_ ?_ ?_
 ·refine ⟨fun j _ _ h => (by cases h), fun _ => bl_drew (bl_refl w), Fx.of_bel (bl_drew (bl_refl w)), fun b q hb _ => (bcell (bl_drew (bl_refl w))).1 b q hb, fun j _ _ _ _ h => (by cases h)⟩
 ·rintro i o hi ho L s W hLi hd hsh ⟨hV, hb0, hb, hc, hS⟩ K hK
  cases hso : so i with
  | none =>
   have up : ∀ v : Value, Rel i v → ∀ j, j < n → so j = none → updL L i j = true → Rel j (updS s i v j) := fun v hv j hj hn hl => by
    unfold updL at hl
    unfold updS
    by_cases e : j = i
    ·subst e; simpa using hv
    ·rw [if_neg e] at hl ⊢; exact hV j hj hn hl
   have out : ∀ b q, ¬ inSo so sz (updL L i) b q → ¬ inSo so sz L b q := fun b q h ⟨j, o, d, h1, h2, h3⟩ => h ⟨j, o, d, h1, by unfold updL; split; rfl; exact h2, h3⟩
   have hol : ∀ (v : Value) (W' : World), (∀ b o cs, W.rangeAt b o cs → W'.rangeAt b o cs) → ∀ j b o d, so j = some (b, o, d) → updL L i j = true → updL L i d = true ∧ ∃ cs : List Value, cellsV (updS s i v d) cs ∧ cs.length = sz j ∧ W'.rangeAt b o cs := fun v W' hW j b o d hsj hl => by
    have e : j ≠ i := by rintro rfl; rw [hso] at hsj; cases hsj
    unfold updL at hl
    rw [if_neg e] at hl
    obtain ⟨hLd, cs, h1, h2, h3⟩ := hS j b o d hsj hl
    have ed : d ≠ i := by rintro rfl; rw [hLi] at hLd; cases hLd
    exact ⟨by unfold updL; rw [if_neg ed]; exact hLd, cs, by unfold updS; rw [if_neg ed]; exact h1, h2, hW _ _ _ h3⟩
   cases hrd : rd i with
   | true =>
    have hno : ∀ j, so j ≠ none → L j = false := fun j hj => by
     cases hl : L j with
     | false => rfl
     | true =>
      obtain ⟨⟨b, q, d⟩, e⟩ := Option.ne_none_iff_exists'.1 hj
      have hjn := (hdep j b q d e).1
      have h1 := rch_up (ops := l.toArray) (L := L) (fun k m hk => hsh k m (by simpa [hnl] using hk)) f j i (by simpa [hnl] using hjn) hl (hpre i j b q d hi hrd e)
      rw [hLi] at h1; cases h1
    have hw := hb0 hno
    refine hq i o hi ho hso hrd s (fun j hj hn hbj => hV j hj hn (hd j hbj)) W hw K (fun v W' hv hw' => hK.out v W' ⟨up v hv, fun _ => bl_trans hw hw', hb.trans (Fx.of_bel hw'), fun b q hbq hn => ?_, hol v W' (fun _ _ _ h => rngK h hw')⟩)
    exact ((bcell hw').1 b q (Nat.lt_of_lt_of_le hbq hb.size)).trans (hc b q hbq (out b q hn))
   | false =>
    refine hp i o hi ho hso hrd s (fun j hj hn hbj => hV j hj hn (hd j hbj)) W K (fun v hv => hK.out v W ⟨up v hv, fun h => hb0 (fun j hj => ?_), hb, fun b q hbq hn => hc b q hbq (out b q hn), hol v W (fun _ _ _ h => h)⟩)
    have h1 := h j hj
    unfold updL at h1
    split at h1
    ·cases h1
    ·exact h1
  | some bd =>
   obtain ⟨b, q, d⟩ := bd
   obtain ⟨_, hri, hbF, hdn, hdo, hbd⟩ := hdep i b q d hso
   have ed : d ≠ i := by rintro rfl; rw [hso] at hdo; cases hdo
   refine hst i o b q d hi ho hso s (fun j hj hn hbj => hV j hj hn (hd j hbj)) W hb K (fun cs he hl hth => hK.out undef _ ⟨fun j hj hn hl => ?_, fun h => ?_, hb.sets hbF _ _, fun c r hcr hn => ?_, fun j b' o' d' hsj hl' => ?_⟩)
   ·have e : j ≠ i := by rintro rfl; rw [hso] at hn; cases hn
    unfold updL at hl
    rw [if_neg e] at hl
    unfold updS
    rw [if_neg e]
    exact hV j hj hn hl
   ·have := h i (by rw [hso]; simp)
    unfold updL at this
    simp at this
   ·have hnL : ¬ inSo so sz L c r := fun ⟨j, o, d, h1, h2, h3⟩ => hn ⟨j, o, d, h1, by unfold updL; split; rfl; exact h2, h3⟩
    have hni : ¬ (b = c ∧ q ≤ r ∧ r < q + cs.length) := fun ⟨e1, e2, e3⟩ => hn ⟨i, q, d, by rw [hso, e1], by unfold updL; simp, e2, by rw [← hl]; exact e3⟩
    by_cases e : c = b
    ·subst e
     rw [sets_out _ _ _ _ _ (by omega)]
     exact hc _ _ hcr hnL
    ·rw [sets_far _ _ _ _ _ _ e]
     exact hc _ _ hcr hnL
   ·by_cases e : j = i
    ·subst e
     rw [hso] at hsj
     cases hsj
     refine ⟨by unfold updL; rw [if_neg ed]; exact hd _ hbd, cs, by unfold updS; rw [if_neg ed]; exact he, hl, World.rangeAt_setCells_same _ _ _ _ hth⟩
    ·unfold updL at hl'
     rw [if_neg e] at hl'
     obtain ⟨hLd, cs', h1, h2, h3⟩ := hS j b' o' d' hsj hl'
     have ed' : d' ≠ i := by rintro rfl; rw [hLi] at hLd; cases hLd
     refine ⟨by unfold updL; rw [if_neg ed']; exact hLd, cs', by unfold updS; rw [if_neg ed']; exact h1, h2, fun k u hu => ?_⟩
     by_cases eb : b' = b
     ·subst eb
      have hk : k < cs'.length := (List.getElem?_eq_some_iff.1 hu).1
      have := hne j i b' o' d' q d e hsj hso
      rw [sets_out _ _ _ _ _ (by omega)]
      exact h3 k u hu
     ·rw [sets_far _ _ _ _ _ _ eb]
      exact h3 k u hu
 ·rintro L L' s W hLL ⟨hV, hb0, hb, hc, hS⟩
  have hin : ∀ j, so j ≠ none → L j = L' j := fun j hj => by
   obtain ⟨⟨b, q, d⟩, e⟩ := Option.ne_none_iff_exists'.1 hj
   exact hLL j (hdep j b q d e).1
  refine ⟨fun j hj hn hl => hV j hj hn ((hLL j hj).trans hl), fun h => hb0 (fun j hj => (hin j hj).trans (h j hj)), hb, fun b q hbq hn => hc b q hbq (fun ⟨j, o, d, h1, h2, h3⟩ => hn ⟨j, o, d, h1, (hin j (by rw [h1]; simp)).symm.trans h2, h3⟩), fun j b o d hsj hl => ?_⟩
  obtain ⟨h1, h2⟩ := hS j b o d hsj ((hin j (by rw [hsj]; simp)).trans hl)
  exact ⟨(hLL d (hdep j b o d hsj).2.2.2.1).symm.trans h1, h2⟩
 ·rintro s W ⟨hV, hb0, hb, hc, hS⟩
  exact ht s (fun j hj hn => hV j hj hn rfl) W hb hc (fun j b o d hsj => (hS j b o d hsj rfl).2)
end Go.Proofs.Ytfohggiehbplkaa
namespace Go.Proofs.Ytfohggiehbplkaa
open Ieee Go.RowKit Go.WideShapes
set_option linter.unusedSimpArgs false
set_option linter.unusedVariables false
/-- cells that lie one behind the other -/
def Rw (w : World) (b off : Nat) (R : List Value) : Prop := ∀ (j : Nat) (u : Value), R[j]? = some u → w.cell? ⟨b, off + j, none⟩ = some u
theorem Rw.bel {w w' : World} {b off : Nat} {R : List Value} (h : Rw w b off R) (g : Bel w w') : Rw w' b off R := fun j u hj => by
 have hc := h j u hj
 exact (g.1.cell (World.block_lt_of_cell? _ _ hc)).trans hc
theorem Rw.nil (w : World) (b off : Nat) : Rw w b off [] := fun j u h => by simp at h
def OwnR (sz base : Nat) (w : World) (v : Value) (n : Nat) (R : List Value) : Prop := R.length = n * sz ∧
 ((v = .slice none 0 0 ∧ n = 0) ∨ ∃ g cap, v = .slice (some ⟨g, 0, none⟩) n cap ∧ base ≤ g ∧ n ≤ cap ∧ cap ≤ maxLen ∧ Rw w g 0 R ∧ (∀ j, j < cap * sz → (w.cell? ⟨g, j, none⟩).isSome = true) ∧ ∀ o, w.frozen? ⟨g, o, none⟩ = false)
theorem OwnR.nil (sz base : Nat) (w : World) : OwnR sz base w (.slice none 0 0) 0 [] := ⟨by simp, .inl ⟨rfl, rfl⟩⟩
theorem OwnR.bel {sz base : Nat} {w w' : World} {v : Value} {n : Nat} {R : List Value} (h : OwnR sz base w v n R) (g : Bel w w') : OwnR sz base w' v n R := by
 refine ⟨h.1, ?_⟩
 rcases h.2 with h | ⟨k, cap, e, h1, h2, h3, h4, h5, h6⟩
 ·exact .inl h
 ·refine .inr ⟨k, cap, e, h1, h2, h3, h4.bel g, fun j hj => ?_, fun o => (g.2 _).trans (h6 o)⟩
  obtain ⟨u, hu⟩ := Option.isSome_iff_exists.1 (h5 j hj)
  rw [(g.1.cell (World.block_lt_of_cell? _ _ hu)).trans hu]; rfl
theorem fz_new {W : World} {c : Array Value} {t : TypeId} (o : Nat) : (W.alloc (.cells c t)).frozen? ⟨W.heap.size, o, none⟩ = false := by
 exact ((bl_alloc (bl_refl W) c t).2 _).trans (by simp [World.frozen?])
theorem ownR_new {sz base : Nat} {w : World} {n : Nat} {R : List Value} {cs : Array Value} {cap : Nat} {t : TypeId} (hR : R.length = n * sz) (hb : base ≤ w.heap.size) (hl : n ≤ cap) (hm : cap ≤ maxLen) (hs : cs.size = cap * sz) (hc : ∀ (j : Nat) (u : Value), R[j]? = some u → cs[j]? = some u) : OwnR sz base (w.alloc (.cells cs t)) (.slice (some ⟨w.heap.size, 0, none⟩) n cap) n R := by
 refine ⟨hR, .inr ⟨_, _, rfl, hb, hl, hm, fun j u hj => ?_, fun j hj => ?_, fun o => fz_new o⟩⟩
 ·rw [Nat.zero_add, World.cell?_alloc_new]; exact hc j u hj
 ·rw [World.cell?_alloc_new, Array.getElem?_eq_getElem (by rw [hs]; exact hj)]; rfl
theorem bel_sets {b : Nat} : ∀ (vs : List Value) (o : Nat) {W0 w : World}, Bel W0 w → W0.heap.size ≤ b → Bel W0 (w.setCells b o vs) := by
 intro vs
 induction vs with
 | nil => intro o W0 w h _; exact h
 | cons v r ih => intro o W0 w h hb; exact ih (o + 1) (bl_set h hb) hb
theorem some_setsR {b x : Nat} : ∀ (vs : List Value) (o : Nat) (w : World), (w.cell? ⟨b, x, none⟩).isSome = true → ((w.setCells b o vs).cell? ⟨b, x, none⟩).isSome = true := by
 intro vs
 induction vs with
 | nil => intro o w h; exact h
 | cons v r ih =>
  intro o w h
  refine ih (o + 1) _ ?_
  obtain ⟨u, hu⟩ := Option.isSome_iff_exists.1 h
  by_cases e : o = x
  ·subst e
   rw [World.cell?_setCell_same _ _ _ hu]; rfl
  ·rw [World.cell?_setCell_other _ _ _ _ (by intro e'; injection e' with _ e2 _; exact e e2)]; exact h
/-- elements that lie somewhere, put behind a row of the call's own -/
theorem run_appR {P : Program} {sz by_ base : Nat} {w : World} {v z : Value} {n : Nat} {R N : List Value} (t ty e : TypeId) (ht : P.underlying t = some (.slice e)) (hinf : (P.info? e).map (fun i => (i.zero, i.size, i.bytes)) = some (some z, sz, by_)) (hzc : z.cells.size = sz)
  (a ao m c : Nat) (h : OwnR sz base w v n R) (hN : N.length = m * sz) (hs : Rw w a ao N) (h1 : ∀ u ∈ N, u.oneCell' = true) (hm : 0 < m) (hb : base ≤ w.heap.size) (hml : n + m ≤ maxLen) (hr : (n + m) * by_ ≤ 140737488355328) :
  ∃ v' w', (Builtin.append_ #[t, t] ty #[v, .slice (some ⟨a, ao, none⟩) m c]).run P w = .ok v' w' ∧ OwnR sz base w' v' (n + m) (R ++ N) ∧ (∃ g cap, v' = .slice (some ⟨g, 0, none⟩) (n + m) cap) ∧ ∀ W0, Bel W0 w → W0.heap.size ≤ base → Bel W0 w' := by
 obtain ⟨i0, hi, hz0, hz1, hz2⟩ := info_parts hinf
 have hsr : ∀ j u, N[j]? = some u → w.cell? ((⟨a, ao, none⟩ : Addr).add j) = some u := fun j u hj => by rw [add_plain]; exact hs j u hj
 have hmx : maxLen ≤ 9223372036854775807 := by unfold maxLen; decide
 have zs : ∀ k, (Builtin.zeroCells z.cells k).size = k * sz := fun k => by rw [size_zeroCells, hzc]
 have hRN : (R ++ N).length = (n + m) * sz := by rw [List.length_append, h.1, hN, Nat.add_mul]
 have grown : ∀ old, OwnR sz base (w.drew.alloc (.cells (R.toArray ++ N.toArray ++ Builtin.zeroCells z.cells (grownCap w (n + m) old e - (n + m))) e)) (.slice (some ⟨w.heap.size, 0, none⟩) (n + m) (grownCap w (n + m) old e)) (n + m) (R ++ N) := by
  intro old
  have hge := grownCap_ge w (n + m) old e
  have hcm := grownCap_le_maxLen w (n + m) old e hml
  refine ownR_new (w := w.drew) hRN hb hge hcm ?_ (fun j u hj => ?_)
  ·simp only [Array.size_append, List.size_toArray, zs]
   rw [h.1, hN, ← Nat.add_mul, ← Nat.add_mul]
   congr 1
   omega
  ·have hjl : j < (R ++ N).length := by
    rcases Nat.lt_or_ge j (R ++ N).length with h' | h'
    ·exact h'
    ·rw [List.getElem?_eq_none h'] at hj; cases hj
   rw [Array.getElem?_append_left (by simpa using hjl), show R.toArray ++ N.toArray = (R ++ N).toArray by simp, List.getElem?_toArray]
   exact hj
 have belnew : ∀ cs W0, Bel W0 w → Bel W0 (w.drew.alloc (.cells cs e)) := fun cs W0 h0 => bl_alloc (bl_drew h0) _ _
 rcases h.2 with ⟨rfl, rfl⟩ | ⟨g, cap, rfl, h1', h2, h3, h4, h5, h6⟩
 ·have hR0 : R = [] := by have := h.1; simpa using this
  subst hR0
  have hr' := run_append_nil (P := P) w t ty e i0 z ht hi hz0 ⟨a, ao, none⟩ m c N (by rw [hz1, hN]) hsr hm (by omega) (by rw [hz2]; simp at hr; omega)
  have hg := grown 0
  simp only [Nat.zero_add, List.nil_append] at hg ⊢
  refine ⟨_, _, hr', ?_, ⟨_, _, rfl⟩, fun W0 h0 _ => belnew _ W0 h0⟩
  simpa using hg
 ·by_cases hroom : n + m ≤ cap
  ·have hx : ∀ j, j < N.length → (w.cell? ⟨g, n * sz + j, none⟩).isSome = true := fun j hj => h5 _ (by
    rw [hN] at hj
    have : (n + m) * sz ≤ cap * sz := Nat.mul_le_mul_right _ hroom
    rw [Nat.add_mul] at this
    omega)
   have hf1 := run_firstCells_some (P := P) w sz m ⟨a, ao, none⟩ m c N hN hsr
   have hst := run_storeCells_cells (P := P) g (n * sz) N 0 w (by simpa using hx) (fun j _ => h6 _) h1
   simp only [Nat.add_zero] at hst
   refine ⟨_, w.setCells g (n * sz) N, ?_, ⟨hRN, .inr ⟨g, cap, rfl, h1', hroom, h3, ?_, fun j hj => some_setsR _ _ _ (h5 j hj), fun o => (World.frozen?_setCells g _ _ _ _).trans (h6 o)⟩⟩, ⟨_, _, rfl⟩, fun W0 h0 hw => bel_sets _ _ h0 (by omega)⟩
   ·simp [Builtin.append_, run_underlying ht, sizeOf, typeInfo, hi, hz1, Builtin.lenOf, hroom, hf1, add_plain, hst]
   ·intro j u hj
    rw [Nat.zero_add]
    by_cases hjn : j < R.length
    ·rw [List.getElem?_append_left hjn] at hj
     rw [World.cell?_setCells_out g _ _ _ ⟨g, j, none⟩ (fun _ _ => .inl (by show j < n * sz; rw [← h.1]; exact hjn))]
     have := h4 j u hj
     rwa [Nat.zero_add] at this
    ·obtain ⟨q, rfl⟩ : ∃ q, j = R.length + q := ⟨j - R.length, by omega⟩
     rw [List.getElem?_append_right (by omega), Nat.add_sub_cancel_left] at hj
     have hq : q < N.length := by
      rcases Nat.lt_or_ge q N.length with h' | h'
      ·exact h'
      ·rw [List.getElem?_eq_none h'] at hj; cases hj
     rw [h.1, World.cell?_setCells_in g _ _ w hx q hq]
     rw [List.getElem?_eq_getElem hq] at hj
     exact hj
  ·have hr' := run_append_grow (P := P) w t ty e i0 z ht hi hz0 ⟨g, 0, none⟩ n cap R (by rw [hz1]; exact h.1) (fun j u hj => by rw [add_plain]; exact h4 j u hj) ⟨a, ao, none⟩ m c N (by rw [hz1, hN]) hsr (by omega) (by omega) (by rw [hz2]; exact growslice_fits (by omega) hr)
   exact ⟨_, _, hr', grown cap, ⟨_, _, rfl⟩, fun W0 h0 _ => belnew _ W0 h0⟩
end Go.Proofs.Ytfohggiehbplkaa
namespace Go.Proofs.Ytfohggiehbplkaa
open Ieee Go.RowKit
set_option linter.unusedSimpArgs false
set_option linter.unusedVariables false
def monTB (ops : Array Oper) (m sz : Nat) : Bool := Region.noSelect ops && decide (m ≤ ops.size) && (List.range m).all (fun i => (match ops[i]? with | some o => o.guard.isNone | none => false) && (match dstO ops i with | some d => decide (d < sz) && !(looksO ops i).contains d | none => false) &&
  (List.range m).all (fun j => i == j || (dstO ops i != dstO ops j && (match dstO ops j with | some d => !(looksO ops i).contains d || bnd ops i j | none => true)))) &&
 (List.range ops.size).all (fun k => decide (k < m) || (List.range k).all (fun j => rch ops ops.size k j)) &&
 (List.range ops.size).all (fun i => match ops[i]? with | some o => o.after.all (fun e => !Region.binds .any e || decide (e.on < i)) | none => true)
theorem wp_region_monoT {P : Program} {id : Nat} {Q : Exit → Act → World → Prop} {a0 : Act} {w : World} {l : List Oper} (m : Nat) (Rel : Nat → World → Value → Prop) (A : (Nat → Value) → Act) (hm : P.follows .mixedOrders = true) (hB : monTB l.toArray m a0.tmps.size = true)
  (hA : ∀ s, putL l.toArray a0 (fun _ => true) s m = A s)
  (hmo : ∀ i W W' v, i < m → Bel W W' → Rel i W v → Rel i W' v)
  (hq0 : ∀ i o, i < m → l[i]? = some o → ∀ (s : Nat → Value) (W : World), (∀ j, j < m → bnd l.toArray i j = true → Rel j W (s j)) → Bel w W → ∀ K : Act → World → Prop, Veil (∀ v W', Rel i W' v → Bel W W' → K ((A s).put o.dst v) W') → Oper.wp P o (A s) W K (fun _ _ _ => False))
  (tl : List Nat) (htl : List.range' m (l.length - m) = tl) (ht0 : ∀ (s : Nat → Value) (W : World), (∀ j, j < m → Rel j W (s j)) → Bel w W → wpOps P l.toArray Q tl (A s) W) :
  (Code.region id l.toArray true).wp P Q a0 w := by
 subst htl
 have hq : ∀ i o, i < m → l[i]? = some o → ∀ (s : Nat → Value) (W : World), (∀ j, j < m → bnd l.toArray i j = true → Rel j W (s j)) → Bel w W → ∀ K : Act → World → Prop, (∀ v W', Rel i W' v → Bel W W' → K ((putL l.toArray a0 (fun _ => true) s m).put o.dst v) W') → Oper.wp P o (putL l.toArray a0 (fun _ => true) s m) W K (fun _ _ _ => False) := fun i o h1 h2 s W h3 h4 K h5 => by rw [hA] at h5 ⊢; exact hq0 i o h1 h2 s W h3 h4 K h5
 have ht : ∀ (s : Nat → Value) (W : World), (∀ j, j < m → Rel j W (s j)) → Bel w W → wpOps P l.toArray Q (List.range' m (l.length - m)) (putL l.toArray a0 (fun _ => true) s m) W := fun s W h1 h2 => by rw [hA]; exact ht0 s W h1 h2
 have hz : l.toArray.size = l.length := by simp
 simp only [monTB, Bool.and_eq_true, decide_eq_true_eq, List.all_eq_true, List.mem_range, Bool.or_eq_true] at hB
 obtain ⟨⟨⟨⟨hns, hms⟩, hpre⟩, htail⟩, hdown⟩ := hB
 rw [hz] at hms
 have hgl : ∀ i : Nat, l.toArray[i]? = l[i]? := fun i => by simp
 let I : Array Bool → Act → World → Prop := fun lis a W =>
  lis.size = l.length ∧ shutB l.toArray lis ∧
  ((∃ s : Nat → Value, (∀ k, m ≤ k → k < l.length → lis.getD k false = false) ∧ a = putL l.toArray a0 (fun i => lis.getD i false) s m ∧ (∀ j, j < m → lis.getD j false = true → Rel j W (s j)) ∧ Bel w W) ∨
  (∃ k, m ≤ k ∧ k ≤ l.length ∧ (∀ j, j < l.length → (lis.getD j false = true ↔ j < k)) ∧ wpOps P l.toArray Q (List.range' k (l.length - k)) a W))
 have waitsAll : ∀ (lis : Array Bool) k o, lis.size = l.length → shutB l.toArray lis → m ≤ k → l[k]? = some o → (∀ e ∈ o.after, Region.binds .any e = true → lis.getD e.on false = true) → ∀ j, j < k → lis.getD j false = true := by
  intro lis k o hsz hsh hk ho hall j hj
  have hkl : k < l.length := by
   rcases Nat.lt_or_ge k l.length with h' | h'
   ·exact h'
   ·rw [List.getElem?_eq_none h'] at ho; cases ho
  have := htail k (by rw [hz]; exact hkl)
  rcases this with h1 | h1
  ·omega
  ·exact rch_listed hsh _ k j (fun i hi => by
    obtain ⟨e, he, hb, rfl⟩ := (bnd_of (by rw [hgl]; exact ho)).1 hi
    exact hall e he hb) (h1 j hj)
 refine wp_region_any hm (wpAny_inv I ?_ ?_ _ _ _ _ (by simp) ?_)
 ·rintro lis a W i ⟨hsz, hsh, hI⟩ hi
  obtain ⟨hun, o, ho, hall⟩ := mem_ready.1 hi
  have ho' : l[i]? = some o := by rw [← hgl]; exact ho
  have hil : i < l.length := by
   rcases Nat.lt_or_ge i l.length with h' | h'
   ·exact h'
   ·rw [List.getElem?_eq_none h'] at ho'; cases ho'
  have hun' : lis.getD i false = false := by simpa [hsz, hil] using hun
  have hdep : ∀ j, bnd l.toArray i j = true → lis.getD j false = true := fun j hj => by
   obtain ⟨e, he, hb, rfl⟩ := (bnd_of ho).1 hj
   exact hall e he hb
  have hsh' := shut_set hsh hdep (by rw [hsz]; exact hil)
  rcases hI with ⟨s, hlate, rfl, hrel, hbel⟩ | ⟨k, hk1, hk2, hk3, hk⟩
  ·by_cases him : i < m
   ·-- of the first m
    have hp := hpre i him
    simp only [ho] at hp
    obtain ⟨⟨hg, hd⟩, hrow⟩ := hp
    have hdo : dstO l.toArray i = o.dst := by simp [dstO, ho']
    obtain ⟨d, hdd⟩ : ∃ d, o.dst = some d := by
     rw [hdo] at hd
     cases hx : o.dst with
     | none => rw [hx] at hd; simp at hd
     | some d => exact ⟨d, rfl⟩
    have hds : d < a0.tmps.size ∧ d ∉ looksO l.toArray i := by rw [hdo, hdd] at hd; simpa using hd
    have hg' : o.guard = none := by simpa using hg
    have hw : Region.wanted o (yielded l.toArray (putL l.toArray a0 (fun i => lis.getD i false) s m).tmps) = true := by simp [Region.wanted, hg']
    have hLn : ∀ j, j ≠ i → (lis.setIfInBounds i true).getD j false = lis.getD j false := fun j hj => getD_set_ne false (fun e => hj e.symm)
    have hLi : (lis.setIfInBounds i true).getD i false = true := getD_set_self (by rw [hsz]; exact hil) false
    have hdis : ∀ j, j < m → j ≠ i → dstO l.toArray i ≠ dstO l.toArray j ∨ dstO l.toArray j = none := by
     intro j hj hne
     rcases hrow j hj with h1 | h1
     ·simp at h1; omega
     ·left; simpa using h1.1
    have hput : ∀ v, (putL l.toArray a0 (fun i => lis.getD i false) s m).put o.dst v = putL l.toArray a0 (fun j => (lis.setIfInBounds i true).getD j false) (updS s i v) m := fun v => by
     rw [← hdo]
     exact putL_put (L := fun i => lis.getD i false) (L' := fun j => (lis.setIfInBounds i true).getD j false) hun' hLi hLn m him hdis
    have hlate' : ∀ k, m ≤ k → k < l.length → (lis.setIfInBounds i true).getD k false = false := fun k h1 h2 => by rw [hLn k (by omega)]; exact hlate k h1 h2
    have hrel' : ∀ v W', Rel i W' v → Bel W W' → ∀ j, j < m → (lis.setIfInBounds i true).getD j false = true → Rel j W' (updS s i v j) := by
     intro v W' hv hbW j hj hl
     by_cases e : j = i
     ·subst e; simpa [updS] using hv
     ·rw [hLn j e] at hl
      simpa [updS, e] using hmo j W W' (s j) hj hbW (hrel j hj hl)
    unfold wpOp
    rw [ho]
    simp only [hw, if_true]
    left
    have hex : execOp (putL l.toArray a0 (fun i => lis.getD i false) s m).eval o = execOp (putL l.toArray a0 (fun _ => true) s m).eval o := by
     apply execOp_congr o (fun cs b => Region.noSelect_spec hns i o cs b ho)
     intro x hx
     apply putL_eval
     intro j hj hlj d' hd' hxd
     subst hxd
     by_cases e : i = j
     ·subst e
      rw [hdo, hdd] at hd'
      cases hd'
      exact hds.2 (by unfold looksO; rw [ho]; exact List.mem_append_left _ (List.mem_filterMap.2 ⟨.tmp d, by simpa using hx, rfl⟩))
     ·rcases hrow j hj with h1 | h1
      ·simp at h1; exact e h1
      ·have h2 := h1.2
       rw [hd'] at h2
       have hself : d' ∈ looksO l.toArray i := by unfold looksO; rw [ho]; exact List.mem_append_left _ (List.mem_filterMap.2 ⟨.tmp d', by simpa using hx, rfl⟩)
       simp only [Bool.or_eq_true, Bool.not_eq_true', List.contains_eq_mem, decide_eq_false_iff_not] at h2
       rcases h2 with h2 | h2
       ·exact h2 hself
       ·have := hdep j h2
        simp only [hlj] at this
        cases this
    have h1 := hq i o him ho' s W (fun j hj hb => hrel j hj (hdep j hb)) hbel (fun a' W' => ∃ v, a' = (putL l.toArray a0 (fun _ => true) s m).put (some d) v ∧ Rel i W' v ∧ Bel W W') (fun v W' hv hb => ⟨v, by rw [hdd], hv, hb⟩)
    unfold Oper.wp at h1 ⊢
    rw [hex]
    refine upon_carry hdd (by rw [(putL_size m).1]; exact hds.1) h1 ?_
    rintro v W' ⟨hv, hb⟩
    exact ⟨by simpa using hsz, hsh', .inl ⟨_, hlate', hput v, hrel' v W' hv hb, bl_trans hbel hb⟩⟩
   ·-- the first of what follows
    have hfull := waitsAll lis i o hsz hsh (by omega) ho' hall
    have him' : i = m := by
     rcases Nat.lt_or_ge m i with h' | h'
     ·have := hlate m (Nat.le_refl _) (by omega)
      rw [hfull m h'] at this; cases this
     ·omega
    subst him'
    have hT : putL l.toArray a0 (fun j => lis.getD j false) s i = putL l.toArray a0 (fun _ => true) s i := putL_congr i (fun j hj => ⟨hfull j hj, rfl⟩)
    have h1 := ht s W (fun j hj => hrel j hj (hfull j hj)) hbel
    rw [← hT, show l.length - i = (l.length - (i + 1)) + 1 by omega, List.range'_succ, wpOps_cons] at h1
    refine wpOp_mono (fun a' W' h' => ⟨by simpa using hsz, hsh', .inr ⟨i + 1, by omega, by omega, fun j hj => ?_, h'⟩⟩) h1
    by_cases e : j = i
    ·subst e; exact ⟨fun _ => by omega, fun _ => getD_set_self (by rw [hsz]; exact hil) false⟩
    ·rw [getD_set_ne false (fun e' => e e'.symm)]
     constructor
     ·intro h2
      rcases Nat.lt_or_ge j i with h' | h'
      ·omega
      ·have := hlate j (by omega) hj
       rw [h2] at this; cases this
     ·intro h2; exact hfull j (by omega)
  ·have hki : i = k := by
    have h1 : ¬ i < k := fun h' => by have := (hk3 i hil).2 h'; rw [hun'] at this; cases this
    have h2 := waitsAll lis i o hsz hsh (by omega) ho' hall
    rcases Nat.lt_or_ge k i with h' | h'
    ·have := (hk3 k (by omega)).1 (h2 k h'); omega
    ·omega
   subst hki
   rw [show l.length - i = (l.length - (i + 1)) + 1 by omega, List.range'_succ, wpOps_cons] at hk
   refine wpOp_mono (fun a' W' h' => ⟨by simpa using hsz, hsh', .inr ⟨i + 1, by omega, by omega, fun j hj => ?_, h'⟩⟩) hk
   by_cases e : j = i
   ·subst e; exact ⟨fun _ => by omega, fun _ => getD_set_self (by rw [hsz]; exact hil) false⟩
   ·rw [getD_set_ne false (fun e' => e e'.symm), hk3 j hj]
    omega
 ·rintro lis a W ⟨hsz, hsh, hI⟩ hr0
  have hallL : ∀ j, j < l.length → lis.getD j false = true := by
   intro j
   induction j using Nat.strongRecOn with
   | _ j ih =>
    intro hj
    cases hc : lis.getD j false with
    | true => rfl
    | false =>
     exfalso
     have : j ∈ Region.ready .any l.toArray lis := by
      refine mem_ready.2 ⟨by simpa [hsz, hj] using hc, l[j], by simp [hj], fun e he hbe => ?_⟩
      have h1 := hdown j (by rw [hz]; exact hj)
      rw [hgl, List.getElem?_eq_getElem hj] at h1
      simp only [Array.all_eq_true_iff_forall_mem, Bool.or_eq_true, Bool.not_eq_true', decide_eq_true_eq] at h1
      have h2 : e.on < j := by
       rcases h1 e he with h2 | h2
       ·rw [hbe] at h2; cases h2
       ·exact h2
      exact ih e.on h2 (by omega)
     rw [hr0] at this
     cases this
  rcases hI with ⟨s, hlate, rfl, hrel, hbel⟩ | ⟨k, hk1, hk2, hk3, hk⟩
  ·have hml : m = l.length := by
    rcases Nat.lt_or_ge m l.length with h' | h'
    ·have := hlate m (Nat.le_refl _) h'
     rw [hallL m h'] at this; cases this
    ·omega
   subst hml
   have hT : putL l.toArray a0 (fun j => lis.getD j false) s l.length = putL l.toArray a0 (fun _ => true) s l.length := putL_congr _ (fun j hj => ⟨hallL j hj, rfl⟩)
   have h1 := ht s W (fun j hj => hrel j hj (hallL j hj)) hbel
   rw [← hT] at h1
   simpa [wpOps] using h1
  ·have hkl : k = l.length := by
    rcases Nat.lt_or_ge k l.length with h' | h'
    ·have := (hk3 k h').1 (hallL k h'); omega
    ·omega
   subst hkl
   simpa [wpOps] using hk
 ·refine ⟨by simp, ?_, .inl ⟨fun _ => undef, ?_, ?_, ?_, bl_drew (bl_refl w)⟩⟩
  ·intro k j hk; rw [rep_false] at hk; cases hk
  ·intro k _ _; exact rep_false _ _
  ·have : ∀ k, putL l.toArray a0 (fun i => (Array.replicate l.toArray.size false).getD i false) (fun _ => undef) k = a0 := by
    intro k
    induction k with
    | zero => rfl
    | succ k ih => unfold putL; rw [if_neg (by rw [rep_false]; decide), ih]
   exact (this m).symm
  ·intro j _ h; rw [rep_false] at h; cases h
end Go.Proofs.Ytfohggiehbplkaa
