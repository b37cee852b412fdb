/-
  Plain facts on floats, more: rounding to the nearest rung, sums and products of finite floats, signs turned. No program is named here.
-/
import Derived.Test.YtekhnolpgoejdabGsx
import Derived.Test.YtekhnolpgoejdabColm
import Derived.RangeFuncLeaves
import Derived.RangeFuncRecord
import Derived.Laws.MakeOwn
import Derived.RangeFuncWrites
import Derived.RangeFuncFrom
namespace Go.Proofs.Ytekhnolpgoejdab
open Ieee Go.RowKit
set_option linter.unusedSimpArgs false
set_option linter.unusedVariables false

/-! ### Which boxes lie where, by a width -/
def near53 (c : Int) : Prop := -9007199254740992 ≤ c ∧ c ≤ 9007199254740992
def inSp (a : Sp4) : Prop := near53 a.1.1 ∧ near53 a.1.2 ∧ near53 a.2.1 ∧ near53 a.2.2
def wideS (a : Sp4) : Bool := decide (4 ≤ a.2.1 - a.1.1) || decide (4 ≤ a.2.2 - a.1.2)
def spO (d : Nat) (b : Bo) : Sp4 := ((coK b.1 d, coK b.2.1 d), (coK b.2.2.1 d, coK b.2.2.2 d))
def smB (B : Nat → Bo) (d i : Nat) : Bool := mayO (B i) && !wideS (spO d (B i))
def wdB (B : Nat → Bo) (d i : Nat) : Bool := mayO (B i) && wideS (spO d (B i))
def grF (B : Nat → Bo) (d k : Nat) (c : Ce) : List Nat := nums (fun i => smB B d i && decide (c ∈ cellsL (spO d (B i)))) k
theorem grF_no {B : Nat → Bo} {d k : Nat} (h : smB B d k = false) : grF B d (k + 1) = grF B d k := by
  funext c
  unfold grF
  rw [nums_no (by rw [h]; rfl)]
/-- the groups while a box is put into its cells -/
def grP (B : Nat → Bo) (d k : Nat) (pre : List Ce) (c : Ce) : List Nat := grF B d k c ++ List.replicate (pre.count c) k
theorem grP_nil (B : Nat → Bo) (d k : Nat) : grP B d k [] = grF B d k := by
  funext c; unfold grP; simp
theorem grP_snoc (B : Nat → Bo) (d k : Nat) (pre : List Ce) (x : Ce) : grP B d k (pre ++ [x]) = upF (grP B d k pre) x k := by
  funext c
  unfold grP upF
  rw [List.count_append]
  by_cases h : c = x
  · subst h
    rw [if_pos rfl, List.append_assoc]
    congr 1
    rw [List.count_singleton_self, List.replicate_succ']
  · rw [if_neg h]
    have : List.count c [x] = 0 := List.count_eq_zero.2 (by simp [h])
    rw [this, Nat.add_zero]
theorem cnt_one : ∀ {l : List Ce} {c : Ce}, l.Nodup → c ∈ l → l.count c = 1
  | a :: l, c, hn, hc => by
    rw [List.nodup_cons] at hn
    by_cases e : a = c
    · subst e
      rw [List.count_cons_self, List.count_eq_zero.2 hn.1]
    · rw [List.count_cons_of_ne e]
      exact cnt_one hn.2 (by rcases List.mem_cons.1 hc with h | h; exact absurd h.symm e; exact h)
theorem grP_all {B : Nat → Bo} {d k : Nat} (h : smB B d k = true) : grP B d k (cellsL (spO d (B k))) = grF B d (k + 1) := by
  funext c
  unfold grP grF
  by_cases hc : c ∈ cellsL (spO d (B k))
  · rw [nums_yes (by rw [h]; simpa using hc), cnt_one (nodup_cellsL _) hc]
    rfl
  · rw [nums_no (by rw [h]; simpa using hc), List.count_eq_zero.2 hc]
    simp
/-- what box.Check takes has numbers that are numbers -/
theorem may_nan4 {b : Bo} (h : mayO b = true) : nanK .f64 b.1 = false ∧ nanK .f64 b.2.1 = false ∧ nanK .f64 b.2.2.1 = false ∧ nanK .f64 b.2.2.2 = false := by
  unfold mayO bChk bFin at h
  simp only [Bool.and_eq_true] at h
  exact ⟨fin_num h.1.1.1.1.1, fin_num h.1.1.1.1.2, fin_num h.1.1.1.2, fin_num h.1.1.2⟩
theorem sp_in {d : Nat} {b : Bo} (hd : mayW d = true) (h : mayO b = true) : inSp (spO d b) := by
  obtain ⟨h1, h2, h3, h4⟩ := may_nan4 h
  exact ⟨(co_all h1 hd).2.2.2.2, (co_all h2 hd).2.2.2.2, (co_all h3 hd).2.2.2.2, (co_all h4 hd).2.2.2.2⟩
/-- a small box lies over sixteen cells at most -/
theorem small_16 {a : Sp4} (h : wideS a = false) : (cellsL a).length ≤ 16 := by
  unfold wideS at h
  simp only [Bool.or_eq_false_iff, decide_eq_false_iff_not] at h
  have : (cellsL a).length = wid a * hgt a := colsL_len a _
  rw [this]
  have h1 : wid a ≤ 4 := by unfold wid; omega
  have h2 : hgt a ≤ 4 := by unfold hgt; omega
  exact Nat.le_trans (Nat.mul_le_mul h1 h2) (by decide)
theorem grP_len (B : Nat → Bo) (d k : Nat) (pre : List Ce) (c : Ce) : (grP B d k pre c).length ≤ k + pre.length := by
  unfold grP grF
  rw [List.length_append, List.length_replicate]
  have h1 := nums_len (fun i => smB B d i && decide (c ∈ cellsL (spO d (B i)))) k
  have h2 := List.count_le_length (a := c) (l := pre)
  omega
end Go.Proofs.Ytekhnolpgoejdab
namespace Go.Proofs.Ytekhnolpgoejdab
open Ieee Go.RowKit
set_option linter.unusedSimpArgs false
set_option linter.unusedVariables false

/-! ### A function that ranges over functions in a loop: the marks among its deferred calls at its return -/
structure Shut (Ds : List Nat) (W W' : World) : Prop where
  os : W'.os = W.os
  tape : W'.tape = W.tape
  output : W'.output = W.output
  size : W'.heap.size = W.heap.size
  block : ∀ k, ¬ k ∈ Ds → W'.heap[k]? = W.heap[k]?
theorem leaves_marks {F : Fence} {n : Nat} {P : Program} {fn : Func} {tmps : Array Value} {R : Ending → World → Prop} : ∀ (ds : List Deferred) (Ds : List Nat) (W : World), ds.map (fun d => d.target) = Ds.map Target.collected → Ds.Nodup → (∀ D, D ∈ Ds → W.heap[D]? = some (.deferred (some []))) →
    (∀ W', Shut Ds W W' → LeavesIn F n P fn tmps R [] .returning W') → LeavesInM F n P fn tmps R ds .returning W
  | [], [], W, _, _, _, hK => by
    have := hK W ⟨rfl, rfl, rfl, rfl, fun _ _ => rfl⟩
    simpa [LeavesInM] using this
  | [], D :: Ds, W, e, _, _, _ => by simp at e
  | d :: ds, [], W, e, _, _, _ => by simp at e
  | d :: ds, D :: Ds, W, e, hn, hD, hK => by
    simp only [List.map_cons, List.cons.injEq] at e
    have hnD := List.nodup_cons.1 hn
    unfold LeavesInM
    refine ⟨by simp, .inl ⟨D, W.putObj D (.deferred none), e.1, run_takeDeferred (hD D (by simp)), ?_⟩⟩
    refine leaves_marks ds Ds _ e.2 hnD.2 (fun E hE => ?_) (fun W' h => hK W' ⟨h.os, h.tape, h.output, h.size.trans (by simp), fun k hk => ?_⟩)
    · have hne : E ≠ D := fun e => hnD.1 (by rw [← e]; exact hE)
      rw [World.putObj_heap_other hne]
      exact hD E (by simp [hE])
    · rw [h.block k (fun h => hk (by simp [h])), World.putObj_heap_other (show k ≠ D from fun e => hk (by simp [e]))]
end Go.Proofs.Ytekhnolpgoejdab
namespace Go.Proofs.Ytekhnolpgoejdab
open Ieee Go.RowKit
set_option linter.unusedSimpArgs false
set_option linter.unusedVariables false
section
variable {W W' : World} {s0 n : Nat} {sa : Option Addr} {cap : Nat} {S : Nat → Sp4} {V : Nat → Bool} {k : Nat} {v3 v4 : Value} {M : List En} {ck : Nat} {Sm Wd : List Nat} {F : Ce → List Nat}
/-- what lay has laid stays where marks are shut -/
theorem LayS.shut (h : LayS W s0 n sa cap S V k v3 v4 M ck Sm Wd F) {Ds : List Nat} (hS : Shut Ds W W') (hD : ∀ D, D ∈ Ds → s0 + 4 ≤ D ∧ W.heap[D]? = some (.deferred (some []))) : LayS W' s0 n sa cap S V k v3 v4 M ck Sm Wd F := by
  refine h.keep (fun j => j ∈ Ds) (Nat.le_of_eq hS.size.symm) (fun j _ hk => hS.block j hk) ?_ ?_ ?_ ?_ ?_
  · intro e; have := (hD _ e).1; omega
  · intro e; have := (hD _ e).1; omega
  · intro e; have := (hD _ e).1; omega
  · intro e; have := (hD _ e).1; omega
  · intro v hv g e hg
    obtain ⟨_, _, o, ho, hc⟩ := h.obj v hv g e
    rw [(hD g hg).2] at ho
    cases ho
    cases hc
end
theorem shut_below {Ds : List Nat} {w W W' : World} {B : Nat} (h : Below B w W) (hS : Shut Ds W W') (hD : ∀ D, D ∈ Ds → B ≤ D) : Below B w W' :=
  ⟨hS.os.trans h.os, hS.tape.trans h.tape, hS.output.trans h.output, by rw [hS.size]; exact h.size, fun k hk => (hS.block k (fun e => by have := hD k e; omega)).trans (h.block k hk)⟩
theorem alloc_at (W : World) (o : Obj) : (W.alloc o).heap[W.heap.size]? = some o := by
  show (W.heap.push o)[W.heap.size]? = some o
  rw [Array.getElem?_push]; simp
theorem alloc_old (W : World) (o : Obj) {k : Nat} (h : k < W.heap.size) : (W.alloc o).heap[k]? = W.heap[k]? := by
  show (W.heap.push o)[k]? = W.heap[k]?
  rw [Array.getElem?_push, if_neg (Nat.ne_of_lt h)]
/-- what lay begins with -/
theorem lay_start (w : World) (n cap : Nat) (sa : Option Addr) (S : Nat → Sp4) (V : Nat → Bool) (t1 t2 t3 : TypeId) (Z : Array Value) (hZ : Z.size = n * 4) {W : World}
    (hW : W = (((w.alloc (.cells Z t1)).alloc (.map #[] 0)).alloc (.cells #[.slice sa n cap, .slice (some ⟨w.heap.size, 0, none⟩) n n, .map (some (w.heap.size + 1)), .slice none 0 0, .slice none 0 0, .slice none 0 0] t2)).alloc (.cells #[.pointer (some ⟨w.heap.size + 1 + 1, 0, none⟩)] t3)) :
    LayS W w.heap.size n sa cap S V 0 (.slice none 0 0) (.slice none 0 0) [] 0 [] [] (fun _ => []) := by
  obtain ⟨W1, h1⟩ : ∃ x, x = w.alloc (.cells Z t1) := ⟨_, rfl⟩
  obtain ⟨W2, h2⟩ : ∃ x, x = W1.alloc (.map #[] 0) := ⟨_, rfl⟩
  obtain ⟨W3, h3⟩ : ∃ x, x = W2.alloc (.cells #[.slice sa n cap, .slice (some ⟨w.heap.size, 0, none⟩) n n, .map (some (w.heap.size + 1)), .slice none 0 0, .slice none 0 0, .slice none 0 0] t2) := ⟨_, rfl⟩
  rw [← h1, ← h2, ← h3] at hW
  have s1 : W1.heap.size = w.heap.size + 1 := by rw [h1]; exact World.size_alloc ..
  have s2 : W2.heap.size = w.heap.size + 2 := by rw [h2, World.size_alloc, s1]
  have s3 : W3.heap.size = w.heap.size + 3 := by rw [h3, World.size_alloc, s2]
  have s4 : W.heap.size = w.heap.size + 4 := by rw [hW, World.size_alloc, s3]
  have b0 : W.heap[w.heap.size]? = some (.cells Z t1) := by
    rw [hW, alloc_old _ _ (by omega), h3, alloc_old _ _ (by omega), h2, alloc_old _ _ (by omega), h1, alloc_at]
  have b1 : W.heap[w.heap.size + 1]? = some (.map #[] 0) := by
    rw [hW, alloc_old _ _ (by omega), h3, alloc_old _ _ (by omega), h2, ← s1, alloc_at]
  have b2 : W.heap[w.heap.size + 2]? = some (.cells #[.slice sa n cap, .slice (some ⟨w.heap.size, 0, none⟩) n n, .map (some (w.heap.size + 1)), .slice none 0 0, .slice none 0 0, .slice none 0 0] t2) := by
    rw [hW, alloc_old _ _ (by omega), h3, ← s2, alloc_at]
  have b3 : W.heap[w.heap.size + 3]? = some (.cells #[.pointer (some ⟨w.heap.size + 1 + 1, 0, none⟩)] t3) := by
    rw [hW, ← s3, alloc_at]
  refine ⟨⟨heap_cell b2 rfl, heap_cell b2 rfl, heap_cell b2 rfl, heap_cell b2 rfl, heap_cell b2 rfl, heap_cell b2 rfl, fun o => heap_frozen b2⟩, heap_cell b3 rfl, fun i hi => by omega, fun j hj => ?_, fun o => heap_frozen b0, OwnR.nil _ _ _, fun _ => rfl, OwnR.nil _ _ _, fun _ => rfl, b1, List.nodup_nil, List.nodup_nil, fun m hm => (by cases hm), fun m hm => (by cases hm), fun c h => absurd rfl h, ?_, by omega⟩
  · rw [heap_cell (v := Z[j]'(by rw [hZ]; exact hj)) b0 (Array.getElem?_eq_getElem (by rw [hZ]; exact hj))]; rfl
  · simp [NoSh, vb]
end Go.Proofs.Ytekhnolpgoejdab
namespace Go.Proofs.Ytekhnolpgoejdab
open Ieee Go.RowKit
set_option linter.unusedSimpArgs false
set_option linter.unusedVariables false

/-! ### The pairs that cells tell: all, each once -/
theorem ov_parts {a b : Bo} (h : ovO a b = true) : leK .f64 a.1 b.2.2.1 = true ∧ leK .f64 b.1 a.2.2.1 = true ∧ leK .f64 a.2.1 b.2.2.2 = true ∧ leK .f64 b.2.1 a.2.2.2 = true := by
  unfold ovO bOver at h
  simp only [Bool.and_eq_true] at h
  exact ⟨by first | exact h.1.1.1 | exact h.1.1.2 | exact h.1.2 | exact h.2, by first | exact h.1.1.1 | exact h.1.1.2 | exact h.1.2 | exact h.2, by first | exact h.1.1.1 | exact h.1.1.2 | exact h.1.2 | exact h.2, by first | exact h.1.1.1 | exact h.1.1.2 | exact h.1.2 | exact h.2⟩
theorem le_of_not {x y : Nat} (nx : nanK .f64 x = false) (ny : nanK .f64 y = false) (h : ltK .f64 y x = false) : leK .f64 x y = true := by
  unfold ltK at h
  unfold leK
  rw [nx, ny] at h ⊢
  simp at h ⊢
  omega
theorem may_le {b : Bo} (h : mayO b = true) : leK .f64 b.1 b.2.2.1 = true ∧ leK .f64 b.2.1 b.2.2.2 = true := by
  obtain ⟨n1, n2, n3, n4⟩ := may_nan4 h
  unfold mayO bChk at h
  simp only [Bool.and_eq_true, Bool.not_eq_true'] at h
  exact ⟨le_of_not n1 n3 h.1.2, le_of_not n2 n4 h.2⟩
/-- the first cell of two boxes that lie over one another is one of either -/
theorem first_in {d : Nat} {a b : Bo} (hd : mayW d = true) (ha : mayO a = true) (hb : mayO b = true) (h : ovO a b = true) : firstC (spO d a) (spO d b) ∈ cellsL (spO d a) ∧ firstC (spO d a) (spO d b) ∈ cellsL (spO d b) := by
  obtain ⟨h1, h2, h3, h4⟩ := ov_parts h
  obtain ⟨a1, a2⟩ := may_le ha
  obtain ⟨b1, b2⟩ := may_le hb
  have k1 := co_mono hd h1
  have k2 := co_mono hd h2
  have k3 := co_mono hd h3
  have k4 := co_mono hd h4
  have k5 := co_mono hd a1
  have k6 := co_mono hd a2
  have k7 := co_mono hd b1
  have k8 := co_mono hd b2
  rw [mem_cellsL, mem_cellsL]
  unfold firstC spO
  simp only
  omega
theorem mem_cpL {B : Nat → Bo} {S : Nat → Sp4} {c : Ce} {i : Nat} {R : List Nat} (x : Nat × Nat) : x ∈ cpL B S c i R ↔ x.1 = i ∧ x.2 ∈ R ∧ ovO (B i) (B x.2) = true ∧ firstC (S i) (S x.2) = c := by
  obtain ⟨a, b⟩ := x
  unfold cpL
  simp only [List.mem_map, List.mem_filter, Bool.and_eq_true, decide_eq_true_eq, Prod.mk.injEq]
  constructor
  · rintro ⟨k, ⟨h1, h2, h3⟩, rfl, rfl⟩; exact ⟨rfl, h1, h2, h3⟩
  · rintro ⟨rfl, h1, h2, h3⟩; exact ⟨b, ⟨h1, h2, h3⟩, rfl, rfl⟩
theorem drop_lt {R : List Nat} (hR : R.Pairwise (· < ·)) {t i : Nat} (hi : R[t]? = some i) {k : Nat} : k ∈ R.drop (t + 1) ↔ k ∈ R ∧ i < k := by
  obtain ⟨ht, e⟩ := List.getElem?_eq_some_iff.1 hi
  have hp := List.pairwise_iff_getElem.1 hR
  constructor
  · intro hk
    refine ⟨List.mem_of_mem_drop hk, ?_⟩
    obtain ⟨j, hj, ej⟩ := List.getElem_of_mem hk
    rw [List.getElem_drop] at ej
    have hjl : t + 1 + j < R.length := by rw [List.length_drop] at hj; omega
    have := hp t (t + 1 + j) ht hjl (by omega)
    rw [e, ej] at this
    exact this
  · rintro ⟨hk, hl⟩
    obtain ⟨j, hj, ej⟩ := List.getElem_of_mem hk
    have hjt : t < j := by
      rcases Nat.lt_trichotomy j t with h | h | h
      · have := hp j t hj ht h; omega
      · subst h; omega
      · exact h
    rw [List.mem_drop_iff_getElem]
    exact ⟨j - (t + 1), by omega, by rw [← ej]; congr 1; omega⟩
theorem mem_ccL {B : Nat → Bo} {S : Nat → Sp4} {c : Ce} {R : List Nat} (hR : R.Pairwise (· < ·)) : ∀ (t : Nat) (x : Nat × Nat), x ∈ ccL B S c R t ↔ x.1 ∈ R.take t ∧ x.2 ∈ R ∧ x.1 < x.2 ∧ ovO (B x.1) (B x.2) = true ∧ firstC (S x.1) (S x.2) = c
  | 0, x => by simp [ccL]
  | t + 1, x => by
    rw [ccL, List.mem_append, mem_ccL hR t x]
    cases hi : R[t]? with
    | none =>
      have hl : R.length ≤ t := List.getElem?_eq_none_iff.1 hi
      rw [List.take_of_length_le hl, List.take_of_length_le (Nat.le_succ_of_le hl)]
      simp
    | some i =>
      rw [take_snoc hi]
      simp only [List.mem_append, List.mem_singleton]
      rw [mem_cpL, drop_lt hR hi]
      constructor
      · rintro (⟨h1, h2⟩ | ⟨h1, ⟨h2, h3⟩, h4, h5⟩)
        · exact ⟨.inl h1, h2⟩
        · rw [← h1] at h3 h4 h5; exact ⟨.inr h1, h2, h3, h4, h5⟩
      · rintro ⟨h1 | h1, h2, h3, h4, h5⟩
        · exact .inl ⟨h1, h2, h3, h4, h5⟩
        · rw [h1] at h3 h4 h5; exact .inr ⟨h1, ⟨h2, h3⟩, h4, h5⟩
theorem nodup_ccL {B : Nat → Bo} {S : Nat → Sp4} {c : Ce} {R : List Nat} (hR : R.Pairwise (· < ·)) : ∀ (t : Nat), (ccL B S c R t).Nodup
  | 0 => by simp [ccL]
  | t + 1 => by
    rw [ccL, List.nodup_append]
    have hn : R.Nodup := hR.imp fun h => Nat.ne_of_lt h
    refine ⟨nodup_ccL hR t, ?_, ?_⟩
    · cases hi : R[t]? with
      | none => simp
      | some i =>
        unfold cpL
        exact nodup_map _ ((hn.sublist (List.drop_sublist _ _)).filter _) (fun a _ b _ e => by simpa using e)
    · intro x hx y hy e
      subst e
      cases hi : R[t]? with
      | none => rw [hi] at hy; simp at hy
      | some i =>
        rw [hi] at hy
        have h1 := ((mem_ccL hR t x).1 hx).1
        have h2 := ((mem_cpL x).1 hy).1
        rw [h2] at h1
        obtain ⟨j, hj, ej⟩ := List.getElem_of_mem h1
        rw [List.getElem_take] at ej
        obtain ⟨ht, e⟩ := List.getElem?_eq_some_iff.1 hi
        rw [List.length_take] at hj
        have := List.pairwise_iff_getElem.1 hR j t (by omega) ht (by omega)
        omega
/-- a row of pairs, each once, all of them among those that are found one by one, is no longer -/
theorem among_len {l r : List (Nat × Nat)} (hn : l.Nodup) (hr : r.Pairwise lexO) (hm : ∀ x ∈ l, x ∈ r) : l.length ≤ r.length := by
  have := lex_len (l := l) (r := r.filter fun x => decide (x ∈ l)) hn (hr.filter _) (fun x => by
    rw [List.mem_filter]
    simp only [decide_eq_true_eq]
    exact ⟨fun h => ⟨hm x h, h⟩, fun h => h.2⟩)
  rw [this]
  exact List.length_filter_le _ _
theorem rowB_le {B C : Nat → Bo} {p : Nat → Nat → Bool} {m i : Nat} : (rowB B C p m i).length ≤ m := by
  unfold rowB
  rw [List.length_map]
  exact Nat.le_trans (List.length_filter_le _ _) (by simp)
theorem allB_sq {B C : Nat → Bo} {p : Nat → Nat → Bool} {m : Nat} : ∀ n, (allB B C p m n).length ≤ n * m
  | 0 => by simp [allB]
  | n + 1 => by
    rw [allB, List.length_append, Nat.add_mul, Nat.one_mul]
    have := allB_sq (B := B) (C := C) (p := p) (m := m) n
    have := rowB_le (B := B) (C := C) (p := p) (m := m) (i := n)
    omega
theorem refP_sq (B : Nat → Bo) {n : Nat} (h : n ≤ 200) : (refP B n).length ≤ 40000 := Nat.le_trans (allB_sq n) (Nat.le_trans (Nat.mul_le_mul h h) (by decide))
theorem mem_refP {B : Nat → Bo} {n : Nat} (x : Nat × Nat) : x ∈ refP B n ↔ x.1 < x.2 ∧ x.2 < n ∧ mayO (B x.1) = true ∧ mayO (B x.2) = true ∧ ovO (B x.1) (B x.2) = true := by
  unfold refP
  rw [mem_allB]
  unfold meO
  simp only [Bool.and_eq_true, decide_eq_true_eq]
  constructor
  · rintro ⟨h1, h2, h3, ⟨h4, h5⟩, h6⟩; exact ⟨h3, h2, h4, h5, h6⟩
  · rintro ⟨h3, h2, h4, h5, h6⟩; exact ⟨by omega, h2, h3, ⟨h4, h5⟩, h6⟩

/-! ### small boxes -/
theorem smB_parts {B : Nat → Bo} {d i : Nat} (h : smB B d i = true) : mayO (B i) = true ∧ wideS (spO d (B i)) = false := by
  unfold smB at h
  simpa using h
theorem wdB_parts {B : Nat → Bo} {d i : Nat} (h : wdB B d i = true) : mayO (B i) = true ∧ wideS (spO d (B i)) = true := by
  unfold wdB at h
  simpa using h
/-- the pairs told when such cells were gone through -/
structure SmQ (B : Nat → Bo) (d n : Nat) (V : List Ce) (Q : List (Nat × Nat)) : Prop where
  nd : Q.Nodup
  mem : ∀ x, x ∈ Q ↔ x.1 < x.2 ∧ x.1 ∈ nums (smB B d) n ∧ x.2 ∈ nums (smB B d) n ∧ ovO (B x.1) (B x.2) = true ∧ firstC (spO d (B x.1)) (spO d (B x.2)) ∈ V
theorem smq_nil (B : Nat → Bo) (d n : Nat) : SmQ B d n [] [] := ⟨List.nodup_nil, fun x => by simp⟩
/-- what lies in a cell, while the cells V were taken out -/
def outF (F : Ce → List Nat) (V : List Ce) (c : Ce) : List Nat := if c ∈ V then [] else F c
theorem outF_nil (F : Ce → List Nat) : outF F [] = F := by funext c; simp [outF]
theorem grF_lt (B : Nat → Bo) (d n : Nat) (c : Ce) : (grF B d n c).Pairwise (· < ·) := nums_lt _ _
theorem outF_lt {F : Ce → List Nat} (h : ∀ c, (F c).Pairwise (· < ·)) (V : List Ce) (c : Ce) : (outF F V c).Pairwise (· < ·) := by
  unfold outF; split
  · exact List.Pairwise.nil
  · exact h c
theorem mem_grF {B : Nat → Bo} {d n : Nat} {c : Ce} {i : Nat} : i ∈ grF B d n c ↔ i ∈ nums (smB B d) n ∧ c ∈ cellsL (spO d (B i)) := by
  unfold grF
  rw [nums_mem, nums_mem]
  simp only [Bool.and_eq_true, decide_eq_true_eq]
  exact ⟨fun h => ⟨⟨h.1, h.2.1⟩, h.2.2⟩, fun h => ⟨h.1.1, h.1.2, h.2⟩⟩
theorem SmQ.step {B : Nat → Bo} {d n : Nat} {V : List Ce} {Q : List (Nat × Nat)} (hd : mayW d = true) (h : SmQ B d n V Q) (c : Ce) : SmQ B d n (V ++ [c]) (Q ++ ccL B (fun i => spO d (B i)) c (outF (grF B d n) V c) (outF (grF B d n) V c).length) := by
  have hR := outF_lt (F := grF B d n) (grF_lt B d n) V c
  have hcc := fun x => mem_ccL (B := B) (S := fun i => spO d (B i)) (c := c) hR (outF (grF B d n) V c).length x
  rw [List.take_length] at hcc
  constructor
  · rw [List.nodup_append]
    refine ⟨h.nd, nodup_ccL hR _, fun x hx y hy e => ?_⟩
    subst e
    have h1 := (h.mem x).1 hx
    have h2 := (hcc x).1 hy
    have hc : firstC (spO d (B x.1)) (spO d (B x.2)) = c := h2.2.2.2.2
    rw [hc] at h1
    have h3 := h2.1
    unfold outF at h3
    rw [if_pos h1.2.2.2.2] at h3
    cases h3
  · intro x
    rw [List.mem_append, h.mem, hcc]
    constructor
    · rintro (⟨h1, h2, h3, h4, h5⟩ | ⟨h1, h2, h3, h4, h5⟩)
      · exact ⟨h1, h2, h3, h4, List.mem_append_left _ h5⟩
      · unfold outF at h1 h2
        split at h1
        · cases h1
        · rw [if_neg (by assumption)] at h2
          exact ⟨h3, (mem_grF.1 h1).1, (mem_grF.1 h2).1, h4, by rw [h5]; simp⟩
    · rintro ⟨h1, h2, h3, h4, h5⟩
      rcases Classical.em (firstC (spO d (B x.1)) (spO d (B x.2)) ∈ V) with hV | hV
      · exact .inl ⟨h1, h2, h3, h4, hV⟩
      · right
        have hc : firstC (spO d (B x.1)) (spO d (B x.2)) = c := by
          rcases List.mem_append.1 h5 with h5 | h5
          · exact absurd h5 hV
          · simpa using h5
        rw [hc] at hV
        have hf := first_in hd (smB_parts (nums_mem.1 h2).2).1 (smB_parts (nums_mem.1 h3).2).1 h4
        rw [hc] at hf
        unfold outF
        rw [if_neg hV]
        exact ⟨mem_grF.2 ⟨h2, hf.1⟩, mem_grF.2 ⟨h3, hf.2⟩, h1, h4, hc⟩
theorem SmQ.len {B : Nat → Bo} {d n : Nat} {V : List Ce} {Q : List (Nat × Nat)} (h : SmQ B d n V Q) (h2 : n ≤ 200) : Q.length ≤ 40000 := by
  refine Nat.le_trans (among_len h.nd lex_allB (fun x hx => ?_)) (refP_sq B h2)
  obtain ⟨h1, h2, h3, h4, h5⟩ := (h.mem x).1 hx
  have a := nums_mem.1 h2
  have b := nums_mem.1 h3
  exact (mem_refP x).2 ⟨h1, b.1, (smB_parts a.2).1, (smB_parts b.2).1, h4⟩

/-! ### wide boxes -/
theorem mem_pwL {B : Nat → Bo} {i : Nat} {R : List Nat} (x : Nat × Nat) : x ∈ pwL B i R ↔ ∃ k ∈ R, ovO (B i) (B k) = true ∧ x = (min i k, max i k) := by
  unfold pwL
  simp only [List.mem_map, List.mem_filter]
  constructor
  · rintro ⟨k, ⟨h1, h2⟩, rfl⟩; exact ⟨k, h1, h2, rfl⟩
  · rintro ⟨k, h1, h2, rfl⟩; exact ⟨k, ⟨h1, h2⟩, rfl⟩
theorem mm_cases (i k : Nat) : (i ≤ k ∧ (min i k, max i k) = (i, k)) ∨ (k ≤ i ∧ (min i k, max i k) = (k, i)) := by
  rcases Nat.le_total i k with h | h
  · left; exact ⟨h, by rw [Nat.min_eq_left h, Nat.max_eq_right h]⟩
  · right; exact ⟨h, by rw [Nat.min_eq_right h, Nat.max_eq_left h]⟩
/-- each pair: its two numbers, in whatever order: one of them among the first t wide ones, the other a later wide one, or a small one -/
theorem mem_wdL {B : Nat → Bo} {Wd Sm : List Nat} (hW : Wd.Pairwise (· < ·)) (hdis : ∀ i ∈ Wd, ¬ i ∈ Sm) : ∀ (t : Nat) (x : Nat × Nat), x ∈ wdL B Wd Sm t ↔ x.1 < x.2 ∧ ovO (B x.1) (B x.2) = true ∧ ((x.1 ∈ Wd.take t ∧ x.2 ∈ Wd) ∨ (x.1 ∈ Wd.take t ∧ x.2 ∈ Sm) ∨ (x.2 ∈ Wd.take t ∧ x.1 ∈ Sm))
  | 0, x => by simp [wdL]
  | t + 1, x => by
    rw [wdL, List.mem_append, mem_wdL hW hdis t x]
    cases hi : Wd[t]? with
    | none =>
      have hl : Wd.length ≤ t := List.getElem?_eq_none_iff.1 hi
      rw [List.take_of_length_le hl, List.take_of_length_le (Nat.le_succ_of_le hl)]
      simp
    | some i =>
      rw [take_snoc hi]
      have hiW : i ∈ Wd := List.mem_of_getElem? hi
      simp only [List.mem_append, List.mem_singleton, mem_pwL]
      constructor
      · rintro (⟨h1, h2, h3⟩ | (⟨k, hk, ho, rfl⟩ | ⟨k, hk, ho, rfl⟩))
        · refine ⟨h1, h2, ?_⟩
          rcases h3 with ⟨h3, h4⟩ | ⟨h3, h4⟩ | ⟨h3, h4⟩
          · exact .inl ⟨.inl h3, h4⟩
          · exact .inr (.inl ⟨.inl h3, h4⟩)
          · exact .inr (.inr ⟨.inl h3, h4⟩)
        · obtain ⟨hk1, hk2⟩ := (drop_lt hW hi).1 hk
          rw [Nat.min_eq_left (by omega), Nat.max_eq_right (by omega)]
          exact ⟨hk2, ho, .inl ⟨.inr rfl, hk1⟩⟩
        · have hne : i ≠ k := fun e => hdis i hiW (e ▸ hk)
          rcases mm_cases i k with ⟨hl, e⟩ | ⟨hl, e⟩
          · rw [e]; exact ⟨show i < k by omega, ho, .inr (.inl ⟨.inr rfl, hk⟩)⟩
          · rw [e]; exact ⟨show k < i by omega, by rw [ov_sym]; exact ho, .inr (.inr ⟨.inr rfl, hk⟩)⟩
      · obtain ⟨a, b⟩ := x
        simp only
        rintro ⟨h1, h2, h3⟩
        rcases h3 with ⟨h3 | h3, h4⟩ | ⟨h3 | h3, h4⟩ | ⟨h3 | h3, h4⟩
        · exact .inl ⟨h1, h2, .inl ⟨h3, h4⟩⟩
        · subst h3
          exact .inr (.inl ⟨b, (drop_lt hW hi).2 ⟨h4, h1⟩, h2, by rw [Nat.min_eq_left (by omega), Nat.max_eq_right (by omega)]⟩)
        · exact .inl ⟨h1, h2, .inr (.inl ⟨h3, h4⟩)⟩
        · subst h3
          exact .inr (.inr ⟨b, h4, h2, by rw [Nat.min_eq_left (by omega), Nat.max_eq_right (by omega)]⟩)
        · exact .inl ⟨h1, h2, .inr (.inr ⟨h3, h4⟩)⟩
        · subst h3
          exact .inr (.inr ⟨a, h4, by rw [ov_sym]; exact h2, by rw [Nat.min_eq_right (by omega), Nat.max_eq_left (by omega)]⟩)
theorem nodup_pwL {B : Nat → Bo} {i : Nat} {R : List Nat} (hn : R.Nodup) (hi : ¬ i ∈ R) : (pwL B i R).Nodup := by
  unfold pwL
  refine nodup_map _ (hn.filter _) fun a ha b hb e => ?_
  have ha' := (List.mem_filter.1 ha).1
  have hb' := (List.mem_filter.1 hb).1
  have n1 : i ≠ a := fun e => hi (e ▸ ha')
  have n2 : i ≠ b := fun e => hi (e ▸ hb')
  simp only [Prod.mk.injEq] at e
  omega
theorem take_before {R : List Nat} (hR : R.Pairwise (· < ·)) {t i a : Nat} (hi : R[t]? = some i) (ha : a ∈ R.take t) : a < i := by
  obtain ⟨j, hj, ej⟩ := List.getElem_of_mem ha
  rw [List.getElem_take] at ej
  obtain ⟨ht, e⟩ := List.getElem?_eq_some_iff.1 hi
  rw [List.length_take] at hj
  have := List.pairwise_iff_getElem.1 hR j t (by omega) ht (by omega)
  omega
theorem nodup_wdL {B : Nat → Bo} {Wd Sm : List Nat} (hW : Wd.Pairwise (· < ·)) (hS : Sm.Nodup) (hdis : ∀ i ∈ Wd, ¬ i ∈ Sm) : ∀ (t : Nat), (wdL B Wd Sm t).Nodup
  | 0 => by simp [wdL]
  | t + 1 => by
    rw [wdL, List.nodup_append]
    have hn : Wd.Nodup := hW.imp fun h => Nat.ne_of_lt h
    refine ⟨nodup_wdL hW hS hdis t, ?_, ?_⟩
    · cases hi : Wd[t]? with
      | none => simp
      | some i =>
        have hiW : i ∈ Wd := List.mem_of_getElem? hi
        simp only
        rw [List.nodup_append]
        refine ⟨nodup_pwL (hn.sublist (List.drop_sublist _ _)) (fun h => by have := ((drop_lt hW hi).1 h).2; omega), nodup_pwL hS (hdis i hiW), fun x hx y hy e => ?_⟩
        subst e
        obtain ⟨k, hk, _, rfl⟩ := (mem_pwL x).1 hx
        obtain ⟨m, hm, _, e⟩ := (mem_pwL _).1 hy
        have hk' := (drop_lt hW hi).1 hk
        have hkm : k ≠ m := fun e => hdis k hk'.1 (e ▸ hm)
        have him : i ≠ m := fun e => hdis i hiW (e ▸ hm)
        simp only [Prod.mk.injEq] at e
        omega
    · intro x hx y hy e
      subst e
      cases hi : Wd[t]? with
      | none => rw [hi] at hy; simp at hy
      | some i =>
        have hiW : i ∈ Wd := List.mem_of_getElem? hi
        rw [hi] at hy
        have h1 := (mem_wdL hW hdis t x).1 hx
        simp only [List.mem_append] at hy
        have hlt : ∀ a, a ∈ Wd.take t → a < i ∧ a ∈ Wd := fun a ha => ⟨take_before hW hi ha, List.mem_of_mem_take ha⟩
        obtain ⟨h1, h2, h3⟩ := h1
        rcases hy with hy | hy
        · obtain ⟨k, hk, _, rfl⟩ := (mem_pwL x).1 hy
          obtain ⟨hk1, hk2⟩ := (drop_lt hW hi).1 hk
          rw [Nat.min_eq_left (by omega), Nat.max_eq_right (by omega)] at h3
          rcases h3 with ⟨h3, _⟩ | ⟨h3, _⟩ | ⟨h3, _⟩
          · have := (hlt _ h3).1; omega
          · have := (hlt _ h3).1; omega
          · have := (hlt _ h3).1; omega
        · obtain ⟨k, hk, _, rfl⟩ := (mem_pwL x).1 hy
          rcases mm_cases i k with ⟨hl, e⟩ | ⟨hl, e⟩
          · rw [e] at h3
            rcases h3 with ⟨h3, _⟩ | ⟨h3, _⟩ | ⟨h3, _⟩
            · have := (hlt _ h3).1; omega
            · have := (hlt _ h3).1; omega
            · exact hdis _ (hlt _ h3).2 hk
          · rw [e] at h3
            rcases h3 with ⟨h3, _⟩ | ⟨h3, _⟩ | ⟨h3, _⟩
            · exact hdis _ (hlt _ h3).2 hk
            · exact hdis _ (hlt _ h3).2 hk
            · have := (hlt _ h3).1; omega
/-- all of them -/
theorem all_pairs {B : Nat → Bo} {d n : Nat} {V : List Ce} {Q : List (Nat × Nat)} (hd : mayW d = true) (hQ : SmQ B d n V Q) (hV : ∀ i, i < n → smB B d i = true → ∀ c ∈ cellsL (spO d (B i)), c ∈ V) :
    (wdL B (nums (wdB B d) n) (nums (smB B d) n) (nums (wdB B d) n).length ++ Q).Nodup ∧ ∀ x, x ∈ wdL B (nums (wdB B d) n) (nums (smB B d) n) (nums (wdB B d) n).length ++ Q ↔ x ∈ refP B n := by
  have hdis : ∀ i ∈ nums (wdB B d) n, ¬ i ∈ nums (smB B d) n := fun i h1 h2 => by
    have a := (wdB_parts (nums_mem.1 h1).2).2
    have b := (smB_parts (nums_mem.1 h2).2).2
    rw [a] at b; cases b
  have hW := nums_lt (wdB B d) n
  have hS : (nums (smB B d) n).Nodup := (nums_lt _ n).imp fun h => Nat.ne_of_lt h
  have hm := fun x => mem_wdL (B := B) hW hdis (nums (wdB B d) n).length x
  rw [List.take_length] at hm
  constructor
  · rw [List.nodup_append]
    refine ⟨nodup_wdL hW hS hdis _, hQ.nd, fun x hx y hy e => ?_⟩
    subst e
    have h1 := (hm x).1 hx
    have h2 := (hQ.mem x).1 hy
    rcases h1.2.2 with ⟨h3, _⟩ | ⟨h3, _⟩ | ⟨h3, _⟩
    · exact hdis _ h3 h2.2.1
    · exact hdis _ h3 h2.2.1
    · exact hdis _ h3 h2.2.2.1
  · intro x
    rw [List.mem_append, hm, hQ.mem, mem_refP]
    simp only [nums_mem]
    constructor
    · rintro (⟨h1, h2, h3⟩ | ⟨h1, h2, h3, h4, h5⟩)
      · rcases h3 with ⟨h3, h4⟩ | ⟨h3, h4⟩ | ⟨h3, h4⟩
        · exact ⟨h1, h4.1, (wdB_parts h3.2).1, (wdB_parts h4.2).1, h2⟩
        · exact ⟨h1, h4.1, (wdB_parts h3.2).1, (smB_parts h4.2).1, h2⟩
        · exact ⟨h1, h3.1, (smB_parts h4.2).1, (wdB_parts h3.2).1, h2⟩
      · exact ⟨h1, h3.1, (smB_parts h2.2).1, (smB_parts h3.2).1, h4⟩
    · rintro ⟨h1, h2, h3, h4, h5⟩
      have hl : x.1 < n := by omega
      cases ha : wideS (spO d (B x.1)) with
      | true =>
        have wa : wdB B d x.1 = true := by unfold wdB; rw [h3, ha]; rfl
        cases hb : wideS (spO d (B x.2)) with
        | true => exact .inl ⟨h1, h5, .inl ⟨⟨hl, wa⟩, h2, by unfold wdB; rw [h4, hb]; rfl⟩⟩
        | false => exact .inl ⟨h1, h5, .inr (.inl ⟨⟨hl, wa⟩, h2, by unfold smB; rw [h4, hb]; rfl⟩)⟩
      | false =>
        have wa : smB B d x.1 = true := by unfold smB; rw [h3, ha]; rfl
        cases hb : wideS (spO d (B x.2)) with
        | true => exact .inl ⟨h1, h5, .inr (.inr ⟨⟨h2, by unfold wdB; rw [h4, hb]; rfl⟩, hl, wa⟩)⟩
        | false =>
          have wb : smB B d x.2 = true := by unfold smB; rw [h4, hb]; rfl
          exact .inr ⟨h1, ⟨hl, wa⟩, ⟨h2, wb⟩, h5, hV x.1 hl wa _ (first_in hd h3 h4 h5).1⟩
end Go.Proofs.Ytekhnolpgoejdab
namespace Go.Proofs.Ytekhnolpgoejdab
open Ieee Go.RowKit
set_option linter.unusedSimpArgs false
set_option linter.unusedVariables false

/-! ### lay, within a round: what is laid, the round's own blocks, the marks -/
def SpC (W : World) (q : Nat) (a : Sp4) : Prop := W.cell? ⟨q, 0, none⟩ = some (.int .i64 a.1.1) ∧ W.cell? ⟨q, 1, none⟩ = some (.int .i64 a.1.2) ∧ W.cell? ⟨q, 2, none⟩ = some (.int .i64 a.2.1) ∧ W.cell? ⟨q, 3, none⟩ = some (.int .i64 a.2.2)
theorem SpC.heap {W W' : World} {q : Nat} {a : Sp4} (h : SpC W q a) (e : W'.heap[q]? = W.heap[q]?) : SpC W' q a :=
  ⟨(heap_cell_eq e 0).trans h.1, (heap_cell_eq e 1).trans h.2.1, (heap_cell_eq e 2).trans h.2.2.1, (heap_cell_eq e 3).trans h.2.2.2⟩
structure RS (w W : World) (n : Nat) (sa : Option Addr) (cap d : Nat) (B : Nat → Bo) (k kk : Nat) (v3 v4 : Value) (M : List En) (ck : Nat) (Sm Wd : List Nat) (F : Ce → List Nat) (p6 g8 : Nat) (X Ds : List Nat) : Prop where
  lay : LayS W w.heap.size n sa cap (fun i => spO d (B i)) (fun i => mayO (B i)) kk v3 v4 M ck Sm Wd F
  bl : Below w.heap.size w W
  mrk : ∀ D, D ∈ Ds → w.heap.size + 4 ≤ D ∧ W.heap[D]? = some (.deferred (some []))
  ci : W.cell? ⟨p6, 0, none⟩ = some (.int .i64 (k : Int))
  cs : SpC W g8 (spO d (B k))
  far : ∀ x, x ∈ p6 :: g8 :: X → w.heap.size + 4 ≤ x ∧ x < W.heap.size ∧ ∀ v ∈ v3 :: v4 :: M.map (·.2.1), vb v ≠ some x
section
variable {w W W' : World} {n : Nat} {sa : Option Addr} {cap d : Nat} {B : Nat → Bo} {k kk kk' : Nat} {v3 v4 v3' v4' v : Value} {M M' : List En} {ck ck' : Nat} {Sm Wd Sm' Wd' : List Nat} {F F' : Ce → List Nat} {p6 g8 : Nat} {X Ds : List Nat}
theorem RS.step (h : RS w W n sa cap d B k kk v3 v4 M ck Sm Wd F p6 g8 X Ds) (hv : v = .slice none 0 0 ∨ v ∈ v3 :: v4 :: M.map (·.2.1)) (ho : W'.os = W.os) (ht : W'.tape = W.tape) (hu : W'.output = W.output) (hs : W.heap.size ≤ W'.heap.size)
    (hb : ∀ j, j < W.heap.size → j ≠ w.heap.size → j ≠ w.heap.size + 1 → j ≠ w.heap.size + 2 → vb v ≠ some j → W'.heap[j]? = W.heap[j]?)
    (hL : LayS W' w.heap.size n sa cap (fun i => spO d (B i)) (fun i => mayO (B i)) kk' v3' v4' M' ck' Sm' Wd' F')
    (hf : ∀ u ∈ v3' :: v4' :: M'.map (·.2.1), u ∈ v3 :: v4 :: M.map (·.2.1) ∨ ∃ g m c, u = .slice (some ⟨g, 0, none⟩) m c ∧ (W.heap.size ≤ g ∨ vb v = some g)) :
    RS w W' n sa cap d B k kk' v3' v4' M' ck' Sm' Wd' F' p6 g8 X Ds ∧ (∀ x ∈ p6 :: g8 :: X, W'.heap[x]? = W.heap[x]?) ∧ KeepsFrom (w.heap.size + 3) W W' := by
  have hob : ∀ g, vb v = some g → w.heap.size + 4 ≤ g ∧ g < W.heap.size ∧ ∃ o, W.heap[g]? = some o ∧ o.isCells = true := by
    intro g e
    rcases hv with rfl | hv
    · cases e
    · exact h.lay.obj v hv g e
  have hvx : ∀ x, x ∈ p6 :: g8 :: X → vb v ≠ some x := by
    intro x hx e
    rcases hv with rfl | hv
    · cases e
    · exact (h.far x hx).2.2 v hv e
  have hk : ∀ x ∈ p6 :: g8 :: X, W'.heap[x]? = W.heap[x]? := fun x hx => by
    obtain ⟨h1, h2, h3⟩ := h.far x hx
    exact hb x h2 (by omega) (by omega) (by omega) (hvx x hx)
  refine ⟨⟨hL, ⟨ho.trans h.bl.os, ht.trans h.bl.tape, hu.trans h.bl.output, Nat.le_trans h.bl.size hs, fun j hj => ?_⟩, fun D hD => ?_, ?_, ?_, fun x hx => ?_⟩, hk, hs, fun j o hj ho hc => (hb j (Array.getElem?_eq_some_iff.1 ho).1 (by omega) (by omega) (by omega) (fun e => by
    obtain ⟨_, _, o', ho', hc'⟩ := hob j e
    rw [ho] at ho'; cases ho'; rw [hc] at hc'; cases hc')).trans ho⟩
  · have hsz := h.lay.sz
    exact (hb j (by omega) (by omega) (by omega) (by omega) (fun e => by have := (hob j e).1; omega)).trans (h.bl.block j hj)
  · obtain ⟨h1, h2⟩ := h.mrk D hD
    refine ⟨h1, (hb D (Array.getElem?_eq_some_iff.1 h2).1 (by omega) (by omega) (by omega) (fun e => ?_)).trans h2⟩
    obtain ⟨_, _, o, ho, hc⟩ := hob D e
    rw [h2] at ho; cases ho; cases hc
  · exact (heap_cell_eq (hk p6 (by simp)) 0).trans h.ci
  · exact h.cs.heap (hk g8 (by simp))
  · obtain ⟨h1, h2, h3⟩ := h.far x hx
    refine ⟨h1, Nat.lt_of_lt_of_le h2 hs, fun u hu' => ?_⟩
    rcases hf u hu' with hu1 | ⟨g, m, c, rfl, hg⟩
    · exact h3 u hu1
    · intro e
      have e : g = x := by simpa [vb] using e
      subst e
      rcases hg with hg | hg
      · omega
      · exact hvx g hx hg
theorem RS.bel (h : RS w W n sa cap d B k kk v3 v4 M ck Sm Wd F p6 g8 X Ds) (b : Bel W W') : RS w W' n sa cap d B k kk v3 v4 M ck Sm Wd F p6 g8 X Ds :=
  (h.step (v := .slice none 0 0) (.inl rfl) b.1.os b.1.tape b.1.output b.size (fun j hj _ _ _ _ => b.1.block j hj) (h.lay.bel b) (fun u hu => .inl hu)).1
theorem RS.grown (h : RS w W n sa cap d B k kk v3 v4 M ck Sm Wd F p6 g8 X Ds) {row : Option Nat} (hg : W.grownBy W' row) {A : Nat} (hA : w.heap.size + 4 ≤ A) (hx : ∀ x ∈ p6 :: g8 :: X, x < A) (hD : ∀ D ∈ Ds, D < A) (hr : ∀ r, row = some r → A ≤ r ∧ ∃ o : Obj, W.heap[r]? = some o ∧ o.isCells = false) : RS w W' n sa cap d B k kk v3 v4 M ck Sm Wd F p6 g8 X Ds := by
  have hbk : ∀ j, j < W.heap.size → j < A → W'.heap[j]? = W.heap[j]? := fun j hj hjA => hg.block j hj (fun e => by have := (hr j e.symm).1; omega)
  have hsz := h.lay.sz
  refine ⟨h.lay.grown hg hA hr, ⟨hg.os.trans h.bl.os, hg.tape.trans h.bl.tape, hg.output.trans h.bl.output, Nat.le_trans h.bl.size hg.size, fun j hj => (hbk j (by omega) (by omega)).trans (h.bl.block j hj)⟩, fun D hD' => ?_, ?_, ?_, fun x hx' => ?_⟩
  · obtain ⟨h1, h2⟩ := h.mrk D hD'
    exact ⟨h1, (hbk D (Array.getElem?_eq_some_iff.1 h2).1 (hD D hD')).trans h2⟩
  · exact (heap_cell_eq (hbk p6 (h.far p6 (by simp)).2.1 (hx p6 (by simp))) 0).trans h.ci
  · exact h.cs.heap (hbk g8 (h.far g8 (by simp)).2.1 (hx g8 (by simp)))
  · obtain ⟨h1, h2, h3⟩ := h.far x hx'
    exact ⟨h1, Nat.lt_of_lt_of_le h2 hg.size, h3⟩
/-- one block more that stays -/
theorem RS.more (h : RS w W n sa cap d B k kk v3 v4 M ck Sm Wd F p6 g8 X Ds) {q : Nat} (h1 : w.heap.size + 4 ≤ q) (h2 : q < W.heap.size) (h3 : ∀ v ∈ v3 :: v4 :: M.map (·.2.1), vb v ≠ some q) : RS w W n sa cap d B k kk v3 v4 M ck Sm Wd F p6 g8 (q :: X) Ds :=
  ⟨h.lay, h.bl, h.mrk, h.ci, h.cs, fun x hx => by
    simp only [List.mem_cons] at hx
    rcases hx with e | e | e | e
    · exact h.far x (by simp [e])
    · exact h.far x (by simp [e])
    · rw [e]; exact ⟨h1, h2, h3⟩
    · exact h.far x (by simp [e])⟩
/-- a span is stored -/
theorem RS.span {k : Nat} (h : RS w W n sa cap d B k k v3 v4 M ck Sm Wd F p6 g8 X Ds) (hk : k < n) : ∃ W', W' = (((W.setCell ⟨w.heap.size, k * 4, none⟩ (.int .i64 (spO d (B k)).1.1)).setCell ⟨w.heap.size, k * 4 + 1, none⟩ (.int .i64 (spO d (B k)).1.2)).setCell ⟨w.heap.size, k * 4 + 2, none⟩ (.int .i64 (spO d (B k)).2.1)).setCell ⟨w.heap.size, k * 4 + 3, none⟩ (.int .i64 (spO d (B k)).2.2) ∧ RS w W' n sa cap d B k (k + 1) v3 v4 M ck Sm Wd F p6 g8 X Ds := by
  refine ⟨_, rfl, ?_⟩
  have c0 := h.lay.spX (k * 4) (by omega)
  have c1 := h.lay.spX (k * 4 + 1) (by omega)
  have c2 := h.lay.spX (k * 4 + 2) (by omega)
  have c3 := h.lay.spX (k * 4 + 3) (by omega)
  obtain ⟨a0, c0⟩ := Option.isSome_iff_exists.1 c0
  obtain ⟨a1, c1⟩ := Option.isSome_iff_exists.1 c1
  obtain ⟨a2, c2⟩ := Option.isSome_iff_exists.1 c2
  obtain ⟨a3, c3⟩ := Option.isSome_iff_exists.1 c3
  have hbl : ∀ j, j ≠ w.heap.size → ((((W.setCell ⟨w.heap.size, k * 4, none⟩ (.int .i64 (spO d (B k)).1.1)).setCell ⟨w.heap.size, k * 4 + 1, none⟩ (.int .i64 (spO d (B k)).1.2)).setCell ⟨w.heap.size, k * 4 + 2, none⟩ (.int .i64 (spO d (B k)).2.1)).setCell ⟨w.heap.size, k * 4 + 3, none⟩ (.int .i64 (spO d (B k)).2.2)).heap[j]? = W.heap[j]? := fun j hj => by
    rw [Below.heap_setCell _ _ _ j hj, Below.heap_setCell _ _ _ j hj, Below.heap_setCell _ _ _ j hj, Below.heap_setCell _ _ _ j hj]
  have hB := ((((Below.refl 0 W).setCell (p := ⟨w.heap.size, k * 4, none⟩) (Nat.zero_le _) (.int .i64 (spO d (B k)).1.1)).setCell (p := ⟨w.heap.size, k * 4 + 1, none⟩) (Nat.zero_le _) (.int .i64 (spO d (B k)).1.2)).setCell (p := ⟨w.heap.size, k * 4 + 2, none⟩) (Nat.zero_le _) (.int .i64 (spO d (B k)).2.1)).setCell (p := ⟨w.heap.size, k * 4 + 3, none⟩) (Nat.zero_le _) (.int .i64 (spO d (B k)).2.2)
  have aw : ∀ {w : World} {b o o' : Nat} {u : Value}, o' ≠ o → (w.setCell ⟨b, o', none⟩ u).cell? ⟨b, o, none⟩ = w.cell? ⟨b, o, none⟩ := fun h => set_away h
  refine (h.step (v := .slice none 0 0) (.inl rfl) hB.os hB.tape hB.output hB.size (fun j hj hn _ _ _ => hbl j hn) (h.lay.span hk hB.size (fun j hj hn => hbl j hn) (fun o => ?_) (fun o ho => ?_) ?_ ?_ ?_ ?_) (fun u hu => .inl hu)).1
  · rw [World.frozen?_setCell, World.frozen?_setCell, World.frozen?_setCell, World.frozen?_setCell]
  · rw [aw (by omega), aw (by omega), aw (by omega), aw (by omega)]
  · rw [aw (by omega), aw (by omega), aw (by omega)]
    exact World.cell?_setCell_same _ _ _ c0
  · rw [aw (by omega), aw (by omega)]
    exact World.cell?_setCell_same _ _ _ ((aw (by omega)).trans c1)
  · rw [aw (by omega)]
    exact World.cell?_setCell_same _ _ _ ((aw (by omega)).trans ((aw (by omega)).trans c2))
  · exact World.cell?_setCell_same _ _ _ ((aw (by omega)).trans ((aw (by omega)).trans ((aw (by omega)).trans c3)))
theorem RS.push4 (h : RS w W n sa cap d B k kk v3 v4 M ck Sm Wd F p6 g8 X Ds) {W1 : World} {g cp i : Nat} (hO : OwnR 1 (w.heap.size + 4) W1 (.slice (some ⟨g, 0, none⟩) (Wd.length + 1) cp) (Wd.length + 1) (iRow Wd ++ [.int .i64 (i : Int)])) (hOh : Oh v4 W W1) (hg : W.heap.size ≤ g ∨ ∃ c, v4 = .slice (some ⟨g, 0, none⟩) Wd.length c) :
    RS w (W1.setCell ⟨w.heap.size + 2, 4, none⟩ (.slice (some ⟨g, 0, none⟩) (Wd.length + 1) cp)) n sa cap d B k kk v3 (.slice (some ⟨g, 0, none⟩) (Wd.length + 1) cp) M ck Sm (Wd ++ [i]) F p6 g8 X Ds := by
  have h2 := (Below.refl 0 W1).setCell (p := ⟨w.heap.size + 2, 4, none⟩) (Nat.zero_le _) (.slice (some ⟨g, 0, none⟩) (Wd.length + 1) cp)
  refine (h.step (v := v4) (.inr (by simp)) (h2.os.trans hOh.os) (h2.tape.trans hOh.tape) (h2.output.trans hOh.output) (Nat.le_trans hOh.size h2.size) (fun j hj _ _ h22 hv => (Below.heap_setCell W1 _ _ j h22).trans (hOh.block j hj hv)) (h.lay.push4 hO hOh hg) (fun u hu => ?_)).1
  simp only [List.mem_cons] at hu
  rcases hu with e | e | e
  · exact .inl (by simp [e])
  · refine .inr ⟨g, _, _, e, ?_⟩
    rcases hg with hg | ⟨c, hc⟩
    · exact .inl hg
    · exact .inr (by rw [hc]; rfl)
  · exact .inl (by simp [e])
theorem RS.push3 (h : RS w W n sa cap d B k kk v3 v4 M ck Sm Wd F p6 g8 X Ds) {W1 : World} {g cp i : Nat} (hO : OwnR 1 (w.heap.size + 4) W1 (.slice (some ⟨g, 0, none⟩) (Sm.length + 1) cp) (Sm.length + 1) (iRow Sm ++ [.int .i64 (i : Int)])) (hOh : Oh v3 W W1) (hg : W.heap.size ≤ g ∨ ∃ c, v3 = .slice (some ⟨g, 0, none⟩) Sm.length c) :
    RS w (W1.setCell ⟨w.heap.size + 2, 3, none⟩ (.slice (some ⟨g, 0, none⟩) (Sm.length + 1) cp)) n sa cap d B k kk (.slice (some ⟨g, 0, none⟩) (Sm.length + 1) cp) v4 M ck (Sm ++ [i]) Wd F p6 g8 X Ds := by
  have h2 := (Below.refl 0 W1).setCell (p := ⟨w.heap.size + 2, 3, none⟩) (Nat.zero_le _) (.slice (some ⟨g, 0, none⟩) (Sm.length + 1) cp)
  refine (h.step (v := v3) (.inr (by simp)) (h2.os.trans hOh.os) (h2.tape.trans hOh.tape) (h2.output.trans hOh.output) (Nat.le_trans hOh.size h2.size) (fun j hj _ _ h22 hv => (Below.heap_setCell W1 _ _ j h22).trans (hOh.block j hj hv)) (h.lay.push3 hO hOh hg) (fun u hu => ?_)).1
  simp only [List.mem_cons] at hu
  rcases hu with e | e | e
  · refine .inr ⟨g, _, _, e, ?_⟩
    rcases hg with hg | ⟨c, hc⟩
    · exact .inl hg
    · exact .inr (by rw [hc]; rfl)
  · exact .inl (by simp [e])
  · exact .inl (by simp [e])
/-- what 'm[k]' of 'm[k] = append(m[k], ..)' left -/
def EntS (b : Nat) (W Wb : World) (M : List En) (ck : Nat) (c : Ce) (v : Value) (bn : Nat) : Prop :=
  (∃ j, ixM c M = some j ∧ M[j]? = some (c, v, bn) ∧ Wb = W) ∨ (ixM c M = none ∧ v = .slice none 0 0 ∧ bn = ck ∧ Wb = W.putObj b (.map ((M ++ [(c, Value.slice none 0 0, ck)]).map mkE).toArray (ck + 1)))
theorem RS.group (h : RS w W n sa cap d B k kk v3 v4 M ck Sm Wd F p6 g8 X Ds) {c : Ce} {bn : Nat} {Wb : World} (hE : EntS (w.heap.size + 1) W Wb M ck c v bn) :
    OwnR 1 (w.heap.size + 4) Wb v (F c).length (iRow (F c)) ∧ W.heap.size ≤ Wb.heap.size ∧ (∀ j, j ≠ w.heap.size + 1 → Wb.heap[j]? = W.heap[j]?) ∧ (∀ j, vb v = some j → j < W.heap.size) ∧
    ∀ {W1 : World} {g cp i : Nat}, OwnR 1 (w.heap.size + 4) W1 (.slice (some ⟨g, 0, none⟩) ((F c).length + 1) cp) ((F c).length + 1) (iRow (F c) ++ [.int .i64 (i : Int)]) → Oh v Wb W1 → (Wb.heap.size ≤ g ∨ ∃ cp, v = .slice (some ⟨g, 0, none⟩) (F c).length cp) →
      ∃ M1 ck1 j, Mp W1 (w.heap.size + 1) M1 ck1 ∧ (M1.map (·.2.2)).Nodup ∧ M1[j]? = some (c, v, bn) ∧ ∃ M2 ck2, RS w (W1.putObj (w.heap.size + 1) (.map ((M1.set j (c, Value.slice (some ⟨g, 0, none⟩) ((F c).length + 1) cp, bn)).map mkE).toArray ck1)) n sa cap d B k kk v3 v4 M2 ck2 Sm Wd (upF F c i) p6 g8 X Ds ∧
        (∀ x ∈ p6 :: g8 :: X, (W1.putObj (w.heap.size + 1) (.map ((M1.set j (c, Value.slice (some ⟨g, 0, none⟩) ((F c).length + 1) cp, bn)).map mkE).toArray ck1)).heap[x]? = W.heap[x]?) ∧ KeepsFrom (w.heap.size + 3) W (W1.putObj (w.heap.size + 1) (.map ((M1.set j (c, Value.slice (some ⟨g, 0, none⟩) ((F c).length + 1) cp, bn)).map mkE).toArray ck1)) := by
  have hsz := h.lay.sz
  rcases hE with ⟨j, hx, hj, rfl⟩ | ⟨hx, rfl, rfl, rfl⟩
  · have hm : (c, v, bn) ∈ M := List.mem_of_getElem? hj
    have hvm : v ∈ v3 :: v4 :: M.map (·.2.1) := by simp only [List.mem_cons, List.mem_map]; exact .inr (.inr ⟨_, hm, rfl⟩)
    have hvo := h.lay.obj v hvm
    have hne1 : vb v ≠ some (w.heap.size + 1) := fun e => by have := (hvo _ e).1; omega
    refine ⟨(h.lay.om _ hm).1, Nat.le_refl _, fun _ _ => rfl, fun j e => (hvo j e).2.1, ?_⟩
    intro W1 g cp i hO hOh hg
    have hM1 : Mp W1 (w.heap.size + 1) M ck := (hOh.block _ (by omega) hne1).trans h.lay.mp
    refine ⟨M, ck, j, hM1, h.lay.born, hj, M.set j (c, Value.slice (some ⟨g, 0, none⟩) ((F c).length + 1) cp, bn), ck, ?_⟩
    obtain ⟨hjl, hje⟩ := List.getElem?_eq_some_iff.1 hj
    have hgn : g ≠ w.heap.size + 1 := by
      rcases hg with hg | ⟨c', hc⟩
      · omega
      · intro e; exact hne1 (by rw [hc, e]; rfl)
    have hOp : OwnR 1 (w.heap.size + 4) (W1.putObj (w.heap.size + 1) (.map ((M.set j (c, Value.slice (some ⟨g, 0, none⟩) ((F c).length + 1) cp, bn)).map mkE).toArray ck)) (.slice (some ⟨g, 0, none⟩) ((F c).length + 1) cp) ((F c).length + 1) (iRow (F c) ++ [.int .i64 (i : Int)]) := hO.heap (fun x e => by
      have ex : g = x := by simpa [vb] using e
      subst ex
      exact World.putObj_heap_other hgn)
    have hbk : ∀ x, x < Wb.heap.size → x ≠ w.heap.size + 1 → vb v ≠ some x → (W1.putObj (w.heap.size + 1) (.map ((M.set j (c, Value.slice (some ⟨g, 0, none⟩) ((F c).length + 1) cp, bn)).map mkE).toArray ck)).heap[x]? = Wb.heap[x]? := fun x hx2 hx3 hx4 => (World.putObj_heap_other hx3).trans (hOh.block x hx2 hx4)
    have hl1 : w.heap.size + 1 < W1.heap.size := by have := hOh.size; omega
    have hmp : Mp (W1.putObj (w.heap.size + 1) (.map ((M.set j (c, Value.slice (some ⟨g, 0, none⟩) ((F c).length + 1) cp, bn)).map mkE).toArray ck)) (w.heap.size + 1) (M.set j (c, Value.slice (some ⟨g, 0, none⟩) ((F c).length + 1) cp, bn)) ck := by
      unfold Mp World.putObj
      simp [hl1]
    refine h.step (v := v) (.inr hvm) hOh.os hOh.tape hOh.output (by have := hOh.size; simpa [World.putObj] using this) (fun x hx2 _ hx3 _ hx4 => hbk x hx2 hx3 hx4) (h.lay.groupA hj hOp (by have := hOh.size; simpa [World.putObj] using this) (fun x hx2 hx3 hx4 => hbk x hx2 hx3 hx4) hmp hg) (fun u hu => ?_)
    have hgv : Wb.heap.size ≤ g ∨ vb v = some g := by
      rcases hg with hg | ⟨c', hc⟩
      · exact .inl hg
      · exact .inr (by rw [hc]; rfl)
    simp only [List.mem_cons] at hu
    rcases hu with e | e | e
    · exact .inl (by simp [e])
    · exact .inl (by simp [e])
    · rw [List.map_set] at e
      rcases List.mem_or_eq_of_mem_set e with e | e
      · exact .inl (by simp only [List.mem_cons]; exact .inr (.inr e))
      · exact .inr ⟨g, _, _, e, hgv⟩
  · have hcm : ∀ m ∈ M, m.1 ≠ c := ix_none hx
    have hF : F c = [] := by
      rcases Classical.em (F c = []) with e | e
      · exact e
      · obtain ⟨m, hm, e2⟩ := h.lay.hasF c e
        exact absurd e2 (hcm m hm)
    refine ⟨by rw [hF]; exact OwnR.nil _ _ _, by simp [World.putObj], fun j hj => World.putObj_heap_other hj, fun j e => (by simp [vb] at e), ?_⟩
    intro W1 g cp i hO hOh hg
    have hs1 : W.heap.size ≤ W1.heap.size := by have := hOh.size; simpa [World.putObj] using this
    have hM1 : Mp W1 (w.heap.size + 1) (M ++ [(c, Value.slice none 0 0, bn)]) (bn + 1) := by
      unfold Mp
      rw [hOh.block _ (by simp [World.putObj]; omega) (by simp [vb])]
      unfold World.putObj
      simp [show w.heap.size + 1 < W.heap.size by omega]
    have hb1 : ((M ++ [(c, (.slice none 0 0 : Value), bn)]).map (·.2.2)).Nodup := by
      rw [List.map_append, List.nodup_append]
      refine ⟨h.lay.born, by simp, fun a ha b hb2 e => ?_⟩
      obtain ⟨m, hm', rfl⟩ := List.mem_map.1 ha
      simp only [List.map_cons, List.map_nil, List.mem_cons, List.not_mem_nil, or_false] at hb2
      have := h.lay.bornlt m hm'
      omega
    refine ⟨M ++ [(c, Value.slice none 0 0, bn)], bn + 1, M.length, hM1, hb1, by simp, M ++ [(c, Value.slice (some ⟨g, 0, none⟩) 1 cp, bn)], bn + 1, ?_⟩
    have hset : (M ++ [(c, (.slice none 0 0 : Value), bn)]).set M.length (c, Value.slice (some ⟨g, 0, none⟩) ((F c).length + 1) cp, bn) = M ++ [(c, Value.slice (some ⟨g, 0, none⟩) 1 cp, bn)] := by
      rw [hF]; simp
    rw [hset]
    have hgW : W.heap.size ≤ g := by
      rcases hg with hg | ⟨c', hc⟩
      · simpa [World.putObj] using hg
      · cases hc
    have hbk : ∀ x, x < W.heap.size → x ≠ w.heap.size + 1 → (W1.putObj (w.heap.size + 1) (.map ((M ++ [(c, Value.slice (some ⟨g, 0, none⟩) 1 cp, bn)]).map mkE).toArray (bn + 1))).heap[x]? = W.heap[x]? := fun x hx2 hx3 => (World.putObj_heap_other hx3).trans ((hOh.block x (by simpa [World.putObj] using hx2) (by simp [vb])).trans (World.putObj_heap_other hx3))
    have hl1 : w.heap.size + 1 < W1.heap.size := by omega
    have hmp : Mp (W1.putObj (w.heap.size + 1) (.map ((M ++ [(c, Value.slice (some ⟨g, 0, none⟩) 1 cp, bn)]).map mkE).toArray (bn + 1))) (w.heap.size + 1) (M ++ [(c, Value.slice (some ⟨g, 0, none⟩) 1 cp, bn)]) (bn + 1) := by
      unfold Mp World.putObj
      simp [hl1]
    have hO' : OwnR 1 (w.heap.size + 4) (W1.putObj (w.heap.size + 1) (.map ((M ++ [(c, Value.slice (some ⟨g, 0, none⟩) 1 cp, bn)]).map mkE).toArray (bn + 1))) (.slice (some ⟨g, 0, none⟩) 1 cp) 1 [.int .i64 (i : Int)] := by
      rw [hF] at hO
      exact hO.heap (fun x e => by
        have ex : g = x := by simpa [vb] using e
        subst ex
        exact World.putObj_heap_other (by omega))
    refine h.step (v := .slice none 0 0) (.inl rfl) (hOh.os) (hOh.tape) (hOh.output) (by simpa [World.putObj] using hs1) (fun x hx2 _ hx3 _ _ => hbk x hx2 hx3) (h.lay.groupB hcm hF hO' (by simpa [World.putObj] using hs1) hbk hmp hgW) (fun u hu => ?_)
    simp only [List.mem_cons, List.map_append, List.mem_append, List.map_cons, List.map_nil, List.not_mem_nil, or_false] at hu
    rcases hu with e | e | e | e
    · exact .inl (by simp [e])
    · exact .inl (by simp [e])
    · exact .inl (by simp only [List.mem_cons]; exact .inr (.inr e))
    · exact .inr ⟨g, _, _, e, .inl hgW⟩
theorem KeepsFrom.up {A A' : Nat} {X Y : World} (h : KeepsFrom A X Y) (hA : A ≤ A') : KeepsFrom A' X Y := ⟨h.size, fun k o hk => h.same k o (by omega)⟩
theorem KeepsFrom.of_bel {A : Nat} {X Y : World} (h : Bel X Y) : KeepsFrom A X Y := ⟨h.size, fun k o _ hk _ => (h.1.block k (Array.getElem?_eq_some_iff.1 hk).1).trans hk⟩
theorem rs_start {Wr : World} (hL : LayS Wr w.heap.size n sa cap (fun i => spO d (B i)) (fun i => mayO (B i)) kk v3 v4 M ck Sm Wd F) (hB : Below w.heap.size w Wr) (hD : ∀ D, D ∈ Ds → w.heap.size + 4 ≤ D ∧ Wr.heap[D]? = some (.deferred (some []))) (b : Bel Wr W)
    (h6 : Wr.heap.size ≤ p6) (h8 : Wr.heap.size ≤ g8) (ci : W.cell? ⟨p6, 0, none⟩ = some (.int .i64 (k : Int))) (cs : SpC W g8 (spO d (B k))) : RS w W n sa cap d B k kk v3 v4 M ck Sm Wd F p6 g8 [] Ds := by
  have hsz := hL.sz
  have hlt : ∀ v ∈ v3 :: v4 :: M.map (·.2.1), ∀ x, Wr.heap.size ≤ x → vb v ≠ some x := fun v hv x hx e => by have := (hL.obj v hv x e).2.1; omega
  refine ⟨hL.bel b, hB.trans (b.1.mono hB.size), fun D h => ⟨(hD D h).1, (b.1.block D (Array.getElem?_eq_some_iff.1 (hD D h).2).1).trans (hD D h).2⟩, ci, cs, fun x hx => ?_⟩
  simp only [List.mem_cons, List.not_mem_nil, or_false] at hx
  rcases hx with rfl | rfl
  · exact ⟨by omega, World.block_lt_of_cell? _ _ ci, fun v hv => hlt v hv _ h6⟩
  · exact ⟨by omega, World.block_lt_of_cell? _ _ cs.1, fun v hv => hlt v hv _ h8⟩
end
/-- 'm[k]' of 'm[k] = append(m[k], ..)' -/
theorem ent_run {P : Program} {t k e : TypeId} (h : KeyP P k) (ht : P.underlying t = some (.map k e)) (hz : ∀ w, (zeroValue e).run P w = .ok (.slice none 0 0) w) (b : Nat) (M : List En) (ck : Nat) (c : Ce) :
    ∃ (v : Value) (bn : Nat), ∀ W, Mp W b M ck → ∃ Wb, (Instr.mapEntry t (.map (some b)) (ceV c)).run P W = .ok (.tuple #[v, goInt bn]) Wb ∧ EntS b W Wb M ck c v bn := by
  cases hx : ixM c M with
  | some j =>
    obtain ⟨v, bn, hj, hl⟩ := ix_some hx
    exact ⟨v, bn, fun W hm => ⟨W, entry_some h ht hm c hx hj, .inl ⟨j, hx, hj, rfl⟩⟩⟩
  | none => exact ⟨.slice none 0 0, ck, fun W hm => ⟨_, entry_none h ht (hz W) hm c hx, .inr ⟨hx, rfl, rfl, rfl⟩⟩⟩
end Go.Proofs.Ytekhnolpgoejdab
namespace Go.Proofs.Ytekhnolpgoejdab
open Ieee Go.RowKit
set_option linter.unusedSimpArgs false
set_option linter.unusedVariables false

/-! ### pairSmall: what is held while cells are gone through -/
theorem both_len {B : Nat → Bo} {d n : Nat} {V : List Ce} {Q : List (Nat × Nat)} (hQ : SmQ B d n V Q) (hn : n ≤ 200) : (wdL B (nums (wdB B d) n) (nums (smB B d) n) (nums (wdB B d) n).length ++ Q).length ≤ 40000 := by
  have hdis : ∀ i ∈ nums (wdB B d) n, ¬ i ∈ nums (smB B d) n := fun i h1 h2 => by
    have a := (wdB_parts (nums_mem.1 h1).2).2
    have b := (smB_parts (nums_mem.1 h2).2).2
    rw [a] at b; cases b
  have hW := nums_lt (wdB B d) n
  have hS : (nums (smB B d) n).Nodup := (nums_lt _ n).imp fun h => Nat.ne_of_lt h
  have hm := fun x => mem_wdL (B := B) hW hdis (nums (wdB B d) n).length x
  rw [List.take_length] at hm
  refine Nat.le_trans (among_len (r := refP B n) ?_ lex_allB (fun x hx => ?_)) (refP_sq B hn)
  · rw [List.nodup_append]
    refine ⟨nodup_wdL hW hS hdis _, hQ.nd, fun x hx y hy e => ?_⟩
    subst e
    have h1 := (hm x).1 hx
    have h2 := (hQ.mem x).1 hy
    rcases h1.2.2 with ⟨h3, _⟩ | ⟨h3, _⟩ | ⟨h3, _⟩
    · exact hdis _ h3 h2.2.1
    · exact hdis _ h3 h2.2.1
    · exact hdis _ h3 h2.2.2.1
  · rw [mem_refP]
    rcases List.mem_append.1 hx with hx | hx
    · obtain ⟨h1, h2, h3⟩ := (hm x).1 hx
      simp only [nums_mem] at h3
      rcases h3 with ⟨h3, h4⟩ | ⟨h3, h4⟩ | ⟨h3, h4⟩
      · exact ⟨h1, h4.1, (wdB_parts h3.2).1, (wdB_parts h4.2).1, h2⟩
      · exact ⟨h1, h4.1, (wdB_parts h3.2).1, (smB_parts h4.2).1, h2⟩
      · exact ⟨h1, h3.1, (smB_parts h4.2).1, (wdB_parts h3.2).1, h2⟩
    · obtain ⟨h1, h2, h3, h4, h5⟩ := (hQ.mem x).1 hx
      have a := nums_mem.1 h2
      have b := nums_mem.1 h3
      exact ⟨h1, b.1, (smB_parts a.2).1, (smB_parts b.2).1, h4⟩
/-- the map without the cells of V -/
def outM (M : List En) (V : List Ce) : List En := M.filter fun m => decide (¬ m.1 ∈ V)
theorem outM_nil (M : List En) : outM M [] = M := by unfold outM; simp
theorem outM_mem {M : List En} {V : List Ce} {m : En} : m ∈ outM M V ↔ m ∈ M ∧ ¬ m.1 ∈ V := by unfold outM; simp
theorem erase_filter {c : Ce} : ∀ {M : List En}, (M.map (·.1)).Nodup → (match ixM c M with | some j => M.eraseIdx j | none => M) = M.filter fun m => decide (m.1 ≠ c)
  | [], _ => by simp [ixM]
  | a :: M, h => by
    rw [List.map_cons, List.nodup_cons] at h
    have ih := erase_filter (c := c) h.2
    unfold ixM at ih ⊢
    rw [List.findIdx?_cons]
    by_cases e : c = a.1
    · simp only [e, decide_true, if_true]
      rw [List.filter_cons_of_neg (by simp)]
      rw [List.eraseIdx_cons_zero]
      refine (List.filter_eq_self.2 fun m hm => ?_).symm
      have : m.1 ≠ a.1 := fun e2 => h.1 (by rw [← e2]; exact List.mem_map.2 ⟨m, hm, rfl⟩)
      simpa using this
    · rw [List.filter_cons_of_pos (by simpa using fun e2 => e e2.symm)]
      simp only [e, decide_false, Bool.false_eq_true, if_false]
      cases hx : M.findIdx? (fun m => decide (c = m.1)) with
      | none => rw [hx] at ih; simp only [Option.map_none]; rw [← ih]
      | some j => rw [hx] at ih; simp only [Option.map_some, List.eraseIdx_cons_succ]; rw [← ih]
theorem outM_erase {M : List En} (h : (M.map (·.1)).Nodup) (V : List Ce) (c : Ce) : (match ixM c (outM M V) with | some j => (outM M V).eraseIdx j | none => outM M V) = outM M (V ++ [c]) := by
  rw [erase_filter (M := outM M V) (h.sublist ((List.filter_sublist).map _))]
  unfold outM
  rw [List.filter_filter]
  congr 1
  funext m
  simp only [List.mem_append, List.mem_singleton]
  by_cases h1 : m.1 ∈ V <;> by_cases h2 : m.1 = c <;> simp [h1, h2]
structure PSt (W0 W : World) (s0 n : Nat) (sa : Option Addr) (cap d : Nat) (B : Nat → Bo) (v3 v4 : Value) (M : List En) (ck : Nat) (L : List (Nat × Nat)) (V Vm : List Ce) (u : Value) (Q : List (Nat × Nat)) (X : List Nat) : Prop where
  g6 : G6 W (s0 + 2) (.slice sa n cap) (.slice (some ⟨s0, 0, none⟩) n n) (.map (some (s0 + 1))) v3 v4 u
  st : Sta W0.heap.size (fun k => k = s0 + 2 ∨ k = s0 + 1) W0 W
  mp : Mp W (s0 + 1) (outM M Vm) ck
  ow : OwnR 2 W0.heap.size W u (L ++ Q).length (pRow (L ++ Q))
  zn : (L ++ Q).length = 0 → u = .slice none 0 0
  q : SmQ B d n V Q
  far : ∀ x, x ∈ X → W0.heap.size ≤ x ∧ x < W.heap.size ∧ vb u ≠ some x
section
variable {W0 W W' : World} {s0 n : Nat} {sa : Option Addr} {cap d : Nat} {B : Nat → Bo} {v3 v4 u u' : Value} {M : List En} {ck : Nat} {L : List (Nat × Nat)} {V Vm Vm' : List Ce} {Q : List (Nat × Nat)} {X : List Nat}
theorem PSt.sz (h : PSt W0 W s0 n sa cap d B v3 v4 M ck L V Vm u Q X) : W0.heap.size ≤ W.heap.size := h.st.size
theorem PSt.uo (h : PSt W0 W s0 n sa cap d B v3 v4 M ck L V Vm u Q X) : ∀ k, vb u = some k → ∃ o, W.heap[k]? = some o ∧ o.isCells = true := fun k e => by
  refine (own_obj h.ow (by decide) ?_ e).2.2
  rcases Nat.eq_zero_or_pos (L ++ Q).length with h0 | h0
  · exact .inr (h.zn h0)
  · exact .inl (by omega)
theorem PSt.ult (h : PSt W0 W s0 n sa cap d B v3 v4 M ck L V Vm u Q X) : ∀ k, vb u = some k → k < W.heap.size := fun k e => by
  obtain ⟨o, ho, _⟩ := h.uo k e
  exact (Array.getElem?_eq_some_iff.1 ho).1
/-- whatever leaves all but the map as it lay, or turns blocks that are no cells and lie behind -/
theorem PSt.keep (h : PSt W0 W s0 n sa cap d B v3 v4 M ck L V Vm u Q X) (h0 : s0 + 4 ≤ W0.heap.size) (ho : W'.os = W.os) (ht : W'.tape = W.tape) (hu : W'.output = W.output) (hs : W.heap.size ≤ W'.heap.size)
    (hb : ∀ j, j < W.heap.size → j ≠ s0 + 1 → (j < W0.heap.size ∨ j ∈ X ∨ vb u = some j) → W'.heap[j]? = W.heap[j]?) (hm : Mp W' (s0 + 1) (outM M Vm') ck) : PSt W0 W' s0 n sa cap d B v3 v4 M ck L V Vm' u Q X := by
  have hsz := h.st.size
  have e2 := hb (s0 + 2) (by omega) (by omega) (.inl (by omega))
  have eu : ∀ k, vb u = some k → W'.heap[k]? = W.heap[k]? := fun k e => hb k (h.ult k e) (by have := own_vb h.ow k e; omega) (.inr (.inr e))
  refine ⟨h.g6.same (heap_cell_eq e2) (heap_frozen_eq e2), ⟨ho.trans h.st.os, ht.trans h.st.tape, hu.trans h.st.output, Nat.le_trans h.st.size hs, fun k hk hn => ?_⟩, hm, h.ow.heap eu, h.zn, h.q, fun x hx => ?_⟩
  · exact (hb k (by omega) (fun e => hn (.inr e)) (.inl hk)).trans (h.st.block k hk hn)
  · obtain ⟨h1, h2, h3⟩ := h.far x hx
    exact ⟨h1, Nat.lt_of_lt_of_le h2 hs, h3⟩
theorem PSt.bel (h : PSt W0 W s0 n sa cap d B v3 v4 M ck L V Vm u Q X) (h0 : s0 + 4 ≤ W0.heap.size) (b : Bel W W') : PSt W0 W' s0 n sa cap d B v3 v4 M ck L V Vm u Q X :=
  h.keep h0 b.1.os b.1.tape b.1.output b.size (fun j hj _ _ => b.1.block j hj) ((b.1.block _ (by have := h.st.size; omega)).trans h.mp)
theorem PSt.grown (h : PSt W0 W s0 n sa cap d B v3 v4 M ck L V Vm u Q X) (h0 : s0 + 4 ≤ W0.heap.size) {row : Option Nat} (hg : W.grownBy W' row) {A : Nat} (hA : W0.heap.size ≤ A) (hx : ∀ x ∈ X, x < A) (hr : ∀ r, row = some r → A ≤ r ∧ ∃ o : Obj, W.heap[r]? = some o ∧ o.isCells = false) : PSt W0 W' s0 n sa cap d B v3 v4 M ck L V Vm u Q X := by
  have hbk : ∀ j, j < W.heap.size → j < A → W'.heap[j]? = W.heap[j]? := fun j hj hjA => hg.block j hj (fun e => by have := (hr j e.symm).1; omega)
  refine h.keep h0 hg.os hg.tape hg.output hg.size (fun j hj hn hc => ?_) ((hbk _ (by have := h.st.size; omega) (by omega)).trans h.mp)
  rcases hc with hc | hc | hc
  · exact hbk j hj (by omega)
  · exact hbk j hj (hx j hc)
  · refine hg.block j hj (fun e => ?_)
    obtain ⟨_, o, ho, hcf⟩ := hr j e.symm
    obtain ⟨o', ho', hct⟩ := h.uo j hc
    rw [ho] at ho'; cases ho'; rw [hcf] at hct; cases hct
theorem PSt.more (h : PSt W0 W s0 n sa cap d B v3 v4 M ck L V Vm u Q X) {q : Nat} (h1 : W0.heap.size ≤ q) (h2 : q < W.heap.size) (h3 : vb u ≠ some q) : PSt W0 W s0 n sa cap d B v3 v4 M ck L V Vm u Q (q :: X) :=
  ⟨h.g6, h.st, h.mp, h.ow, h.zn, h.q, fun x hx => by
    rcases List.mem_cons.1 hx with e | e
    · rw [e]; exact ⟨h1, h2, h3⟩
    · exact h.far x e⟩
theorem PSt.less (h : PSt W0 W s0 n sa cap d B v3 v4 M ck L V Vm u Q X) {X' : List Nat} (hx : ∀ x ∈ X', x ∈ X) : PSt W0 W s0 n sa cap d B v3 v4 M ck L V Vm u Q X' :=
  ⟨h.g6, h.st, h.mp, h.ow, h.zn, h.q, fun x hx' => h.far x (hx x hx')⟩
/-- a cell is taken out of the map -/
theorem PSt.dele (h : PSt W0 W s0 n sa cap d B v3 v4 M ck L V Vm u Q X) (h0 : s0 + 4 ≤ W0.heap.size) (hk : (M.map (·.1)).Nodup) (c : Ce) :
    PSt W0 (W.putObj (s0 + 1) (.map ((match ixM c (outM M Vm) with | some j => (outM M Vm).eraseIdx j | none => outM M Vm).map mkE).toArray ck)) s0 n sa cap d B v3 v4 M ck L V (Vm ++ [c]) u Q X ∧
    ∀ j, j ≠ s0 + 1 → (W.putObj (s0 + 1) (.map ((match ixM c (outM M Vm) with | some j => (outM M Vm).eraseIdx j | none => outM M Vm).map mkE).toArray ck)).heap[j]? = W.heap[j]? := by
  have hsz := h.st.size
  rw [outM_erase hk]
  refine ⟨h.keep h0 rfl rfl rfl (by simp [World.putObj]) (fun j hj hn _ => World.putObj_heap_other hn) ?_, fun j hn => World.putObj_heap_other hn⟩
  unfold Mp World.putObj
  simp [show s0 + 1 < W.heap.size by omega]
/-- what lies in a cell -/
theorem PSt.look (h : PSt W0 W s0 n sa cap d B v3 v4 M ck L V V u Q X) {Sm Wd : List Nat} {S : Nat → Sp4} {Vb : Nat → Bool} {kk : Nat} (hL : LayS W0 s0 n sa cap S Vb kk v3 v4 M ck Sm Wd (grF B d n)) (hn : n ≤ 200) (c : Ce) :
    ∃ sr rc, ((ixM c (outM M V)).bind fun j => ((outM M V)[j]?).map fun m => m.2.1).getD (.slice none 0 0) = .slice sr (outF (grF B d n) V c).length rc ∧ (outF (grF B d n) V c).length ≤ rc ∧ rc ≤ 9223372036854775807 ∧ RowN W0 W0.heap.size (fun k => k = s0 + 2 ∨ k = s0 + 1) sr (outF (grF B d n) V c) := by
  cases hx : ixM c (outM M V) with
  | none =>
    have hno := ix_none hx
    have hF : outF (grF B d n) V c = [] := by
      unfold outF
      split
      · rfl
      · rename_i hV
        rcases Classical.em (grF B d n c = []) with e | e
        · exact e
        · obtain ⟨m, hm, e2⟩ := hL.hasF c e
          exact absurd e2 (hno m (outM_mem.2 ⟨hm, by rw [e2]; exact hV⟩))
    rw [hF]
    exact ⟨none, 0, rfl, Nat.le_refl _, by decide, .inl rfl⟩
  | some j =>
    obtain ⟨v, bn, hj, hl⟩ := ix_some hx
    have hm := outM_mem.1 (List.mem_of_getElem? hj)
    have hF : outF (grF B d n) V c = grF B d n c := by unfold outF; rw [if_neg hm.2]
    rw [hF]
    obtain ⟨hO, hne⟩ := hL.om _ hm.1
    simp only at hO hne
    have hvm : v ∈ v3 :: v4 :: M.map (·.2.1) := by simp only [List.mem_cons, List.mem_map]; exact .inr (.inr ⟨_, hm.1, rfl⟩)
    rcases own_split hO (by decide) with ⟨h0, _⟩ | ⟨h0, g, cp, rfl, hb, hg, hrest⟩
    · exact absurd (List.eq_nil_of_length_eq_zero h0) hne
    · have hob := hL.obj _ hvm g rfl
      have hcp : (grF B d n c).length ≤ cp ∧ cp ≤ maxLen := by
        rcases hO.2 with ⟨e, _⟩ | ⟨g', cp', e, _, h3, h4, _⟩
        · cases e
        · cases e; exact ⟨h3, by first | exact h4 | omega⟩
      refine ⟨some ⟨g, 0, none⟩, cp, by simp [hj], hcp.1, by have := hcp.2; unfold maxLen at this; omega, .inr ⟨g, 0, rfl, hob.2.1, by have := hob.1; omega, own_is hO⟩⟩
/-- the pairs of a cell are told -/
theorem PSt.told {c : Ce} (h : PSt W0 W s0 n sa cap d B v3 v4 M ck L V (V ++ [c]) u Q X) (h0 : s0 + 4 ≤ W0.heap.size) (hd : mayW d = true) (hg : G6 W' (s0 + 2) (.slice sa n cap) (.slice (some ⟨s0, 0, none⟩) n n) (.map (some (s0 + 1))) v3 v4 u')
    (hO : OwnR 2 W0.heap.size W' u' ((L ++ Q) ++ ccL B (fun i => spO d (B i)) c (outF (grF B d n) V c) (outF (grF B d n) V c).length).length (pRow ((L ++ Q) ++ ccL B (fun i => spO d (B i)) c (outF (grF B d n) V c) (outF (grF B d n) V c).length))) (hM : Mov (s0 + 2) W u W' u')
    (hz : ((L ++ Q) ++ ccL B (fun i => spO d (B i)) c (outF (grF B d n) V c) (outF (grF B d n) V c).length).length = 0 → u' = u) :
    PSt W0 W' s0 n sa cap d B v3 v4 M ck L (V ++ [c]) (V ++ [c]) u' (Q ++ ccL B (fun i => spO d (B i)) c (outF (grF B d n) V c) (outF (grF B d n) V c).length) X ∧ (∀ x ∈ X, W'.heap[x]? = W.heap[x]?) ∧ KeepsFrom W0.heap.size W W' := by
  have hsz := h.st.size
  have huN := own_vb h.ow
  have hS := hM.sta hsz huN
  have hX : ∀ x ∈ X, W'.heap[x]? = W.heap[x]? := fun x hx => by
    obtain ⟨h1, h2, h3⟩ := h.far x hx
    exact hM.block x h2 (by omega) h3
  refine ⟨⟨hg, h.st.trans (hS.mono fun k hk => .inl hk), (hM.block _ (by omega) (by omega) (fun e => by have := huN _ e; omega)).trans h.mp, by rw [← List.append_assoc]; exact hO, fun e => ?_, h.q.step hd c, fun x hx => ?_⟩, hX, hM.size, fun j o hj ho hc => ?_⟩
  · rw [← List.append_assoc] at e
    rw [hz e]
    rw [List.length_append] at e
    exact h.zn (by omega)
  · obtain ⟨h1, h2, h3⟩ := h.far x hx
    exact ⟨h1, Nat.lt_of_lt_of_le h2 hM.size, fun e => h3 (hM.old x h2 e)⟩
  · refine (hM.block j (Array.getElem?_eq_some_iff.1 ho).1 (by omega) (fun e => ?_)).trans ho
    obtain ⟨o', ho', hc'⟩ := h.uo j e
    rw [ho] at ho'; cases ho'; rw [hc] at hc'; cases hc'
/-- pairSmall begins -/
theorem ps_start {Sm Wd : List Nat} {S : Nat → Sp4} {Vb : Nat → Bool} {kk : Nat} {F : Ce → List Nat} (hL : LayS W0 s0 n sa cap S Vb kk v3 v4 M ck Sm Wd F) (hg : G6 W (s0 + 2) (.slice sa n cap) (.slice (some ⟨s0, 0, none⟩) n n) (.map (some (s0 + 1))) v3 v4 u) (hS : Sta W0.heap.size (· = s0 + 2) W0 W) (hO : OwnR 2 W0.heap.size W u L.length (pRow L)) (hz : L.length = 0 → u = .slice none 0 0) :
    PSt W0 W s0 n sa cap d B v3 v4 M ck L [] [] u [] [] := by
  have hsz := hL.sz
  exact ⟨hg, hS.mono fun k hk => .inl hk, by rw [outM_nil]; exact (hS.block _ (by omega) (by omega)).trans hL.mp, by rw [List.append_nil]; exact hO, fun e => hz (by simpa using e), smq_nil B d n, fun x hx => by cases hx⟩
end
theorem BoxN.mono {w : World} {N : Nat} {K K' : Nat → Prop} {sa : Option Addr} {n : Nat} {B : Nat → Bo} (h : BoxN w N K sa n B) (hK : ∀ k, K' k → K k) : BoxN w N K' sa n B := by
  rcases h with h | ⟨b, off, e, hb, hk, h⟩
  · exact .inl h
  · exact .inr ⟨b, off, e, hb, fun hh => hk (hK b hh), h⟩
theorem RowN.mono {w : World} {N : Nat} {K K' : Nat → Prop} {sa : Option Addr} {R : List Nat} (h : RowN w N K sa R) (hK : ∀ k, K' k → K k) : RowN w N K' sa R := by
  rcases h with h | ⟨b, off, e, hb, hk, h⟩
  · exact .inl h
  · exact .inr ⟨b, off, e, hb, fun hh => hk (hK b hh), h⟩
end Go.Proofs.Ytekhnolpgoejdab
