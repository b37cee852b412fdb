/-
  Plain facts on floats, more: rounding to the nearest rung, sums and products of finite floats, signs turned. No program is named here.
-/
import Derived.Test.YtnfhedmlifjlmaaSti
import Derived.RangeFuncNested
import Derived.RangeFuncBound
import Derived.RangeFuncCalls
namespace Go.Proofs.Ytnfhedmlifjlmaa
open Ieee Go.RowKit
set_option linter.unusedSimpArgs false
set_option linter.unusedVariables false

/-! ### Two rows, each in a box, that grow by handles and numbers -/
abbrev El := (Nat × Nat) × Int
structure Tw (w0 : World) (p q : Nat) (E : List El) (W : World) (sh : Option Addr) (ch : Nat) (sx : Option Addr) (cx : Nat) : Prop where
  cp : W.cell? ⟨p, 0, none⟩ = some (.slice sh E.length ch)
  cq : W.cell? ⟨q, 0, none⟩ = some (.slice sx E.length cx)
  fp : W.frozen? ⟨p, 0, none⟩ = false
  fq : W.frozen? ⟨q, 0, none⟩ = false
  rh : Ro 2 W sh E.length ch (hRow (E.map (·.1)))
  rx : Ro 1 W sx E.length cx (xRow (E.map (·.2)))
  d1 : ∀ k, k ∈ ob sh → w0.heap.size ≤ k ∧ k ∉ ob sx
  d2 : ∀ k, k ∈ ob sx → w0.heap.size ≤ k
  fr : Fr [p, q] [p, q] w0 W
  e0 : E = [] → sh = none ∧ sx = none
variable {w0 W W' : World} {p q : Nat} {E : List El} {sh sx sh' sx' : Option Addr} {ch cx ch' cx' : Nat}
theorem cells_kept {X Y : World} {row : Option Nat} {B k o : Nat} {v : Value} (hg : X.grownBy Y row) (hr : ∀ r, row = some r → B ≤ r ∧ ∃ o : Obj, X.heap[r]? = some o ∧ o.isCells = false) (h : X.cell? ⟨k, o, none⟩ = some v) : Y.heap[k]? = X.heap[k]? :=
  hg.block k (World.block_lt_of_cell? _ _ h) (fun e => by
    obtain ⟨_, o, ho, hc⟩ := hr k e.symm
    unfold World.cell? at h
    simp only [ho] at h
    cases o <;> first | cases h | cases hc)
theorem Ro.cells {sz n cap : Nat} {W : World} {sa : Option Addr} {R : List Value} (h : Ro sz W sa n cap R) (hn : 0 < n) (hs : 0 < sz) : ∀ k, k ∈ ob sa → ∃ u, W.cell? ⟨k, 0, none⟩ = some u := by
  obtain ⟨g, rfl, h1, _, _, h5, _, _⟩ := h.at hn
  intro k hk
  simp only [ob, List.mem_cons, List.not_mem_nil, or_false] at hk
  subst hk
  exact Option.isSome_iff_exists.1 (h5 0 (Nat.mul_pos (by omega) hs))
theorem Tw.grown (h : Tw w0 p q E W sh ch sx cx) (hp : p < w0.heap.size) (hq : q < w0.heap.size) {row : Option Nat} (hg : W.grownBy W' row) (hr : ∀ r, row = some r → w0.heap.size ≤ r ∧ ∃ o : Obj, W.heap[r]? = some o ∧ o.isCells = false) : Tw w0 p q E W' sh ch sx cx := by
  have kp := cells_kept hg hr h.cp
  have kq := cells_kept hg hr h.cq
  have rows : (∀ k, k ∈ ob sh → W'.heap[k]? = W.heap[k]?) ∧ (∀ k, k ∈ ob sx → W'.heap[k]? = W.heap[k]?) := by
    cases E with
    | nil => obtain ⟨rfl, rfl⟩ := h.e0 rfl; exact ⟨(fun k hk => by cases hk), (fun k hk => by cases hk)⟩
    | cons x E =>
      refine ⟨fun k hk => ?_, fun k hk => ?_⟩
      · obtain ⟨u, hu⟩ := h.rh.cells (by simp) (by decide) k hk; exact cells_kept hg hr hu
      · obtain ⟨u, hu⟩ := h.rx.cells (by simp) (by decide) k hk; exact cells_kept hg hr hu
  exact ⟨(heap_cell_eq kp 0).trans h.cp, (heap_cell_eq kq 0).trans h.cq, (heap_frozen_eq kp 0).trans h.fp, (heap_frozen_eq kq 0).trans h.fq, h.rh.heap rows.1 hg.size, h.rx.heap rows.2 hg.size, h.d1, h.d2,
    ⟨hg.os.trans h.fr.os, hg.tape.trans h.fr.tape, hg.output.trans h.fr.output, Nat.le_trans h.fr.size hg.size, fun k hk hn => (hg.block k (Nat.lt_of_lt_of_le hk h.fr.size) (fun e => by have := (hr k e.symm).1; omega)).trans (h.fr.block k hk hn), h.fr.grown⟩, h.e0⟩
theorem Tw.bel (h : Tw w0 p q E W sh ch sx cx) (b : Bel W W') : Tw w0 p q E W' sh ch sx cx :=
  ⟨keep b h.cp, keep b h.cq, (b.2 _).trans h.fp, (b.2 _).trans h.fq, h.rh.bel b, h.rx.bel b, h.d1, h.d2, h.fr.trans (Fr.of_bel b), h.e0⟩
theorem KeepsFrom.of_bel {A : Nat} {X Y : World} (h : Bel X Y) : KeepsFrom A X Y := ⟨h.size, fun k o _ hk _ => (h.1.block k (Array.getElem?_eq_some_iff.1 hk).1).trans hk⟩
/-- one handle and one number more: the rows as they have grown, and the boxes stored -/
structure Tg (w0 : World) (p q : Nat) (E : List El) (x : El) (W W' : World) (sh : Option Addr) (ch : Nat) (sx : Option Addr) (cx : Nat) : Prop where
  tw : Tw w0 p q (E ++ [x]) W' sh ch sx cx
  kf : KeepsFrom w0.heap.size W W'
  old : ∀ k, k < w0.heap.size → k ≠ p → k ≠ q → W'.heap[k]? = W.heap[k]?
theorem rows_cells {sz n cap : Nat} {W : World} {sa : Option Addr} {R : List Value} (h : Ro sz W sa n cap R) (hn : n = 0 → sa = none) (hs : 0 < sz) {k : Nat} {o : Obj} (ho : W.heap[k]? = some o) (hc : o.isCells = false) : k ∉ ob sa := fun hk => by
  cases n with
  | zero => rw [hn rfl] at hk; cases hk
  | succ n =>
    obtain ⟨u, hu⟩ := h.cells (by omega) hs k hk
    unfold World.cell? at hu
    simp only [ho] at hu
    cases o <;> first | cases hu | cases hc
/-- the first half: a handle is put behind, and its box stored -/
theorem Tw.first (h : Tw w0 p q E W sh ch sx cx) (hp : p < w0.heap.size) (hq : q < w0.heap.size) (hpq : p ≠ q) {V : World} (b : Bel W V) {n : Nat} (hn : n = E.length + 1) {x : El} (hR : Ro 2 W' sh' n ch' (hRow ((E ++ [x]).map (·.1)))) (f : Fr (ob sh) (ob sh') V W') :
    let Z := W'.setCell ⟨p, 0, none⟩ (.slice sh' n ch')
    Z.cell? ⟨p, 0, none⟩ = some (.slice sh' n ch') ∧ Z.cell? ⟨q, 0, none⟩ = some (.slice sx E.length cx) ∧ Z.frozen? ⟨p, 0, none⟩ = false ∧ Z.frozen? ⟨q, 0, none⟩ = false ∧ Ro 2 Z sh' n ch' (hRow ((E ++ [x]).map (·.1))) ∧ Ro 1 Z sx E.length cx (xRow (E.map (·.2))) ∧ (∀ k, k ∈ ob sh' → w0.heap.size ≤ k ∧ k ∉ ob sx) ∧ Fr [p, q] [p, q] w0 Z ∧ KeepsFrom w0.heap.size W Z ∧ (∀ k, k < w0.heap.size → k ≠ p → k ≠ q → Z.heap[k]? = W.heap[k]?) ∧ W.heap.size ≤ Z.heap.size ∧ W'.frozen? ⟨p, 0, none⟩ = false ∧ (∃ u, W'.cell? ⟨p, 0, none⟩ = some u) := by
  have h' := h.bel b
  have pn : p ∉ ob sh := fun hk => by have := (h.d1 p hk).1; omega
  have qn : q ∉ ob sh := fun hk => by have := (h.d1 q hk).1; omega
  have ps : p < V.heap.size := World.block_lt_of_cell? _ _ h'.cp
  have qs : q < V.heap.size := World.block_lt_of_cell? _ _ h'.cq
  have bp := f.block p ps pn
  have bq := f.block q qs qn
  have cp1 := (heap_cell_eq bp 0).trans h'.cp
  have cq1 := (heap_cell_eq bq 0).trans h'.cq
  have d' : ∀ k, k ∈ ob sh' → w0.heap.size ≤ k ∧ k ∉ ob sx := fun k hk => by
    rcases f.grown k hk with hk | hk
    · exact h.d1 k hk
    · have h1 := h.fr.size
      have h2 := b.size
      exact ⟨by omega, fun hx => by have := h'.rx.lt k hx; omega⟩
  have pn' : p ∉ ob sh' := fun hk => by have := (d' p hk).1; omega
  have pnx : p ∉ ob sx := fun hk => by have := h.d2 p hk; omega
  have hZs := ((Below.refl 0 W').setCell (p := ⟨p, 0, none⟩) (Nat.zero_le _) (.slice sh' n ch')).size
  have fR1 : Fr [p, q] [p, q] w0 W' := ⟨f.os.trans h'.fr.os, f.tape.trans h'.fr.tape, f.output.trans h'.fr.output, Nat.le_trans h'.fr.size f.size, fun k hk hn => (f.block k (Nat.lt_of_lt_of_le hk h'.fr.size) (fun hm => by have := (h.d1 k hm).1; omega)).trans (h'.fr.block k hk hn), h'.fr.grown⟩
  refine ⟨World.cell?_setCell_same' _ _ _ (by rw [cp1]; rfl), ?_, ?_, ?_, hR.away pn' 0 _, ?_, d', fR1.set (.inl (by simp)) 0 _, ?_, ?_, ?_, ?_, ⟨_, cp1⟩⟩
  · rw [heap_cell_eq (Below.heap_setCell W' _ _ q (fun e => hpq e.symm))]; exact cq1
  · exact (World.frozen?_setCell _ _ _ _).trans ((heap_frozen_eq bp 0).trans h'.fp)
  · exact (World.frozen?_setCell _ _ _ _).trans ((heap_frozen_eq bq 0).trans h'.fq)
  · exact (h'.rx.fr f (fun g hg hm => (h.d1 g hm).2 hg)).away pnx 0 _
  · refine ⟨Nat.le_trans (Nat.le_trans b.size f.size) hZs, fun k o hB hk ho => ?_⟩
    have hkl := (Array.getElem?_eq_some_iff.1 hk).1
    have hk1 : V.heap[k]? = some o := (b.1.block k hkl).trans hk
    have hks : k ∉ ob sh := rows_cells h.rh (fun e => (h.e0 (List.length_eq_zero_iff.1 e)).1) (by decide) hk ho
    exact (Below.heap_setCell W' _ _ k (show k ≠ p by omega)).trans ((f.block k (Nat.lt_of_lt_of_le hkl b.size) hks).trans hk1)
  · intro k hk h1 h2
    exact (Below.heap_setCell W' _ _ k h1).trans ((f.block k (Nat.lt_of_lt_of_le hk (Nat.le_trans h.fr.size b.size)) (fun hm => by have := (h.d1 k hm).1; omega)).trans (b.1.block k (Nat.lt_of_lt_of_le hk h.fr.size)))
  · exact Nat.le_trans (Nat.le_trans b.size f.size) hZs
  · exact (heap_frozen_eq bp 0).trans h'.fp
/-- the second half: a number is put behind, and its box stored -/
theorem Tw.second {Z : World} {n : Nat} {x : El} (hn : n = E.length + 1) (hp : p < w0.heap.size) (hq : q < w0.heap.size) (hpq : p ≠ q)
    (z1 : Z.cell? ⟨p, 0, none⟩ = some (.slice sh' n ch')) (z2 : Z.cell? ⟨q, 0, none⟩ = some (.slice sx E.length cx)) (z3 : Z.frozen? ⟨p, 0, none⟩ = false) (z4 : Z.frozen? ⟨q, 0, none⟩ = false) (z5 : Ro 2 Z sh' n ch' (hRow ((E ++ [x]).map (·.1)))) (z6 : Ro 1 Z sx E.length cx (xRow (E.map (·.2)))) (z7 : ∀ k, k ∈ ob sh' → w0.heap.size ≤ k ∧ k ∉ ob sx) (zd : ∀ k, k ∈ ob sx → w0.heap.size ≤ k) (ze : E = [] → sx = none) (z8 : Fr [p, q] [p, q] w0 Z) (z9 : KeepsFrom w0.heap.size W Z) (za : ∀ k, k < w0.heap.size → k ≠ p → k ≠ q → Z.heap[k]? = W.heap[k]?)
    {V : World} (b : Bel Z V) (hR : Ro 1 W' sx' n cx' (xRow ((E ++ [x]).map (·.2)))) (f : Fr (ob sx) (ob sx') V W') :
    Tg w0 p q E x W (W'.setCell ⟨q, 0, none⟩ (.slice sx' n cx')) sh' ch' sx' cx' ∧ W'.frozen? ⟨q, 0, none⟩ = false ∧ (∃ u, W'.cell? ⟨q, 0, none⟩ = some u) := by
  subst hn
  have y1 := keep b z1
  have y2 := keep b z2
  have pn : p ∉ ob sx := fun hk => by have := zd p hk; omega
  have qn : q ∉ ob sx := fun hk => by have := zd q hk; omega
  have ps : p < V.heap.size := World.block_lt_of_cell? _ _ y1
  have qs : q < V.heap.size := World.block_lt_of_cell? _ _ y2
  have bp := f.block p ps pn
  have bq := f.block q qs qn
  have cp1 := (heap_cell_eq bp 0).trans y1
  have cq1 := (heap_cell_eq bq 0).trans y2
  have hb8 := z8.trans (Fr.of_bel b)
  have dx : ∀ k, k ∈ ob sx' → w0.heap.size ≤ k := fun k hk => by
    rcases f.grown k hk with hk | hk
    · exact zd k hk
    · have := hb8.size; omega
  have dh : ∀ k, k ∈ ob sh' → w0.heap.size ≤ k ∧ k ∉ ob sx' := fun k hk => ⟨(z7 k hk).1, f.away ((z5.bel b).lt k hk) (z7 k hk).2⟩
  have qn' : q ∉ ob sx' := fun hk => by have := dx q hk; omega
  have qnh : q ∉ ob sh' := fun hk => by have := (z7 q hk).1; omega
  have hl : (E ++ [x]).length = E.length + 1 := by simp
  have hZs := ((Below.refl 0 W').setCell (p := ⟨q, 0, none⟩) (Nat.zero_le _) (.slice sx' (E.length + 1) cx')).size
  have fR1 : Fr [p, q] [p, q] w0 W' := ⟨f.os.trans hb8.os, f.tape.trans hb8.tape, f.output.trans hb8.output, Nat.le_trans hb8.size f.size, fun k hk hn => (f.block k (Nat.lt_of_lt_of_le hk hb8.size) (fun hm => by have := zd k hm; omega)).trans (hb8.block k hk hn), hb8.grown⟩
  refine ⟨⟨⟨?_, ?_, ?_, ?_, ?_, ?_, dh, dx, fR1.set (.inl (by simp)) 0 _, fun e => by simp at e⟩, ?_, ?_⟩, (heap_frozen_eq bq 0).trans ((b.2 _).trans z4), ⟨_, cq1⟩⟩
  · rw [heap_cell_eq (Below.heap_setCell W' _ _ p hpq), hl]; exact cp1
  · rw [hl]; exact World.cell?_setCell_same' _ _ _ (by rw [cq1]; rfl)
  · exact (World.frozen?_setCell _ _ _ _).trans ((heap_frozen_eq bp 0).trans ((b.2 _).trans z3))
  · exact (World.frozen?_setCell _ _ _ _).trans ((heap_frozen_eq bq 0).trans ((b.2 _).trans z4))
  · rw [hl]; exact ((z5.bel b).fr f (fun g hg => (z7 g hg).2)).away qnh 0 _
  · rw [hl]; exact hR.away qn' 0 _
  · refine z9.trans ⟨Nat.le_trans (Nat.le_trans b.size f.size) hZs, fun k o hB hk ho => ?_⟩
    have hkl := (Array.getElem?_eq_some_iff.1 hk).1
    have hk1 : V.heap[k]? = some o := (b.1.block k hkl).trans hk
    have hks : k ∉ ob sx := rows_cells z6 (fun e => ze (List.length_eq_zero_iff.1 e)) (by decide) hk ho
    exact (Below.heap_setCell W' _ _ k (show k ≠ q by omega)).trans ((f.block k (Nat.lt_of_lt_of_le hkl b.size) hks).trans hk1)
  · intro k hk h1 h2
    exact (Below.heap_setCell W' _ _ k h2).trans ((f.block k (Nat.lt_of_lt_of_le hk hb8.size) (fun hm => by have := zd k hm; omega)).trans ((b.1.block k (Nat.lt_of_lt_of_le hk z8.size)).trans (za k hk h1 h2)))
end Go.Proofs.Ytnfhedmlifjlmaa
