/-
  Plain facts on floats, more: rounding to the nearest rung, sums and products of finite floats, signs turned. No program is named here.
-/
import Derived.Test.YtnfhedmlifjlmaaSto2
namespace Go.Proofs.Ytnfhedmlifjlmaa
open Ieee Go.RowKit
set_option linter.unusedSimpArgs false
set_option linter.unusedVariables false

theorem Sto.cells {W : World} {m : Sm} {s : Ss} (h : Sto W m s) (o : Okk s) (hU : s.U ≠ []) : ∀ k ∈ m.F, ∃ u, W.cell? ⟨k, 0, none⟩ = some u := by
  have hl : 0 < s.U.length := List.length_pos_iff.2 hU
  have h1 := o.ll
  have h2 := o.tl
  intro k hk
  simp only [Sm.F, List.mem_cons, List.mem_append] at hk
  rcases hk with rfl | (hk | hk) | hk
  · exact ⟨_, h.c0⟩
  · exact h.ru.cells hl (by decide) k hk
  · exact h.rl.cells (by omega) (by decide) k hk
  · exact h.rt.cells (by omega) (by decide) k hk
/-- what is no cells, and new, is none of the store's -/
theorem Sto.walk {W : World} {m : Sm} {s : Ss} (h : Sto W m s) (o : Okk s) {B : Nat} (hz : s.U = [] → ∀ i ∈ m.F, i < B) {k : Nat} {ob' : Obj} (hB : B ≤ k) (hk : W.heap[k]? = some ob') (hc : ob'.isCells = false) : k ∉ m.F := fun hm => by
  by_cases hU : s.U = []
  · have := hz hU k hm; omega
  · obtain ⟨u, hu⟩ := h.cells o hU k hm
    unfold World.cell? at hu
    simp only [hk] at hu
    cases ob' <;> first | cases hu | cases hc
theorem Sto.grown {X Y : World} {m : Sm} {s : Ss} (h : Sto X m s) (o : Okk s) {B : Nat} (hz : s.U = [] → ∀ i ∈ m.F, i < B) {row : Option Nat} (hg : X.grownBy Y row) (hr : ∀ r, row = some r → B ≤ r ∧ ∃ o : Obj, X.heap[r]? = some o ∧ o.isCells = false) : ∀ k ∈ m.F, Y.heap[k]? = X.heap[k]? := fun k hk =>
  hg.block k (h.sz k hk) (fun e => by
    obtain ⟨h1, o', h2, h3⟩ := hr k e.symm
    exact h.walk o hz h1 h2 h3 hk)
structure Rg (w WS : World) (Ks : List Nat) (b p : Nat) (k : Nat) (W : World) (m : Sm) (s : Ss) : Prop where
  st : Sto W m s
  ok : Okk s
  hp : m.p = p
  hz : s.U = [] → ∀ i ∈ m.F, i < WS.heap.size
  cb : W.cell? ⟨b, 0, none⟩ = some (.int .i64 (k : Int))
  fb : W.frozen? ⟨b, 0, none⟩ = false
  kd : Kd (b :: Ks) m.F W
  kh : Kh Ks WS W
  lo : Below w.heap.size w W
  mw : ∀ i ∈ m.F, w.heap.size ≤ i
  sz : WS.heap.size ≤ W.heap.size
variable {w WS W W' : World} {Ks : List Nat} {b p k : Nat} {m m' : Sm} {s s' : Ss}
theorem Rg.grown (h : Rg w WS Ks b p k W m s) (hK : ∀ i, i ∈ b :: Ks → i < WS.heap.size) (hw : w.heap.size ≤ WS.heap.size) {row : Option Nat} (hg : W.grownBy W' row) (hr : ∀ r, row = some r → WS.heap.size ≤ r ∧ ∃ o : Obj, W.heap[r]? = some o ∧ o.isCells = false) : Rg w WS Ks b p k W' m s := by
  have old : ∀ i, i < WS.heap.size → W'.heap[i]? = W.heap[i]? := fun i hi => hg.block i (Nat.lt_of_lt_of_le hi h.sz) (fun e => by have := (hr i e.symm).1; omega)
  have eb := old b (hK b (by simp))
  exact ⟨h.st.heap (h.st.grown h.ok h.hz hg hr) hg.size, h.ok, h.hp, h.hz, (heap_cell_eq eb 0).trans h.cb, (heap_frozen_eq eb 0).trans h.fb, fun i hi => ⟨Nat.lt_of_lt_of_le (h.kd i hi).1 hg.size, (h.kd i hi).2⟩, fun i hi => (old i (hK i (by simp [hi]))).trans (h.kh i hi),
    ⟨hg.os.trans h.lo.os, hg.tape.trans h.lo.tape, hg.output.trans h.lo.output, Nat.le_trans h.lo.size hg.size, fun i hi => (old i (by omega)).trans (h.lo.block i hi)⟩, h.mw, Nat.le_trans h.sz hg.size⟩
theorem Rg.low (h : Rg w WS Ks b p k W m s) (f : Below W.heap.size W W') : Rg w WS Ks b p k W' m s := by
  have hb := h.kd b (by simp)
  exact ⟨h.st.low f, h.ok, h.hp, h.hz, (heap_cell_eq (f.block b hb.1) 0).trans h.cb, (heap_frozen_eq (f.block b hb.1) 0).trans h.fb, (h.kd.low f).1, fun i hi => (f.block i (h.kd i (by simp [hi])).1).trans (h.kh i hi), h.lo.trans (f.mono h.lo.size), h.mw, Nat.le_trans h.sz f.size⟩
theorem Rg.sto (h : Rg w WS Ks b p k W m s) (hS : Sto W' m' s') (ho : Okk s') (hp' : m'.p = p) (hz' : s'.U = [] → ∀ i ∈ m'.F, i < WS.heap.size) (f : Fr m.F m'.F W W') : Rg w WS Ks b p k W' m' s' := by
  have hb := h.kd b (by simp)
  have e := f.block b hb.1 hb.2
  obtain ⟨h1, h2⟩ := low_of h.lo f h.mw
  exact ⟨hS, ho, hp', hz', (heap_cell_eq e 0).trans h.cb, (heap_frozen_eq e 0).trans h.fb, (h.kd.fr f).1, fun i hi => (f.block i (h.kd i (by simp [hi])).1 (h.kd i (by simp [hi])).2).trans (h.kh i hi), h1, h2, Nat.le_trans h.sz f.size⟩
theorem Rg.kf (h : Rg w WS Ks b p k W m s) (f : Fr m.F m'.F W W') : KeepsFrom WS.heap.size W W' :=
  ⟨f.size, fun i o hB hi ho => (f.block i (Array.getElem?_eq_some_iff.1 hi).1 (h.st.walk h.ok h.hz hB hi ho)).trans hi⟩
theorem Rg.cnt (h : Rg w WS Ks b p k W m s) (hbK : b ∉ Ks) (hbw : w.heap.size ≤ b) (hbl : b < WS.heap.size) {c : Int} (hc : ((k + 1 : Nat) : Int) = c) : Rg w WS Ks b p (k + 1) (W.setCell ⟨b, 0, none⟩ (.int .i64 c)) m s ∧ KeepsFrom WS.heap.size W (W.setCell ⟨b, 0, none⟩ (.int .i64 c)) := by
  subst hc
  have hz := ((Below.refl 0 W).setCell (p := ⟨b, 0, none⟩) (Nat.zero_le _) (.int .i64 ((k + 1 : Nat) : Int)))
  have ne : ∀ i, i ≠ b → (W.setCell ⟨b, 0, none⟩ (.int .i64 ((k + 1 : Nat) : Int))).heap[i]? = W.heap[i]? := fun i hi => Below.heap_setCell W _ _ i hi
  have hb := h.kd b (by simp)
  refine ⟨⟨h.st.heap (fun i hi => ne i (fun e => hb.2 (by rw [← e]; exact hi))) hz.size, h.ok, h.hp, h.hz, World.cell?_setCell_same' _ _ _ (by rw [h.cb]; rfl), (World.frozen?_setCell _ _ _ _).trans h.fb, fun i hi => ⟨Nat.lt_of_lt_of_le (h.kd i hi).1 hz.size, (h.kd i hi).2⟩, fun i hi => (ne i (fun e => hbK (by rw [← e]; exact hi))).trans (h.kh i hi),
    ⟨hz.os.trans h.lo.os, hz.tape.trans h.lo.tape, hz.output.trans h.lo.output, Nat.le_trans h.lo.size hz.size, fun i hi => (ne i (by omega)).trans (h.lo.block i hi)⟩, h.mw, Nat.le_trans h.sz hz.size⟩, ⟨hz.size, fun i o hB hi _ => (ne i (by omega)).trans hi⟩⟩
/-- a block that is none of the store's, as the store's own cells tell -/
def Xb (p bx : Nat) (W : World) : Prop := bx ≠ p ∧ (∃ u, W.cell? ⟨p, 0, none⟩ = some u) ∧ ∀ o a n cap, o < 7 → W.cell? ⟨p, o, none⟩ = some (.slice a n cap) → bx ∉ ob a
theorem Xb.off {bx : Nat} (x : Xb p bx W) (h : Sto W m s) (hp : m.p = p) : bx ∉ m.F := fun hm => by
  subst hp
  simp only [Sm.F, List.mem_cons, List.mem_append] at hm
  rcases hm with rfl | (hm | hm) | hm
  · exact x.1 rfl
  · exact x.2.2 2 _ _ _ (by decide) h.c2 hm
  · exact x.2.2 3 _ _ _ (by decide) h.c3 hm
  · exact x.2.2 4 _ _ _ (by decide) h.c4 hm
theorem Sto.at_p (h : Sto W m s) : ∀ o a n cap, W.cell? ⟨m.p, o, none⟩ = some (.slice a n cap) → o < 7 → ∀ k ∈ ob a, k ∈ m.F := by
  intro o a n cap hc ho k hk
  have e : o = 0 ∨ o = 1 ∨ o = 2 ∨ o = 3 ∨ o = 4 ∨ o = 5 ∨ o = 6 := by omega
  rcases e with rfl | rfl | rfl | rfl | rfl | rfl | rfl
  · rw [h.c0] at hc; cases hc
  · rw [h.c1] at hc; cases hc
  · rw [h.c2] at hc; cases hc; simp [Sm.F, hk]
  · rw [h.c3] at hc; cases hc; simp [Sm.F, hk]
  · rw [h.c4] at hc; cases hc; simp [Sm.F, hk]
  · rw [h.c5] at hc; cases hc
  · rw [h.c6] at hc; cases hc
theorem Xb.new {W' : World} (h : Sto W m s) (hp : m.p = p) (b : Bel W W') : Xb p W.heap.size W' := by
  subst hp
  refine ⟨fun e => by have := h.pl; omega, ⟨_, keep b h.c0⟩, fun o a n cap ho hc hk => ?_⟩
  rw [b.1.cell (p := ⟨m.p, o, none⟩) h.pl] at hc
  have := h.sz _ (h.at_p o a n cap hc ho _ hk)
  omega
theorem Xb.grown {bx B : Nat} {row : Option Nat} (x : Xb p bx W) (hg : W.grownBy W' row) (hr : ∀ r, row = some r → B ≤ r ∧ ∃ o : Obj, W.heap[r]? = some o ∧ o.isCells = false) : Xb p bx W' := by
  obtain ⟨h1, ⟨u, hu⟩, h3⟩ := x
  have e := cells_kept hg hr hu
  exact ⟨h1, ⟨u, (heap_cell_eq e 0).trans hu⟩, fun o a n cap ho hc => h3 o a n cap ho ((heap_cell_eq e o).symm.trans hc)⟩
end Go.Proofs.Ytnfhedmlifjlmaa
