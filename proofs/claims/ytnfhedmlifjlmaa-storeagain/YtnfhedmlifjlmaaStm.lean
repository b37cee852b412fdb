/-
  Plain facts on floats, more: rounding to the nearest rung, sums and products of finite floats, signs turned. No program is named here.
-/
import Derived.Test.YtnfhedmlifjlmaaStl
namespace Go.Proofs.Ytnfhedmlifjlmaa
open Ieee Go.RowKit
set_option linter.unusedSimpArgs false
set_option linter.unusedVariables false

/-! ### Blocks that a call leaves alone -/
def Kh (Ks : List Nat) (W W' : World) : Prop := ∀ k, k ∈ Ks → W'.heap[k]? = W.heap[k]?
def Kd (Ks F : List Nat) (W : World) : Prop := ∀ k, k ∈ Ks → k < W.heap.size ∧ k ∉ F
theorem Kd.fr {Ks F F' : List Nat} {W W' : World} (h : Kd Ks F W) (f : Fr F F' W W') : Kd Ks F' W' ∧ Kh Ks W W' :=
  ⟨fun k hk => ⟨Nat.lt_of_lt_of_le (h k hk).1 f.size, f.away (h k hk).1 (h k hk).2⟩, fun k hk => f.block k (h k hk).1 (h k hk).2⟩
theorem Kd.low {Ks F : List Nat} {W W' : World} (h : Kd Ks F W) (f : Below W.heap.size W W') : Kd Ks F W' ∧ Kh Ks W W' :=
  ⟨fun k hk => ⟨Nat.lt_of_lt_of_le (h k hk).1 f.size, (h k hk).2⟩, fun k hk => f.block k (h k hk).1⟩
theorem Kh.cell {Ks : List Nat} {W W' : World} (h : Kh Ks W W') {k o : Nat} {v : Value} (hk : k ∈ Ks) (c : W.cell? ⟨k, o, none⟩ = some v) : W'.cell? ⟨k, o, none⟩ = some v := (heap_cell_eq (h k hk) o).trans c
theorem Kh.frozen {Ks : List Nat} {W W' : World} (h : Kh Ks W W') {k o : Nat} (hk : k ∈ Ks) (c : W.frozen? ⟨k, o, none⟩ = false) : W'.frozen? ⟨k, o, none⟩ = false := (heap_frozen_eq (h k hk) o).trans c
theorem Kh.ro {Ks : List Nat} {W W' : World} (h : Kh Ks W W') (hs : W.heap.size ≤ W'.heap.size) {sz n cap : Nat} {sa : Option Addr} {R : List Value} (hk : ∀ k, k ∈ ob sa → k ∈ Ks) (r : Ro sz W sa n cap R) : Ro sz W' sa n cap R := r.heap (fun g hg => h g (hk g hg)) hs
theorem Kh.sto {Ks : List Nat} {W W' : World} (h : Kh Ks W W') (hs : W.heap.size ≤ W'.heap.size) {m : Sm} {s : Ss} (hk : ∀ k, k ∈ m.F → k ∈ Ks) (r : Sto W m s) : Sto W' m s := r.heap (fun g hg => h g (hk g hg)) hs
theorem Kh.less {Ks Ks' : List Nat} {W W' : World} (h : Kh Ks W W') (hk : ∀ k, k ∈ Ks' → k ∈ Ks) : Kh Ks' W W' := fun k hk' => h k (hk k hk')
theorem Kh.trans {Ks : List Nat} {A B C : World} (h : Kh Ks A B) (k : Kh Ks B C) : Kh Ks A C := fun i hi => (k i hi).trans (h i hi)
/-- numbers that are handed in, later -/
theorem any_low {w W : World} {sa : Option Addr} {n : Nat} {Y : Nat → Int} (h : n = 0 ∨ ∃ b off, sa = some ⟨b, off, none⟩ ∧ (∀ i, i < n → w.cell? ⟨b, off + i, none⟩ = some (.int .i64 (Y i))) ∧ b < w.heap.size) (f : Below w.heap.size w W) :
    n = 0 ∨ ∃ b off, sa = some ⟨b, off, none⟩ ∧ (∀ i, i < n → W.cell? ⟨b, off + i, none⟩ = some (.int .i64 (Y i))) ∧ b < W.heap.size := by
  rcases h with h | ⟨b, off, h1, h2, h3⟩
  · exact .inl h
  · exact .inr ⟨b, off, h1, fun i hi => (f.cell (p := ⟨b, off + i, none⟩) h3).trans (h2 i hi), Nat.lt_of_lt_of_le h3 f.size⟩
/-! ### What the law keeps while it goes on: the answer's box, the store's, the iterator's -/
structure F1 (b4 b6 p : Nat) (W : World) : Prop where
  r4 : ∃ u, W.cell? ⟨b4, 0, none⟩ = some u
  f4 : W.frozen? ⟨b4, 0, none⟩ = false
  c6 : W.cell? ⟨b6, 0, none⟩ = some (.pointer (some ⟨p, 0, none⟩))
theorem F1.kh {b4 b6 p : Nat} {W W' : World} {Ks : List Nat} (h : F1 b4 b6 p W) (k : Kh Ks W W') (h4 : b4 ∈ Ks) (h6 : b6 ∈ Ks) : F1 b4 b6 p W' :=
  ⟨by obtain ⟨u, hu⟩ := h.r4; exact ⟨u, k.cell h4 hu⟩, k.frozen h4 h.f4, k.cell h6 h.c6⟩
structure F2 (c n : Nat) (sh : Option Addr) (ch : Nat) (sx : Option Addr) (cx : Nat) (E : List El) (W : World) : Prop where
  xc : W.cell? ⟨c, 0, none⟩ = some (.slice sh n ch)
  xd : W.cell? ⟨c + 1, 0, none⟩ = some (.slice sx n cx)
  rh : Ro 2 W sh n ch (hRow (E.map (·.1)))
  rx : Ro 1 W sx n cx (xRow (E.map (·.2)))
theorem F2.kh {c n : Nat} {sh : Option Addr} {ch : Nat} {sx : Option Addr} {cx : Nat} {E : List El} {W W' : World} {Ks : List Nat} (h : F2 c n sh ch sx cx E W) (k : Kh Ks W W') (hs : W.heap.size ≤ W'.heap.size) (hk : ∀ i, i ∈ c :: (c + 1) :: (ob sh ++ ob sx) → i ∈ Ks) : F2 c n sh ch sx cx E W' :=
  ⟨k.cell (hk _ (by simp)) h.xc, k.cell (hk _ (by simp)) h.xd, k.ro hs (fun g hg => hk g (by simp [hg])) h.rh, k.ro hs (fun g hg => hk g (by simp [hg])) h.rx⟩
/-! ### A row that is filled by slots -/
def ttF (N : Nat) (pre : List El) : List Value := pre.foldl (fun R x => R.set x.1.1 (.int .i64 x.2)) (List.replicate N (.int .i64 0))
theorem ttF_snoc (N : Nat) (pre : List El) (x : El) : ttF N (pre ++ [x]) = (ttF N pre).set x.1.1 (.int .i64 x.2) := by simp [ttF]
theorem ttF_len (N : Nat) (pre : List El) : (ttF N pre).length = N := by
  have : ∀ (l : List El) (R : List Value), (l.foldl (fun R x => R.set x.1.1 (.int .i64 x.2)) R).length = R.length := by
    intro l
    induction l with
    | nil => intro R; rfl
    | cons a l ih => intro R; simp only [List.foldl_cons]; rw [ih]; simp
  unfold ttF
  rw [this]; simp
structure Tn (WR : World) (gT b N : Nat) (pre : List El) (W : World) : Prop where
  cb : W.cell? ⟨b, 0, none⟩ = some (.int .i64 (pre.length : Int))
  fb : W.frozen? ⟨b, 0, none⟩ = false
  rt : Ro 1 W (some ⟨gT, 0, none⟩) N N (ttF N pre)
  fr : Fr [gT, b] [gT, b] WR W
variable {WR W W' : World} {gT b N : Nat} {pre : List El}
theorem Tn.grown (h : Tn WR gT b N pre W) (hg' : gT < WR.heap.size) (hb' : b < WR.heap.size) {row : Option Nat} (hg : W.grownBy W' row) (hr : ∀ r, row = some r → WR.heap.size ≤ r ∧ ∃ o : Obj, W.heap[r]? = some o ∧ o.isCells = false) : Tn WR gT b N pre W' := by
  have old : ∀ k, k < WR.heap.size → W'.heap[k]? = W.heap[k]? := fun k hk => hg.block k (Nat.lt_of_lt_of_le hk h.fr.size) (fun e => by have := (hr k e.symm).1; omega)
  exact ⟨(heap_cell_eq (old b hb') 0).trans h.cb, (heap_frozen_eq (old b hb') 0).trans h.fb, h.rt.heap (fun g hg1 => by simp [ob] at hg1; rw [hg1]; exact old gT hg') hg.size,
    ⟨hg.os.trans h.fr.os, hg.tape.trans h.fr.tape, hg.output.trans h.fr.output, Nat.le_trans h.fr.size hg.size, fun k hk hn => (old k hk).trans (h.fr.block k hk hn), h.fr.grown⟩⟩
theorem Tn.bel (h : Tn WR gT b N pre W) (f : Bel W W') : Tn WR gT b N pre W' := ⟨keep f h.cb, (f.2 _).trans h.fb, h.rt.bel f, h.fr.trans (Fr.of_bel f)⟩
/-- one round: a number is stored, and counted -/
theorem Tn.step (h : Tn WR gT b N pre W) (hg' : gT < WR.heap.size) (hb' : b < WR.heap.size) (hne : gT ≠ b) {x : El} (hx : x.1.1 < N) {c : Int} (hc : ((pre ++ [x]).length : Int) = c) :
    let Z := (W.setCell ⟨gT, x.1.1, none⟩ (.int .i64 x.2)).setCell ⟨b, 0, none⟩ (.int .i64 c)
    Tn WR gT b N (pre ++ [x]) Z ∧ KeepsFrom WR.heap.size W Z ∧ (∀ k, k ≠ gT → k ≠ b → Z.heap[k]? = W.heap[k]?) := by
  subst hc
  have hb1 : ∀ k, k ≠ gT → (W.setCell ⟨gT, x.1.1, none⟩ (.int .i64 x.2)).heap[k]? = W.heap[k]? := fun k hk => Below.heap_setCell W _ _ k hk
  have hz1 := ((Below.refl 0 W).setCell (p := ⟨gT, x.1.1, none⟩) (Nat.zero_le _) (.int .i64 x.2)).size
  have hz2 := ((Below.refl 0 (W.setCell ⟨gT, x.1.1, none⟩ (.int .i64 x.2))).setCell (p := ⟨b, 0, none⟩) (Nat.zero_le _) (.int .i64 ((pre ++ [x]).length : Int))).size
  have hZ : ∀ k, k ≠ gT → k ≠ b → ((W.setCell ⟨gT, x.1.1, none⟩ (.int .i64 x.2)).setCell ⟨b, 0, none⟩ (.int .i64 ((pre ++ [x]).length : Int))).heap[k]? = W.heap[k]? := fun k h1 h2 => (Below.heap_setCell _ _ _ k h2).trans (hb1 k h1)
  refine ⟨⟨?_, ?_, ?_, (h.fr.set (.inl (by simp)) _ _).set (.inl (by simp)) _ _⟩, ⟨Nat.le_trans hz1 hz2, fun k o hB hk ho => (hZ k (by omega) (by omega)).trans hk⟩, hZ⟩
  · exact World.cell?_setCell_same' _ _ _ (by rw [heap_cell_eq (hb1 b (fun e => hne e.symm)), h.cb]; rfl)
  · exact (World.frozen?_setCell _ _ _ _).trans ((World.frozen?_setCell _ _ _ _).trans h.fb)
  · rw [ttF_snoc]
    exact (h.rt.put (o := x.1.1) (by omega) (.int .i64 x.2)).away (by simp [ob]; exact fun e => hne e.symm) 0 _
theorem ttF_get (N : Nat) : ∀ (E : List El), (E.map (·.1.1)).Nodup → ∀ x ∈ E, x.1.1 < N → (ttF N E)[x.1.1]? = some (.int .i64 x.2) := by
  intro E
  have key : ∀ l : List El, (l.reverse.map (·.1.1)).Nodup → ∀ x ∈ l.reverse, x.1.1 < N → (ttF N l.reverse)[x.1.1]? = some (.int .i64 x.2) := by
    intro l
    induction l with
    | nil => intro _ x hx; simp at hx
    | cons a l ih =>
      intro hn x hx hxN
      rw [List.reverse_cons] at hn hx ⊢
      rw [List.map_append, List.nodup_append] at hn
      rw [ttF_snoc, set_get]
      rcases List.mem_append.1 hx with hx | hx
      · have hne : a.1.1 ≠ x.1.1 := fun e => hn.2.2 x.1.1 (List.mem_map.2 ⟨x, hx, rfl⟩) a.1.1 (by simp) e.symm
        rw [if_neg hne]
        exact ih hn.1 x hx hxN
      · simp at hx
        subst hx
        rw [if_pos rfl, ttF_len, if_pos hxN]
  have := key E.reverse
  simpa using this
end Go.Proofs.Ytnfhedmlifjlmaa
