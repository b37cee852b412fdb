/-
  Plain facts on floats, more: rounding to the nearest rung, sums and products of finite floats, signs turned. No program is named here.
-/
import Derived.Test.YtnfhedmlifjlmaaApps
import Derived.Test.YtnfhedmlifjlmaaOnc7
import Derived.Test.YtnfhedmlifjlmaaMulti
namespace Go.Proofs.Ytnfhedmlifjlmaa
open Ieee Go.RowKit Go.WideShapes
set_option linter.unusedSimpArgs false
set_option linter.unusedVariables false

/-! ### append: all but the row's own block stays, whatever it is -/
def vb : Value → Option Nat
  | .slice (some a) _ _ => some a.block
  | _ => none
structure Oh (v : Value) (w w' : World) : Prop where
  os : w'.os = w.os
  tape : w'.tape = w.tape
  output : w'.output = w.output
  size : w.heap.size ≤ w'.heap.size
  block : ∀ k, k < w.heap.size → vb v ≠ some k → w'.heap[k]? = w.heap[k]?
theorem oh_new (v : Value) (w : World) (cs : Array Value) (e : TypeId) : Oh v w (w.drew.alloc (.cells cs e)) := by
  have h := (Below.refl w.heap.size w).drew.alloc (Nat.le_refl _) (.cells cs e)
  exact ⟨h.os, h.tape, h.output, h.size, fun k hk _ => h.block k hk⟩
theorem heap_sets (g : Nat) : ∀ (vs : List Value) (o : Nat) (w : World) (k : Nat), k ≠ g → (w.setCells g o vs).heap[k]? = w.heap[k]? := by
  intro vs
  induction vs with
  | nil => intro o w k _; rfl
  | cons u vs ih =>
    intro o w k hk
    rw [World.setCells, ih _ _ _ hk]
    exact Below.heap_setCell w _ _ k hk
theorem oh_sets (g cap n o : Nat) (vs : List Value) (w : World) : Oh (.slice (some ⟨g, 0, none⟩) n cap) w (w.setCells g o vs) := by
  have h := low_sets vs o w (Nat.zero_le g)
  exact ⟨h.os, h.tape, h.output, h.size, fun k hk hn => heap_sets g vs o w k (fun e => hn (by rw [e]; rfl))⟩
theorem run_appU {P : Program} {sz by_ base : Nat} {w : World} {v z : Value} {n : Nat} {R N : List Value} (t ty e : TypeId) (ht : P.underlying t = some (.slice e)) (hinf : (P.info? e).map (fun i => (i.zero, i.size, i.bytes)) = some (some z, sz, by_)) (hzc : z.cells.size = sz)
    (a ao m c : Nat) (h : OwnR sz base w v n R) (hN : N.length = m * sz) (hs : Rw w a ao N) (h1 : ∀ u ∈ N, u.oneCell' = true) (hm : 0 < m) (hb : base ≤ w.heap.size) (hml : n + m ≤ maxLen) (hr : (n + m) * by_ ≤ 140737488355328) :
    ∃ v' w', (Builtin.append_ #[t, t] ty #[v, .slice (some ⟨a, ao, none⟩) m c]).run P w = .ok v' w' ∧ OwnR sz base w' v' (n + m) (R ++ N) ∧ (∃ g cap, v' = .slice (some ⟨g, 0, none⟩) (n + m) cap ∧ (w.heap.size ≤ g ∨ ∃ cp, v = .slice (some ⟨g, 0, none⟩) n cp)) ∧ Oh v w w' := by
  obtain ⟨i0, hi, hz0, hz1, hz2⟩ := info_parts hinf
  have hsr : ∀ j u, N[j]? = some u → w.cell? ((⟨a, ao, none⟩ : Addr).add j) = some u := fun j u hj => by rw [add_plain]; exact hs j u hj
  have hmx : maxLen ≤ 9223372036854775807 := by unfold maxLen; decide
  have zs : ∀ k, (Builtin.zeroCells z.cells k).size = k * sz := fun k => by rw [size_zeroCells, hzc]
  have hRN : (R ++ N).length = (n + m) * sz := by rw [List.length_append, h.1, hN, Nat.add_mul]
  have grown : ∀ old, OwnR sz base (w.drew.alloc (.cells (R.toArray ++ N.toArray ++ Builtin.zeroCells z.cells (grownCap w (n + m) old e - (n + m))) e)) (.slice (some ⟨w.heap.size, 0, none⟩) (n + m) (grownCap w (n + m) old e)) (n + m) (R ++ N) := by
    intro old
    have hge := grownCap_ge w (n + m) old e
    have hcm := grownCap_le_maxLen w (n + m) old e hml
    refine ownR_new (w := w.drew) hRN hb hge hcm ?_ (fun j u hj => ?_)
    · simp only [Array.size_append, List.size_toArray, zs]
      rw [h.1, hN, ← Nat.add_mul, ← Nat.add_mul]
      congr 1
      omega
    · have hjl : j < (R ++ N).length := by
        rcases Nat.lt_or_ge j (R ++ N).length with h' | h'
        · exact h'
        · rw [List.getElem?_eq_none h'] at hj; cases hj
      rw [Array.getElem?_append_left (by simpa using hjl), show R.toArray ++ N.toArray = (R ++ N).toArray by simp, List.getElem?_toArray]
      exact hj
  have ohnew : ∀ cs, Oh v w (w.drew.alloc (.cells cs e)) := fun cs => oh_new v w cs e
  rcases h.2 with ⟨rfl, rfl⟩ | ⟨g, cap, rfl, h1', h2, h3, h4, h5, h6⟩
  · have hR0 : R = [] := by have := h.1; simpa using this
    subst hR0
    have hr' := run_append_nil (P := P) w t ty e i0 z ht hi hz0 ⟨a, ao, none⟩ m c N (by rw [hz1, hN]) hsr hm (by omega) (by rw [hz2]; simp at hr; omega)
    have hg := grown 0
    simp only [Nat.zero_add, List.nil_append] at hg ⊢
    refine ⟨_, _, hr', ?_, ⟨_, _, rfl, .inl (Nat.le_refl _)⟩, ohnew _⟩
    simpa using hg
  · by_cases hroom : n + m ≤ cap
    · have hx : ∀ j, j < N.length → (w.cell? ⟨g, n * sz + j, none⟩).isSome = true := fun j hj => h5 _ (by
        rw [hN] at hj
        have : (n + m) * sz ≤ cap * sz := Nat.mul_le_mul_right _ hroom
        rw [Nat.add_mul] at this
        omega)
      have hf1 := run_firstCells_some (P := P) w sz m ⟨a, ao, none⟩ m c N hN hsr
      have hst := run_storeCells_cells (P := P) g (n * sz) N 0 w (by simpa using hx) (fun j _ => h6 _) h1
      simp only [Nat.add_zero] at hst
      refine ⟨_, w.setCells g (n * sz) N, ?_, ⟨hRN, .inr ⟨g, cap, rfl, h1', hroom, h3, ?_, fun j hj => some_setsR _ _ _ (h5 j hj), fun o => (World.frozen?_setCells g _ _ _ _).trans (h6 o)⟩⟩, ⟨_, _, rfl, .inr ⟨_, rfl⟩⟩, oh_sets g _ _ _ _ w⟩
      · simp [Builtin.append_, run_underlying ht, sizeOf, typeInfo, hi, hz1, Builtin.lenOf, hroom, hf1, add_plain, hst]
      · intro j u hj
        rw [Nat.zero_add]
        by_cases hjn : j < R.length
        · rw [List.getElem?_append_left hjn] at hj
          rw [World.cell?_setCells_out g _ _ _ ⟨g, j, none⟩ (fun _ _ => .inl (by show j < n * sz; rw [← h.1]; exact hjn))]
          have := h4 j u hj
          rwa [Nat.zero_add] at this
        · obtain ⟨q, rfl⟩ : ∃ q, j = R.length + q := ⟨j - R.length, by omega⟩
          rw [List.getElem?_append_right (by omega), Nat.add_sub_cancel_left] at hj
          have hq : q < N.length := by
            rcases Nat.lt_or_ge q N.length with h' | h'
            · exact h'
            · rw [List.getElem?_eq_none h'] at hj; cases hj
          rw [h.1, World.cell?_setCells_in g _ _ w hx q hq]
          rw [List.getElem?_eq_getElem hq] at hj
          exact hj
    · have hr' := run_append_grow (P := P) w t ty e i0 z ht hi hz0 ⟨g, 0, none⟩ n cap R (by rw [hz1]; exact h.1) (fun j u hj => by rw [add_plain]; exact h4 j u hj) ⟨a, ao, none⟩ m c N (by rw [hz1, hN]) hsr (by omega) (by omega) (by rw [hz2]; exact growslice_fits (by omega) hr)
      exact ⟨_, _, hr', grown cap, ⟨_, _, rfl, .inl (Nat.le_refl _)⟩, ohnew _⟩
theorem wpList_appU {P : Program} {sz by_ base : Nat} {w : World} {v z : Value} {n : Nat} {R N : List Value} {ops : Array Oper} {rest : List Oper} {o : Oper} {a : Act} {Q : Exit → Act → World → Prop} (t e : TypeId) (hgd : o.guard = none) (s x : Operand)
    (ho : o.op = .call { callee := .builtin .append, args := #[s, x], argTypes := #[t, t] }) (ht : P.underlying t = some (.slice e)) (hinf : (P.info? e).map (fun i => (i.zero, i.size, i.bytes)) = some (some z, sz, by_)) (hzc : z.cells.size = sz)
    (hv : a.eval s = v) (b ao m c : Nat) (hx : a.eval x = .slice (some ⟨b, ao, none⟩) m c) (h : OwnR sz base w v n R) (hN : N.length = m * sz) (hs : Rw w b ao N) (h1 : ∀ u ∈ N, u.oneCell' = true) (hm : 0 < m) (hb : base ≤ w.heap.size) (hml : n + m ≤ maxLen) (hr : (n + m) * by_ ≤ 140737488355328)
    (hK : ∀ v' w', OwnR sz base w' v' (n + m) (R ++ N) → (∃ g cap, v' = .slice (some ⟨g, 0, none⟩) (n + m) cap ∧ (w.heap.size ≤ g ∨ ∃ cp, v = .slice (some ⟨g, 0, none⟩) n cp)) → Oh v w w' → wpList P ops Q rest (a.put o.dst v') w') : wpList P ops Q (o :: rest) a w := by
  obtain ⟨v', w', hrun, h1', h2, h3⟩ := run_appU t o.type e ht hinf hzc b ao m c h hN hs h1 hm hb hml hr
  refine wpList_plain hgd fun K hK' => ?_
  unfold Oper.wp
  simp [execOp, ho, resolve, invoke, builtin, hv, hx, hrun, Result.andThen]
  exact hK' _ _ (hK v' w' h1' h2 h3)
theorem own_parts {sz base n : Nat} {w : World} {g cap : Nat} {R : List Value} (h : OwnR sz base w (.slice (some ⟨g, 0, none⟩) n cap) n R) : base ≤ g ∧ n ≤ cap ∧ cap ≤ maxLen ∧ Rw w g 0 R ∧ (∀ j, j < cap * sz → (w.cell? ⟨g, j, none⟩).isSome = true) ∧ ∀ o, w.frozen? ⟨g, o, none⟩ = false := by
  rcases h.2 with ⟨e1, e2⟩ | ⟨k, cap', e, h1, h2, h3, h4, h5, h6⟩
  · simp at e1
  · injection e with e1 e2 e3
    injection e1 with e1
    injection e1 with e1
    subst e1 e3
    exact ⟨h1, h2, h3, h4, h5, h6⟩
theorem own_put {sz base : Nat} {w : World} {g n cap : Nat} {R : List Value} (h : OwnR sz base w (.slice (some ⟨g, 0, none⟩) n cap) n R) {o : Nat} (ho : o < n * sz) (x : Value) : OwnR sz base (w.setCell ⟨g, o, none⟩ x) (.slice (some ⟨g, 0, none⟩) n cap) n (R.set o x) := by
  refine ⟨by rw [List.length_set]; exact h.1, ?_⟩
  rcases h.2 with ⟨e, _⟩ | ⟨g', cp, e, h1, h2, h3, h4, h5, h6⟩
  · cases e
  · cases e
    refine .inr ⟨g, cap, rfl, h1, h2, h3, fun j u hj => ?_, fun j hj => ?_, fun o' => (World.frozen?_setCell _ _ _ _).trans (h6 o')⟩
    · rw [Nat.zero_add]
      by_cases e : o = j
      · subst e
        rw [List.getElem?_set_self (by rw [h.1]; exact ho)] at hj
        cases hj
        have hx := h5 o (Nat.lt_of_lt_of_le ho (Nat.mul_le_mul_right _ h2))
        exact World.cell?_setCell_same' _ _ _ hx
      · rw [List.getElem?_set_ne e] at hj
        rw [set_away (fun e' => e e')]
        have := h4 j u hj
        rwa [Nat.zero_add] at this
    · by_cases e : o = j
      · subst e
        have hx := h5 o hj
        rw [World.cell?_setCell_same' _ _ _ hx]; rfl
      · rw [set_away (fun e' => e e')]
        exact h5 j hj
theorem own_at {sz base : Nat} {w : World} {g n cap : Nat} {R : List Value} (h : OwnR sz base w (.slice (some ⟨g, 0, none⟩) n cap) n R) {o : Nat} (ho : o < n * sz) : (∃ x, w.cell? ⟨g, o, none⟩ = some x) ∧ w.frozen? ⟨g, o, none⟩ = false := by
  rcases h.2 with ⟨e, _⟩ | ⟨g', cp, e, h1, h2, h3, h4, h5, h6⟩
  · cases e
  · cases e
    exact ⟨Option.isSome_iff_exists.1 (h5 o (Nat.lt_of_lt_of_le ho (Nat.mul_le_mul_right _ h2))), h6 o⟩

theorem heap_cell_eq {w w' : World} {k : Nat} (h : w'.heap[k]? = w.heap[k]?) (o : Nat) : w'.cell? ⟨k, o, none⟩ = w.cell? ⟨k, o, none⟩ := by simp only [World.cell?, h]
theorem heap_frozen_eq {w w' : World} {k : Nat} (h : w'.heap[k]? = w.heap[k]?) (o : Nat) : w'.frozen? ⟨k, o, none⟩ = w.frozen? ⟨k, o, none⟩ := by simp only [World.frozen?, h]
/-! ### What may turn: the blocks F; F' are those of afterwards -/
structure Fr (F F' : List Nat) (w w' : World) : Prop where
  os : w'.os = w.os
  tape : w'.tape = w.tape
  output : w'.output = w.output
  size : w.heap.size ≤ w'.heap.size
  block : ∀ k, k < w.heap.size → k ∉ F → w'.heap[k]? = w.heap[k]?
  grown : ∀ k, k ∈ F' → k ∈ F ∨ w.heap.size ≤ k
theorem Fr.refl (F : List Nat) (w : World) : Fr F F w w := ⟨rfl, rfl, rfl, Nat.le_refl _, fun _ _ _ => rfl, fun _ h => .inl h⟩
theorem Fr.trans {F G H : List Nat} {a b c : World} (h : Fr F G a b) (k : Fr G H b c) : Fr F H a c :=
  ⟨k.os.trans h.os, k.tape.trans h.tape, k.output.trans h.output, Nat.le_trans h.size k.size, fun i hi hn => (k.block i (Nat.lt_of_lt_of_le hi h.size) (fun hg => by rcases h.grown i hg with hg | hg; exact hn hg; omega)).trans (h.block i hi hn),
   fun i hi => by
    rcases k.grown i hi with hg | hg
    · exact h.grown i hg
    · exact .inr (Nat.le_trans h.size hg)⟩
theorem Fr.of_bel {F : List Nat} {a b : World} (h : Bel a b) : Fr F F a b := ⟨h.1.os, h.1.tape, h.1.output, h.1.size, fun k hk _ => h.1.block k hk, fun _ h => .inl h⟩
theorem Fr.of_low {F : List Nat} {a b : World} (h : Below a.heap.size a b) : Fr F F a b := ⟨h.os, h.tape, h.output, h.size, fun k hk _ => h.block k hk, fun _ h => .inl h⟩
theorem Fr.below {F F' : List Nat} {a b : World} (h : Fr F F' a b) {B : Nat} (hB : B ≤ a.heap.size) (hF : ∀ k ∈ F, B ≤ k) : Below B a b := ⟨h.os, h.tape, h.output, h.size, fun k hk => h.block k (by omega) (fun hm => by have := hF k hm; omega)⟩
theorem Fr.mono {F G F' : List Nat} {a b : World} (h : Fr F F' a b) (hF : ∀ k ∈ F, k ∈ G) : Fr G F' a b := ⟨h.os, h.tape, h.output, h.size, fun k hk hn => h.block k hk (fun hm => hn (hF k hm)), fun k hk => by rcases h.grown k hk with h | h; exact .inl (hF k h); exact .inr h⟩
theorem Fr.less {F F' G : List Nat} {a b : World} (h : Fr F F' a b) (hG : ∀ k ∈ G, k ∈ F') : Fr F G a b := ⟨h.os, h.tape, h.output, h.size, h.block, fun k hk => h.grown k (hG k hk)⟩
theorem Fr.more {F F' G : List Nat} {a b : World} (h : Fr F F' a b) : Fr (F ++ G) (F' ++ G) a b :=
  ⟨h.os, h.tape, h.output, h.size, fun k hk hn => h.block k hk (fun hm => hn (List.mem_append_left _ hm)), fun k hk => by
    rcases List.mem_append.1 hk with hk | hk
    · rcases h.grown k hk with h | h
      · exact .inl (List.mem_append_left _ h)
      · exact .inr h
    · exact .inl (List.mem_append_right _ hk)⟩
theorem Fr.set {F F' : List Nat} {a b : World} (h : Fr F F' a b) {g : Nat} (hg : g ∈ F ∨ a.heap.size ≤ g) (o : Nat) (v : Value) : Fr F F' a (b.setCell ⟨g, o, none⟩ v) := by
  have h2 := (Below.refl 0 b).setCell (p := ⟨g, o, none⟩) (Nat.zero_le _) v
  refine ⟨h2.os.trans h.os, h2.tape.trans h.tape, h2.output.trans h.output, Nat.le_trans h.size h2.size, fun k hk hn => ?_, h.grown⟩
  have hne : k ≠ g := fun e => by subst e; rcases hg with hg | hg; exact hn hg; omega
  exact (Below.heap_setCell b _ _ k hne).trans (h.block k hk hn)
theorem Fr.cell {F F' : List Nat} {a b : World} (h : Fr F F' a b) {k o : Nat} {v : Value} (hn : k ∉ F) (hc : a.cell? ⟨k, o, none⟩ = some v) : b.cell? ⟨k, o, none⟩ = some v :=
  (heap_cell_eq (h.block k (World.block_lt_of_cell? _ _ hc) hn) o).trans hc
theorem Fr.away {F F' : List Nat} {a b : World} (h : Fr F F' a b) {k : Nat} (hl : k < a.heap.size) (hn : k ∉ F) : k ∉ F' := fun hm => by rcases h.grown k hm with h | h; exact hn h; omega
/-! ### Rows of their own -/
def ob : Option Addr → List Nat
  | some a => [a.block]
  | none => []
structure Ro (sz : Nat) (w : World) (sa : Option Addr) (n cap : Nat) (R : List Value) : Prop where
  own : OwnR sz 0 w (.slice sa n cap) n R
  lt : ∀ k, k ∈ ob sa → k < w.heap.size
theorem Ro.nil (sz : Nat) (w : World) : Ro sz w none 0 0 [] := ⟨OwnR.nil _ _ _, fun k h => by cases h⟩
theorem Ro.len {sz : Nat} {w : World} {sa : Option Addr} {n cap : Nat} {R : List Value} (h : Ro sz w sa n cap R) : R.length = n * sz := h.own.1
theorem Ro.at {sz : Nat} {w : World} {sa : Option Addr} {n cap : Nat} {R : List Value} (h : Ro sz w sa n cap R) (hn : 0 < n) : ∃ g, sa = some ⟨g, 0, none⟩ ∧ n ≤ cap ∧ cap ≤ maxLen ∧ Rw w g 0 R ∧ (∀ j, j < cap * sz → (w.cell? ⟨g, j, none⟩).isSome = true) ∧ (∀ o, w.frozen? ⟨g, o, none⟩ = false) ∧ g < w.heap.size := by
  rcases h.own.2 with ⟨_, e⟩ | ⟨g, c, e, _, h1, h2, h3, h4, h5⟩
  · omega
  · cases e
    exact ⟨g, rfl, h1, h2, h3, h4, h5, h.lt g (by simp [ob])⟩
theorem Ro.heap {sz : Nat} {w w' : World} {sa : Option Addr} {n cap : Nat} {R : List Value} (h : Ro sz w sa n cap R) (hh : ∀ g, g ∈ ob sa → w'.heap[g]? = w.heap[g]?) (hs : w.heap.size ≤ w'.heap.size) : Ro sz w' sa n cap R := by
  refine ⟨⟨h.own.1, ?_⟩, fun k hk => Nat.lt_of_lt_of_le (h.lt k hk) hs⟩
  rcases h.own.2 with h2 | ⟨g, c, e, h0, h1, h2, h3, h4, h5⟩
  · exact .inl h2
  · cases e
    have e := hh g (by simp [ob])
    exact .inr ⟨g, cap, rfl, h0, h1, h2, fun j u hj => (heap_cell_eq e _).trans (h3 j u hj), fun j hj => by rw [heap_cell_eq e]; exact h4 j hj, fun o => (heap_frozen_eq e o).trans (h5 o)⟩
theorem Ro.fr {sz : Nat} {w w' : World} {sa : Option Addr} {n cap : Nat} {R : List Value} (h : Ro sz w sa n cap R) {F F' : List Nat} (f : Fr F F' w w') (hn : ∀ g, g ∈ ob sa → g ∉ F) : Ro sz w' sa n cap R := h.heap (fun g hg => f.block g (h.lt g hg) (hn g hg)) f.size
theorem Ro.low {sz : Nat} {w w' : World} {sa : Option Addr} {n cap : Nat} {R : List Value} (h : Ro sz w sa n cap R) (f : Below w.heap.size w w') : Ro sz w' sa n cap R := h.heap (fun g hg => f.block g (h.lt g hg)) f.size
theorem Ro.bel {sz : Nat} {w w' : World} {sa : Option Addr} {n cap : Nat} {R : List Value} (h : Ro sz w sa n cap R) (f : Bel w w') : Ro sz w' sa n cap R := h.low f.1
theorem Ro.put {sz : Nat} {w : World} {g n cap : Nat} {R : List Value} (h : Ro sz w (some ⟨g, 0, none⟩) n cap R) {o : Nat} (ho : o < n * sz) (x : Value) : Ro sz (w.setCell ⟨g, o, none⟩ x) (some ⟨g, 0, none⟩) n cap (R.set o x) :=
  ⟨own_put h.own ho x, fun k hk => by have := ((Below.refl 0 w).setCell (p := ⟨g, o, none⟩) (Nat.zero_le _) x).size; have := h.lt k hk; omega⟩
theorem Ro.away {sz : Nat} {w : World} {sa : Option Addr} {n cap : Nat} {R : List Value} (h : Ro sz w sa n cap R) {g : Nat} (hg : g ∉ ob sa) (o : Nat) (x : Value) : Ro sz (w.setCell ⟨g, o, none⟩ x) sa n cap R :=
  h.heap (fun k hk => Below.heap_setCell w _ _ k (fun e => hg (by have e : k = g := e; rw [← e]; exact hk))) ((Below.refl 0 w).setCell (p := ⟨g, o, none⟩) (Nat.zero_le _) x).size
theorem Ro.cell {sz : Nat} {w : World} {g n cap : Nat} {R : List Value} (h : Ro sz w (some ⟨g, 0, none⟩) n cap R) {i : Nat} {u : Value} (hi : R[i]? = some u) : w.cell? ⟨g, i, none⟩ = some u := by
  obtain ⟨_, _, _, h3, _⟩ := own_parts h.own
  have := h3 i u hi
  rwa [Nat.zero_add] at this
/-- a row grows -/
theorem Ro.app {P : Program} {sz by_ : Nat} {w : World} {sa : Option Addr} {cap : Nat} {z : Value} {n : Nat} {R N : List Value} (t ty e : TypeId) (ht : P.underlying t = some (.slice e)) (hinf : (P.info? e).map (fun i => (i.zero, i.size, i.bytes)) = some (some z, sz, by_)) (hzc : z.cells.size = sz) (hsz : 0 < sz)
    (a ao m c : Nat) (h : Ro sz w sa n cap R) (hN : N.length = m * sz) (hs : Rw w a ao N) (h1 : ∀ u ∈ N, u.oneCell' = true) (hm : 0 < m) (hml : n + m ≤ maxLen) (hr : (n + m) * by_ ≤ 140737488355328) :
    ∃ sa' cap' w', (Builtin.append_ #[t, t] ty #[.slice sa n cap, .slice (some ⟨a, ao, none⟩) m c]).run P w = .ok (.slice sa' (n + m) cap') w' ∧ Ro sz w' sa' (n + m) cap' (R ++ N) ∧ Fr (ob sa) (ob sa') w w' := by
  obtain ⟨v', w', hrun, hO, ⟨g, c', rfl, hg⟩, hoh⟩ := run_appU t ty e ht hinf hzc a ao m c h.own hN hs h1 hm (Nat.zero_le _) hml hr
  refine ⟨_, _, _, hrun, ⟨hO, fun k hk => ?_⟩, ⟨hoh.os, hoh.tape, hoh.output, hoh.size, fun k hk hn => hoh.block k hk (fun e => hn ?_), fun k hk => ?_⟩⟩
  · obtain ⟨h1', h2', h3', h4', h5', _⟩ := own_parts hO
    have hx := h5' 0 (Nat.mul_pos (by omega) hsz)
    obtain ⟨u, hu⟩ := Option.isSome_iff_exists.1 hx
    have := World.block_lt_of_cell? _ _ hu
    simp only [ob, List.mem_cons, List.not_mem_nil, or_false] at hk
    rw [hk]; exact this
  · cases sa with
    | none => cases e
    | some x => simp only [vb, Option.some.injEq] at e; simp [ob, e]
  · simp only [ob, List.mem_cons, List.not_mem_nil, or_false] at hk
    subst hk
    rcases hg with hg | ⟨cp, e⟩
    · exact .inr hg
    · cases e; exact .inl (by simp [ob])
theorem wpList_ro {P : Program} {sz by_ : Nat} {w : World} {v z : Value} {sa : Option Addr} {cap n : Nat} {R N : List Value} {ops : Array Oper} {rest : List Oper} {o : Oper} {a : Act} {Q : Exit → Act → World → Prop} (t e : TypeId) (hgd : o.guard = none) (s x : Operand)
    (ho : o.op = .call { callee := .builtin .append, args := #[s, x], argTypes := #[t, t] }) (ht : P.underlying t = some (.slice e)) (hinf : (P.info? e).map (fun i => (i.zero, i.size, i.bytes)) = some (some z, sz, by_)) (hzc : z.cells.size = sz) (hsz : 0 < sz)
    (hv : a.eval s = .slice sa n cap) (b ao m c : Nat) (hx : a.eval x = .slice (some ⟨b, ao, none⟩) m c) (h : Ro sz w sa n cap R) (hN : N.length = m * sz) (hs : Rw w b ao N) (h1 : ∀ u ∈ N, u.oneCell' = true) (hm : 0 < m) (hml : n + m ≤ maxLen) (hr : (n + m) * by_ ≤ 140737488355328)
    (hK : ∀ sa' cap' w', Ro sz w' sa' (n + m) cap' (R ++ N) → Fr (ob sa) (ob sa') w w' → wpList P ops Q rest (a.put o.dst (.slice sa' (n + m) cap')) w') : wpList P ops Q (o :: rest) a w := by
  obtain ⟨sa', cap', w', hrun, h1', h2⟩ := Ro.app t o.type e ht hinf hzc hsz b ao m c h hN hs h1 hm hml hr
  refine wpList_plain hgd fun K hK' => ?_
  unfold Oper.wp
  simp [execOp, ho, resolve, invoke, builtin, hv, hx, hrun, Result.andThen]
  exact hK' _ _ (hK sa' cap' w' h1' h2)
end Go.Proofs.Ytnfhedmlifjlmaa
namespace Go.Proofs.Ytnfhedmlifjlmaa
open Ieee Go.RowKit Go.WideShapes
set_option linter.unusedSimpArgs false
set_option linter.unusedVariables false

/-! ### A store: where it lies, and what it holds -/
structure Sm where
  p : Nat
  su : Option Addr
  cu : Nat
  sl : Option Addr
  cl : Nat
  st : Option Addr
  ct : Nat
structure Ss where
  most : Nat
  ln : Nat
  nx : Nat
  U : List Nat
  L : List Bool
  T : List Value
def uRow (U : List Nat) : List Value := U.map fun u : Nat => .int .u32 (u : Int)
def lRow (L : List Bool) : List Value := L.map Value.bool
theorem uRow_len (U : List Nat) : (uRow U).length = U.length := by simp [uRow]
theorem lRow_len (L : List Bool) : (lRow L).length = L.length := by simp [lRow]
theorem uRow_get (U : List Nat) (i : Nat) : (uRow U)[i]? = U[i]?.map fun u : Nat => .int .u32 (u : Int) := by simp [uRow]
theorem lRow_get (L : List Bool) (i : Nat) : (lRow L)[i]? = L[i]?.map Value.bool := by simp [lRow]
theorem uRow_set (U : List Nat) (i x : Nat) : (uRow U).set i (.int .u32 (x : Int)) = uRow (U.set i x) := by unfold uRow; rw [List.map_set]
theorem lRow_set (L : List Bool) (i : Nat) (x : Bool) : (lRow L).set i (.bool x) = lRow (L.set i x) := by unfold lRow; rw [List.map_set]
theorem uRow_app (U V : List Nat) : uRow (U ++ V) = uRow U ++ uRow V := by simp [uRow]
theorem lRow_app (U V : List Bool) : lRow (U ++ V) = lRow U ++ lRow V := by simp [lRow]
def Sm.F (m : Sm) : List Nat := m.p :: (ob m.su ++ ob m.sl ++ ob m.st)
structure Sto (w : World) (m : Sm) (s : Ss) : Prop where
  c0 : w.cell? ⟨m.p, 0, none⟩ = some (.pointer (some ⟨m.p, 0, none⟩))
  c1 : w.cell? ⟨m.p, 1, none⟩ = some (.int .i64 (s.most : Int))
  c2 : w.cell? ⟨m.p, 2, none⟩ = some (.slice m.su s.U.length m.cu)
  c3 : w.cell? ⟨m.p, 3, none⟩ = some (.slice m.sl s.L.length m.cl)
  c4 : w.cell? ⟨m.p, 4, none⟩ = some (.slice m.st s.T.length m.ct)
  c5 : w.cell? ⟨m.p, 5, none⟩ = some (.int .i64 (s.ln : Int))
  c6 : w.cell? ⟨m.p, 6, none⟩ = some (.int .i64 (s.nx : Int))
  fz : ∀ o, w.frozen? ⟨m.p, o, none⟩ = false
  ru : Ro 1 w m.su s.U.length m.cu (uRow s.U)
  rl : Ro 1 w m.sl s.L.length m.cl (lRow s.L)
  rt : Ro 1 w m.st s.T.length m.ct s.T
  nu : m.p ∉ ob m.su
  nl : m.p ∉ ob m.sl
  nt : m.p ∉ ob m.st
  ul : ∀ k, k ∈ ob m.su → k ∉ ob m.sl ∧ k ∉ ob m.st
  lt : ∀ k, k ∈ ob m.sl → k ∉ ob m.st
theorem Sto.pl {w : World} {m : Sm} {s : Ss} (h : Sto w m s) : m.p < w.heap.size := World.block_lt_of_cell? _ _ h.c0
theorem Sto.sz {w : World} {m : Sm} {s : Ss} (h : Sto w m s) : ∀ k ∈ m.F, k < w.heap.size := by
  intro k hk
  simp only [Sm.F, List.mem_cons, List.mem_append] at hk
  rcases hk with rfl | (hk | hk) | hk
  · exact h.pl
  · exact h.ru.lt k hk
  · exact h.rl.lt k hk
  · exact h.rt.lt k hk
theorem Sto.heap {w w' : World} {m : Sm} {s : Ss} (h : Sto w m s) (hh : ∀ k ∈ m.F, w'.heap[k]? = w.heap[k]?) (hs : w.heap.size ≤ w'.heap.size) : Sto w' m s := by
  have hp := hh m.p (by simp [Sm.F])
  have hc := heap_cell_eq hp
  exact ⟨(hc _).trans h.c0, (hc _).trans h.c1, (hc _).trans h.c2, (hc _).trans h.c3, (hc _).trans h.c4, (hc _).trans h.c5, (hc _).trans h.c6, fun o => (heap_frozen_eq hp o).trans (h.fz o),
    h.ru.heap (fun g hg => hh g (by simp [Sm.F, hg])) hs, h.rl.heap (fun g hg => hh g (by simp [Sm.F, hg])) hs, h.rt.heap (fun g hg => hh g (by simp [Sm.F, hg])) hs, h.nu, h.nl, h.nt, h.ul, h.lt⟩
theorem Sto.low {w w' : World} {m : Sm} {s : Ss} (h : Sto w m s) (f : Below w.heap.size w w') : Sto w' m s := h.heap (fun k hk => f.block k (h.sz k hk)) f.size
theorem Sto.bel {w w' : World} {m : Sm} {s : Ss} (h : Sto w m s) (f : Bel w w') : Sto w' m s := h.low f.1
theorem Sto.fr {w w' : World} {m : Sm} {s : Ss} (h : Sto w m s) {F F' : List Nat} (f : Fr F F' w w') (hn : ∀ k ∈ m.F, k ∉ F) : Sto w' m s := h.heap (fun k hk => f.block k (h.sz k hk) (hn k hk)) f.size
theorem Sto.set_p {w : World} {m : Sm} {s : Ss} (h : Sto w m s) (o : Nat) (v : Value) : Ro 1 (w.setCell ⟨m.p, o, none⟩ v) m.su s.U.length m.cu (uRow s.U) ∧ Ro 1 (w.setCell ⟨m.p, o, none⟩ v) m.sl s.L.length m.cl (lRow s.L) ∧ Ro 1 (w.setCell ⟨m.p, o, none⟩ v) m.st s.T.length m.ct s.T :=
  ⟨h.ru.away h.nu _ _, h.rl.away h.nl _ _, h.rt.away h.nt _ _⟩
theorem Sto.set5 {w : World} {m : Sm} {s : Ss} (h : Sto w m s) (k : Nat) : Sto (w.setCell ⟨m.p, 5, none⟩ (.int .i64 (k : Int))) m { s with ln := k } := by
  have ne : ∀ o, o ≠ 5 → (w.setCell ⟨m.p, 5, none⟩ (.int .i64 (k : Int))).cell? ⟨m.p, o, none⟩ = w.cell? ⟨m.p, o, none⟩ := fun o ho => set_away (fun e => ho e.symm)
  obtain ⟨r1, r2, r3⟩ := h.set_p 5 (.int .i64 (k : Int))
  exact ⟨(ne 0 (by decide)).trans h.c0, (ne 1 (by decide)).trans h.c1, (ne 2 (by decide)).trans h.c2, (ne 3 (by decide)).trans h.c3, (ne 4 (by decide)).trans h.c4, World.cell?_setCell_same' _ _ _ (by rw [h.c5]; rfl), (ne 6 (by decide)).trans h.c6, fun o => (World.frozen?_setCell _ _ _ _).trans (h.fz o), r1, r2, r3, h.nu, h.nl, h.nt, h.ul, h.lt⟩
theorem Sto.set6 {w : World} {m : Sm} {s : Ss} (h : Sto w m s) (k : Nat) : Sto (w.setCell ⟨m.p, 6, none⟩ (.int .i64 (k : Int))) m { s with nx := k } := by
  have ne : ∀ o, o ≠ 6 → (w.setCell ⟨m.p, 6, none⟩ (.int .i64 (k : Int))).cell? ⟨m.p, o, none⟩ = w.cell? ⟨m.p, o, none⟩ := fun o ho => set_away (fun e => ho e.symm)
  obtain ⟨r1, r2, r3⟩ := h.set_p 6 (.int .i64 (k : Int))
  exact ⟨(ne 0 (by decide)).trans h.c0, (ne 1 (by decide)).trans h.c1, (ne 2 (by decide)).trans h.c2, (ne 3 (by decide)).trans h.c3, (ne 4 (by decide)).trans h.c4, (ne 5 (by decide)).trans h.c5, World.cell?_setCell_same' _ _ _ (by rw [h.c6]; rfl), fun o => (World.frozen?_setCell _ _ _ _).trans (h.fz o), r1, r2, r3, h.nu, h.nl, h.nt, h.ul, h.lt⟩
theorem Sto.cells_off {w : World} {m : Sm} {s : Ss} (h : Sto w m s) {g : Nat} (hg : m.p ≠ g) (o : Nat) (v : Value) : (∀ o', (w.setCell ⟨g, o, none⟩ v).cell? ⟨m.p, o', none⟩ = w.cell? ⟨m.p, o', none⟩) ∧ ∀ o', (w.setCell ⟨g, o, none⟩ v).frozen? ⟨m.p, o', none⟩ = false :=
  ⟨fun o' => set_block hg, fun o' => (World.frozen?_setCell _ _ _ _).trans (h.fz o')⟩
theorem Sto.setU {w : World} {m : Sm} {s : Ss} (h : Sto w m s) {g i : Nat} (hg : m.su = some ⟨g, 0, none⟩) (hi : i < s.U.length) (x : Nat) : Sto (w.setCell ⟨g, i, none⟩ (.int .u32 (x : Int))) m { s with U := s.U.set i x } := by
  have hgo : ob m.su = [g] := by rw [hg]; rfl
  have h1 : m.p ≠ g := fun e => h.nu (by rw [hgo, e]; simp)
  obtain ⟨h2, h3⟩ := h.ul g (by rw [hgo]; simp)
  obtain ⟨hc, hf⟩ := h.cells_off h1 i (.int .u32 (x : Int))
  have hru := h.ru
  rw [hg] at hru
  have := hru.put (o := i) (by omega) (.int .u32 (x : Int))
  rw [uRow_set] at this
  refine ⟨(hc _).trans h.c0, (hc _).trans h.c1, ?_, (hc _).trans h.c3, (hc _).trans h.c4, (hc _).trans h.c5, (hc _).trans h.c6, hf, ?_, h.rl.away h2 _ _, h.rt.away h3 _ _, h.nu, h.nl, h.nt, h.ul, h.lt⟩
  · simp only [List.length_set]; exact (hc _).trans h.c2
  · simp only [List.length_set]; rw [hg]; exact this
theorem Sto.setL {w : World} {m : Sm} {s : Ss} (h : Sto w m s) {g i : Nat} (hg : m.sl = some ⟨g, 0, none⟩) (hi : i < s.L.length) (x : Bool) : Sto (w.setCell ⟨g, i, none⟩ (.bool x)) m { s with L := s.L.set i x } := by
  have hgo : ob m.sl = [g] := by rw [hg]; rfl
  have h1 : m.p ≠ g := fun e => h.nl (by rw [hgo, e]; simp)
  have h2 : g ∉ ob m.su := fun e => (h.ul g e).1 (by rw [hgo]; simp)
  have h3 := h.lt g (by rw [hgo]; simp)
  obtain ⟨hc, hf⟩ := h.cells_off h1 i (.bool x)
  have hru := h.rl
  rw [hg] at hru
  have := hru.put (o := i) (by omega) (.bool x)
  rw [lRow_set] at this
  refine ⟨(hc _).trans h.c0, (hc _).trans h.c1, (hc _).trans h.c2, ?_, (hc _).trans h.c4, (hc _).trans h.c5, (hc _).trans h.c6, hf, h.ru.away h2 _ _, ?_, h.rt.away h3 _ _, h.nu, h.nl, h.nt, h.ul, h.lt⟩
  · simp only [List.length_set]; exact (hc _).trans h.c3
  · simp only [List.length_set]; rw [hg]; exact this
theorem Sto.setT {w : World} {m : Sm} {s : Ss} (h : Sto w m s) {g i : Nat} (hg : m.st = some ⟨g, 0, none⟩) (hi : i < s.T.length) (x : Value) : Sto (w.setCell ⟨g, i, none⟩ x) m { s with T := s.T.set i x } := by
  have hgo : ob m.st = [g] := by rw [hg]; rfl
  have h1 : m.p ≠ g := fun e => h.nt (by rw [hgo, e]; simp)
  have h2 : g ∉ ob m.su := fun e => (h.ul g e).2 (by rw [hgo]; simp)
  have h3 : g ∉ ob m.sl := fun e => h.lt g e (by rw [hgo]; simp)
  obtain ⟨hc, hf⟩ := h.cells_off h1 i x
  have hru := h.rt
  rw [hg] at hru
  have := hru.put (o := i) (by omega) x
  refine ⟨(hc _).trans h.c0, (hc _).trans h.c1, (hc _).trans h.c2, (hc _).trans h.c3, ?_, (hc _).trans h.c5, (hc _).trans h.c6, hf, h.ru.away h2 _ _, h.rl.away h3 _ _, ?_, h.nu, h.nl, h.nt, h.ul, h.lt⟩
  · simp only [List.length_set]; exact (hc _).trans h.c4
  · simp only [List.length_set]; rw [hg]; exact this
theorem Sto.pF {m : Sm} : m.p ∈ m.F := by simp [Sm.F]
theorem Sm.uF {m : Sm} {g : Nat} (h : m.su = some ⟨g, 0, none⟩) : g ∈ m.F := by simp [Sm.F, h, ob]
theorem Sm.lF {m : Sm} {g : Nat} (h : m.sl = some ⟨g, 0, none⟩) : g ∈ m.F := by simp [Sm.F, h, ob]
theorem Sm.tF {m : Sm} {g : Nat} (h : m.st = some ⟨g, 0, none⟩) : g ∈ m.F := by simp [Sm.F, h, ob]
/-! ### What a store is -/
def full (s : Ss) (i : Nat) : Prop := s.L[i]? = some true ∨ s.U[i]? = some 4294967295
structure Okk (s : Ss) : Prop where
  m1 : 1 ≤ s.most
  m2 : s.most ≤ 16384
  um : s.U.length ≤ s.most
  ll : s.L.length = s.U.length
  tl : s.T.length = s.U.length
  uo : ∀ u ∈ s.U, u ≤ 4294967295
  nu : s.nx ≤ s.U.length
  nf : ∀ i, i < s.nx → full s i
  lc : s.ln = s.L.count true
/-- the next slot -/
structure NextIs (s : Ss) (k : Nat) : Prop where
  le : k ≤ s.U.length
  fl : ∀ i, i < k → full s i
  no : k < s.U.length → ¬ full s k
/-- what a handle names -/
def Named (s : Ss) (a b : Nat) : Prop := s.L[a]? = some true ∧ s.U[a]? = some b
def Thing (s : Ss) (a : Nat) (v : Value) : Prop := s.T[a]? = some v
def nameS (s : Ss) (a b : Nat) : Option Value := if s.L[a]? = some true ∧ s.U[a]? = some b then s.T[a]? else none
def putS (s : Ss) (k : Nat) (v : Value) : Ss := { s with ln := s.ln + 1, nx := k, U := if k < s.U.length then s.U.set k (s.U.getD k 0 + 1) else s.U ++ [1], L := if k < s.U.length then s.L.set k true else s.L ++ [true], T := if k < s.U.length then s.T.set k v else s.T ++ [v] }
def takeS (s : Ss) (k : Nat) (z : Value) : Ss := { s with ln := s.ln - 1, nx := min s.nx k, L := s.L.set k false, T := s.T.set k z }
theorem get_of_lt {α : Type} {l : List α} {i : Nat} (h : i < l.length) : ∃ a, l[i]? = some a := ⟨_, List.getElem?_eq_getElem h⟩
theorem lt_of_get {α : Type} {l : List α} {i : Nat} {a : α} (h : l[i]? = some a) : i < l.length := by
  rcases Nat.lt_or_ge i l.length with h' | h'
  · exact h'
  · rw [List.getElem?_eq_none h'] at h; cases h
theorem count_set_t {l : List Bool} {i : Nat} (h : l[i]? = some false) : (l.set i true).count true = l.count true + 1 := by
  induction l generalizing i with
  | nil => cases h
  | cons a l ih =>
    cases i with
    | zero => simp only [List.getElem?_cons_zero, Option.some.injEq] at h; subst h; simp
    | succ i => simp only [List.getElem?_cons_succ] at h; simp only [List.set_cons_succ, List.count_cons, ih h]; omega
theorem count_set_f {l : List Bool} {i : Nat} (h : l[i]? = some true) : (l.set i false).count true + 1 = l.count true := by
  induction l generalizing i with
  | nil => cases h
  | cons a l ih =>
    cases i with
    | zero => simp only [List.getElem?_cons_zero, Option.some.injEq] at h; subst h; simp
    | succ i => simp only [List.getElem?_cons_succ] at h; have := ih h; simp only [List.set_cons_succ, List.count_cons]; omega
theorem Okk.put {s : Ss} (h : Okk s) {k : Nat} (hk : NextIs s k) (hm : k < s.most) (v : Value) : Okk (putS s k v) := by
  have hll := h.ll
  have htl := h.tl
  by_cases hlt : k < s.U.length
  · have hnf := hk.no hlt
    obtain ⟨u, hu⟩ := get_of_lt hlt
    have hul := h.uo u (List.mem_of_getElem? hu)
    have hne : u ≠ 4294967295 := fun e => hnf (.inr (by rw [hu, e]))
    have hLk : s.L[k]? = some false := by
      obtain ⟨b, hb⟩ := get_of_lt (l := s.L) (i := k) (by omega)
      cases b with
      | false => exact hb
      | true => exact absurd (.inl hb) hnf
    have hgd : s.U.getD k 0 = u := by rw [List.getD_eq_getElem?_getD, hu]; rfl
    unfold putS
    simp only [if_pos hlt, hgd]
    refine ⟨h.m1, h.m2, by simpa using h.um, by simpa using hll, by simpa using htl, fun x hx => ?_, by simpa using hk.le, fun i hi => ?_, ?_⟩
    · rcases List.mem_or_eq_of_mem_set hx with hx | hx
      · exact h.uo x hx
      · omega
    · have hi : i < k := hi
      rcases hk.fl i hi with hf | hf
      · exact .inl (by show (s.L.set k true)[i]? = _; rw [List.getElem?_set_ne (by omega)]; exact hf)
      · exact .inr (by show (s.U.set k (u + 1))[i]? = _; rw [List.getElem?_set_ne (by omega)]; exact hf)
    · show s.ln + 1 = (s.L.set k true).count true
      rw [count_set_t hLk, h.lc]
  · have hke : k = s.U.length := by have := hk.le; omega
    unfold putS
    simp only [if_neg hlt]
    refine ⟨h.m1, h.m2, by simp; omega, by simp [hll], by simp [htl], fun x hx => ?_, by simp; omega, fun i hi => ?_, ?_⟩
    · rcases List.mem_append.1 hx with hx | hx
      · exact h.uo x hx
      · simp at hx; omega
    · have hi : i < k := hi
      rcases hk.fl i hi with hf | hf
      · exact .inl (by show (s.L ++ [true])[i]? = _; rw [List.getElem?_append_left (by omega)]; exact hf)
      · exact .inr (by show (s.U ++ [1])[i]? = _; rw [List.getElem?_append_left (by omega)]; exact hf)
    · show s.ln + 1 = (s.L ++ [true]).count true
      rw [List.count_append, h.lc]; rfl
theorem Okk.take {s : Ss} (h : Okk s) {k : Nat} (hk : s.L[k]? = some true) (z : Value) : Okk (takeS s k z) := by
  have hll := h.ll
  have htl := h.tl
  have hc := count_set_f hk
  have hlt := lt_of_get hk
  unfold takeS
  refine ⟨h.m1, h.m2, h.um, by simpa using hll, by simpa using htl, h.uo, by have := h.nu; show min s.nx k ≤ s.U.length; omega, fun i hi => ?_, ?_⟩
  · have hi : i < min s.nx k := hi
    rcases h.nf i (by omega) with hf | hf
    · exact .inl (by show (s.L.set k false)[i]? = _; rw [List.getElem?_set_ne (by omega)]; exact hf)
    · exact .inr hf
  · show s.ln - 1 = (s.L.set k false).count true
    have := h.lc; omega
end Go.Proofs.Ytnfhedmlifjlmaa
namespace Go.Proofs.Ytnfhedmlifjlmaa
open Ieee Go.RowKit Go.WideShapes
set_option linter.unusedSimpArgs false
set_option linter.unusedVariables false

/-! ### Three rows of a struct that grow by one each, in whatever order -/
def RS (W : World) (d : Bool) (x : Value) (sa : Option Addr) (n cap : Nat) (R N : List Value) (B : List Nat) : Prop :=
  (d = true → ∃ sa' cap', x = .slice sa' (n + 1) cap' ∧ Ro 1 W sa' (n + 1) cap' (R ++ N) ∧ B = ob sa') ∧ (d = false → Ro 1 W sa n cap R ∧ B = ob sa)
def BS (W : World) (d : Bool) (x : Value) (N : List Value) (D : List Nat) : Prop :=
  (d = true → ∃ g, x = .slice (some ⟨g, 0, none⟩) 1 1 ∧ Rw W g 0 N ∧ D = [g] ∧ g < W.heap.size) ∧ (d = false → D = [])
structure J7 (w : World) (F : List Nat) (p : Nat) (sa : Nat → Option Addr) (n cap : Nat → Nat) (R N : Nat → List Value) (da db ds : Nat → Bool) (xa xb : Nat → Value) (W : World) (B D : Nat → List Nat) : Prop where
  row : ∀ j, j < 3 → RS W (da j) (xa j) (sa j) (n j) (cap j) (R j) (N j) (B j)
  bui : ∀ j, j < 3 → BS W (db j) (xb j) (N j) (D j)
  cel : ∀ j, j < 3 → W.cell? ⟨p, 2 + j, none⟩ = some (if ds j = true then xa j else .slice (sa j) (n j) (cap j))
  oth : ∀ o, o < 2 ∨ 4 < o → W.cell? ⟨p, o, none⟩ = w.cell? ⟨p, o, none⟩
  fz : ∀ o, W.frozen? ⟨p, o, none⟩ = false
  pB : ∀ j, j < 3 → p ∉ B j ∧ p ∉ D j
  bb : ∀ i j, i < 3 → j < 3 → i ≠ j → ∀ k, k ∈ B i → k ∉ B j
  db : ∀ i j, i < 3 → j < 3 → ∀ k, k ∈ D i → k ∉ B j
  bl : ∀ j, j < 3 → ∀ k, k ∈ B j → k < W.heap.size
  dl : ∀ j, j < 3 → ∀ k, k ∈ D j → k < W.heap.size
  pl : p < W.heap.size
  pF : p ∈ F
  os : W.os = w.os
  tape : W.tape = w.tape
  output : W.output = w.output
  size : w.heap.size ≤ W.heap.size
  block : ∀ k, k < w.heap.size → k ∉ F → W.heap[k]? = w.heap[k]?
  grown : ∀ j, j < 3 → ∀ k, k ∈ B j → k ∈ F ∨ w.heap.size ≤ k
variable {w W W' : World} {F : List Nat} {p : Nat} {sa : Nat → Option Addr} {n cap : Nat → Nat} {R N : Nat → List Value} {da db ds da' db' ds' : Nat → Bool} {xa xb xa' xb' : Nat → Value} {B D : Nat → List Nat}
theorem rs_heap {d : Bool} {x : Value} {sa : Option Addr} {n cap : Nat} {R N : List Value} {B : List Nat} (h : RS W d x sa n cap R N B) (hh : ∀ k ∈ B, W'.heap[k]? = W.heap[k]?) (hs : W.heap.size ≤ W'.heap.size) : RS W' d x sa n cap R N B := by
  refine ⟨fun e => ?_, fun e => ?_⟩
  · obtain ⟨s', c', h1, h2, h3⟩ := h.1 e
    exact ⟨s', c', h1, h2.heap (fun g hg => hh g (by rw [h3]; exact hg)) hs, h3⟩
  · obtain ⟨h1, h2⟩ := h.2 e
    exact ⟨h1.heap (fun g hg => hh g (by rw [h2]; exact hg)) hs, h2⟩
theorem bs_heap {d : Bool} {x : Value} {N : List Value} {D : List Nat} (h : BS W d x N D) (hh : ∀ k ∈ D, W'.heap[k]? = W.heap[k]?) (hs : W.heap.size ≤ W'.heap.size) : BS W' d x N D := by
  refine ⟨fun e => ?_, h.2⟩
  obtain ⟨g, h1, h2, h3, h4⟩ := h.1 e
  exact ⟨g, h1, fun j u hj => (heap_cell_eq (hh g (by rw [h3]; simp)) _).trans (h2 j u hj), h3, by omega⟩
/-- the same of flags and values that are alike -/
theorem J7.like (h : J7 w F p sa n cap R N da db ds xa xb W B D) (h1 : ∀ j, j < 3 → da' j = da j) (h2 : ∀ j, j < 3 → db' j = db j) (h3 : ∀ j, j < 3 → ds' j = ds j) (h4 : ∀ j, j < 3 → da j = true → xa' j = xa j) (h5 : ∀ j, j < 3 → db j = true → xb' j = xb j) (h6 : ∀ j, j < 3 → ds j = true → da j = true) : J7 w F p sa n cap R N da' db' ds' xa' xb' W B D :=
  ⟨fun j hj => by
    rw [h1 j hj]
    have := h.row j hj
    refine ⟨fun e => ?_, this.2⟩
    rw [h4 j hj e]; exact this.1 e,
   fun j hj => by
    rw [h2 j hj]
    have := h.bui j hj
    refine ⟨fun e => ?_, this.2⟩
    rw [h5 j hj e]; exact this.1 e,
   fun j hj => by
    rw [h3 j hj]
    have := h.cel j hj
    by_cases e : ds j = true
    · rw [if_pos e] at this ⊢; rw [h4 j hj (h6 j hj e)]; exact this
    · rw [if_neg e] at this ⊢; exact this,
   h.oth, h.fz, h.pB, h.bb, h.db, h.bl, h.dl, h.pl, h.pF, h.os, h.tape, h.output, h.size, h.block, h.grown⟩
def upd1 {α : Type} (f : Nat → α) (j : Nat) (a : α) : Nat → α := fun i => if i = j then a else f i
theorem upd1_same {α : Type} (f : Nat → α) (j : Nat) (a : α) : upd1 f j a j = a := by simp [upd1]
theorem upd1_ne {α : Type} (f : Nat → α) {i j : Nat} (h : i ≠ j) (a : α) : upd1 f j a i = f i := by simp [upd1, h]
/-- what was built, in a block of its own -/
theorem J7.built (h : J7 w F p sa n cap R N da db ds xa xb W B D) {j : Nat} (hj : j < 3) (hd : db j = false) (u : Value) (t : TypeId) (hN : N j = [u]) : J7 w F p sa n cap R N da (upd1 db j true) ds xa (upd1 xb j (.slice (some ⟨W.heap.size, 0, none⟩) 1 1)) (W.alloc (.cells #[u] t)) B (upd1 D j [W.heap.size]) := by
  have b := bl_alloc (bl_refl W) #[u] t
  have hs := b.size
  have hlt : W.heap.size < (W.alloc (.cells #[u] t)).heap.size := by simp
  have hb := fun k (hk : k < W.heap.size) => b.1.block k hk
  have hc := fun o => heap_cell_eq (hb p h.pl) o
  refine ⟨fun i hi => rs_heap (h.row i hi) (fun k hk => hb k (h.bl i hi k hk)) hs, fun i hi => ?_, fun i hi => (hc _).trans (h.cel i hi), fun o ho => (hc o).trans (h.oth o ho), fun o => (heap_frozen_eq (hb p h.pl) o).trans (h.fz o), fun i hi => ?_, h.bb, fun i k hi hk x hx => ?_, fun i hi k hk => Nat.lt_of_lt_of_le (h.bl i hi k hk) hs, fun i hi k hk => ?_, Nat.lt_of_lt_of_le h.pl hs, h.pF, b.1.os.trans h.os, b.1.tape.trans h.tape, b.1.output.trans h.output, Nat.le_trans h.size hs, fun k hk hn => (hb k (Nat.lt_of_lt_of_le hk h.size)).trans (h.block k hk hn), h.grown⟩
  · by_cases e : i = j
    · subst e
      rw [upd1_same, upd1_same, upd1_same]
      refine ⟨fun _ => ⟨_, rfl, ?_, rfl, hlt⟩, fun e => by cases e⟩
      intro k v hk
      rw [hN] at hk
      rw [Nat.zero_add, World.cell?_alloc_new]
      simpa using hk
    · rw [upd1_ne _ e, upd1_ne _ e, upd1_ne _ e]
      exact bs_heap (h.bui i hi) (fun k hk => hb k (h.dl i hi k hk)) hs
  · refine ⟨(h.pB i hi).1, ?_⟩
    by_cases e : i = j
    · subst e; rw [upd1_same]; have := h.pl; simp; omega
    · rw [upd1_ne _ e]; exact (h.pB i hi).2
  · by_cases e : i = j
    · subst e
      rw [upd1_same] at hx
      simp at hx
      subst hx
      intro hm
      have := h.bl k hk _ hm
      omega
    · rw [upd1_ne _ e] at hx; exact h.db i k hi hk x hx
  · by_cases e : i = j
    · subst e
      rw [upd1_same] at hk
      simp at hk
      omega
    · rw [upd1_ne _ e] at hk; exact Nat.lt_of_lt_of_le (h.dl i hi k hk) hs
/-- a row has grown -/
theorem J7.appd {P : Program} (h : J7 w F p sa n cap R N da db ds xa xb W B D) {j : Nat} (hj : j < 3) (hd : da j = false) (hb : db j = true) (hds : ds j = false) {by_ : Nat} {z u : Value} (t ty e : TypeId) (ht : P.underlying t = some (.slice e)) (hinf : (P.info? e).map (fun i => (i.zero, i.size, i.bytes)) = some (some z, 1, by_)) (hzc : z.cells.size = 1)
    (hN : N j = [u]) (h1 : u.oneCell' = true) (hml : n j + 1 ≤ maxLen) (hr : (n j + 1) * by_ ≤ 140737488355328) :
    ∃ x W' B', (Builtin.append_ #[t, t] ty #[.slice (sa j) (n j) (cap j), xb j]).run P W = .ok x W' ∧ J7 w F p sa n cap R N (upd1 da j true) db ds (upd1 xa j x) xb W' B' D := by
  obtain ⟨g, hx, hRw, hD, hg⟩ := (h.bui j hj).1 hb
  obtain ⟨hRo, hB⟩ := (h.row j hj).2 hd
  obtain ⟨sa', cap', W', hrun, hRo', hf⟩ := Ro.app t ty e ht hinf hzc (by decide) g 0 1 1 hRo (by rw [hN]; rfl) hRw (by rw [hN]; intro v hv; simp at hv; subst hv; exact h1) (by decide) hml hr
  rw [← hx] at hrun
  have hbk : ∀ k, k < W.heap.size → k ∉ B j → W'.heap[k]? = W.heap[k]? := fun k hk hn => hf.block k hk (by rw [← hB]; exact hn)
  have hs := hf.size
  have hpk := hbk p h.pl (h.pB j hj).1
  have hc := fun o => heap_cell_eq hpk o
  have hgr : ∀ k, k ∈ ob sa' → k ∈ B j ∨ W.heap.size ≤ k := fun k hk => by rw [hB]; exact hf.grown k hk
  refine ⟨_, W', upd1 B j (ob sa'), hrun, ⟨fun i hi => ?_, fun i hi => bs_heap (h.bui i hi) (fun k hk => hbk k (h.dl i hi k hk) (h.db i j hi hj k hk)) hs, fun i hi => ?_, fun o ho => (hc o).trans (h.oth o ho), fun o => (heap_frozen_eq hpk o).trans (h.fz o), fun i hi => ?_, fun i k hi hk hne x hxx => ?_, fun i k hi hk x hxx => ?_, fun i hi k hk => ?_, fun i hi k hk => Nat.lt_of_lt_of_le (h.dl i hi k hk) hs, Nat.lt_of_lt_of_le h.pl hs, h.pF, hf.os.trans h.os, hf.tape.trans h.tape, hf.output.trans h.output, Nat.le_trans h.size hs, fun k hk hn => ?_, fun i hi k hk => ?_⟩⟩
  · by_cases e' : i = j
    · subst e'
      rw [upd1_same, upd1_same, upd1_same]
      exact ⟨fun _ => ⟨_, _, rfl, hRo', rfl⟩, fun e => by cases e⟩
    · rw [upd1_ne _ e', upd1_ne _ e', upd1_ne _ e']
      exact rs_heap (h.row i hi) (fun k hk => hbk k (h.bl i hi k hk) (h.bb i j hi hj e' k hk)) hs
  · rw [hc]
    have := h.cel i hi
    by_cases e' : i = j
    · subst e'
      rw [if_neg (by rw [hds]; simp)] at this ⊢
      exact this
    · rw [upd1_ne _ e']; exact this
  · refine ⟨?_, (h.pB i hi).2⟩
    by_cases e' : i = j
    · subst e'
      rw [upd1_same]
      intro hm
      rcases hgr p hm with h' | h'
      · exact (h.pB i hi).1 h'
      · have := h.pl; omega
    · rw [upd1_ne _ e']; exact (h.pB i hi).1
  · by_cases ei : i = j
    · subst ei
      rw [upd1_same] at hxx
      rw [upd1_ne _ (fun e => hne e.symm)]
      rcases hgr x hxx with h' | h'
      · exact h.bb i k hi hk hne x h'
      · intro hm; have := h.bl k hk x hm; omega
    · rw [upd1_ne _ ei] at hxx
      by_cases ek : k = j
      · subst ek
        rw [upd1_same]
        intro hm
        rcases hgr x hm with h' | h'
        · exact h.bb k i hk hi (fun e => hne e.symm) x h' hxx
        · have := h.bl i hi x hxx; omega
      · rw [upd1_ne _ ek]; exact h.bb i k hi hk hne x hxx
  · by_cases ek : k = j
    · subst ek
      rw [upd1_same]
      intro hm
      rcases hgr x hm with h' | h'
      · exact h.db i k hi hk x hxx h'
      · have := h.dl i hi x hxx; omega
    · rw [upd1_ne _ ek]; exact h.db i k hi hk x hxx
  · by_cases ei : i = j
    · subst ei; rw [upd1_same] at hk; exact hRo'.lt k hk
    · rw [upd1_ne _ ei] at hk; exact Nat.lt_of_lt_of_le (h.bl i hi k hk) hs
  · have hnB : k ∉ B j := fun hm => by
      rcases h.grown j hj k hm with h' | h'
      · exact hn h'
      · omega
    exact (hbk k (Nat.lt_of_lt_of_le hk h.size) hnB).trans (h.block k hk hn)
  · by_cases ei : i = j
    · subst ei
      rw [upd1_same] at hk
      rcases hgr k hk with h' | h'
      · exact h.grown i hi k h'
      · exact .inr (Nat.le_trans h.size h')
    · rw [upd1_ne _ ei] at hk; exact h.grown i hi k hk
/-- a row that has grown is put into the struct -/
theorem J7.stored (h : J7 w F p sa n cap R N da db ds xa xb W B D) {j : Nat} (hj : j < 3) : J7 w F p sa n cap R N da db (upd1 ds j true) xa xb (W.setCell ⟨p, 2 + j, none⟩ (xa j)) B D := by
  have hbk : ∀ k, k ≠ p → (W.setCell ⟨p, 2 + j, none⟩ (xa j)).heap[k]? = W.heap[k]? := fun k hk => Below.heap_setCell W _ _ k hk
  have h2 := (Below.refl 0 W).setCell (p := ⟨p, 2 + j, none⟩) (Nat.zero_le _) (xa j)
  have hs := h2.size
  refine ⟨fun i hi => rs_heap (h.row i hi) (fun k hk => hbk k (fun e => (h.pB i hi).1 (e ▸ hk))) hs, fun i hi => bs_heap (h.bui i hi) (fun k hk => hbk k (fun e => (h.pB i hi).2 (e ▸ hk))) hs, fun i hi => ?_, fun o ho => (set_away (by omega)).trans (h.oth o ho), fun o => (World.frozen?_setCell _ _ _ _).trans (h.fz o), h.pB, h.bb, h.db, fun i hi k hk => Nat.lt_of_lt_of_le (h.bl i hi k hk) hs, fun i hi k hk => Nat.lt_of_lt_of_le (h.dl i hi k hk) hs, Nat.lt_of_lt_of_le h.pl hs, h.pF, h2.os.trans h.os, h2.tape.trans h.tape, h2.output.trans h.output, Nat.le_trans h.size hs, fun k hk hn => (hbk k (fun e => hn (by rw [e]; exact h.pF))).trans (h.block k hk hn), h.grown⟩
  by_cases e : i = j
  · subst e
    rw [upd1_same, if_pos rfl]
    exact World.cell?_setCell_same' _ _ _ (by rw [h.cel i hi]; rfl)
  · rw [upd1_ne _ e, set_away (by omega)]
    exact h.cel i hi
def fn3 {α : Type} (a b c : α) : Nat → α
  | 0 => a
  | 1 => b
  | _ => c
/-- the beginning -/
theorem Sto.start {m : Sm} {s : Ss} (h : Sto w m s) (v : Value) : J7 w m.F m.p (fn3 m.su m.sl m.st) (fn3 s.U.length s.L.length s.T.length) (fn3 m.cu m.cl m.ct) (fn3 (uRow s.U) (lRow s.L) s.T) (fn3 [.int .u32 0] [.bool false] [v]) (fn3 false false false) (fn3 false false false) (fn3 false false false) xa xb w (fn3 (ob m.su) (ob m.sl) (ob m.st)) (fn3 [] [] []) := by
  have c3 : ∀ {P : Nat → Prop}, P 0 → P 1 → P 2 → ∀ j, j < 3 → P j := fun h0 h1 h2 j hj => by
    match j, hj with
    | 0, _ => exact h0
    | 1, _ => exact h1
    | 2, _ => exact h2
  refine ⟨c3 ⟨(fun e => by cases e), fun _ => ⟨h.ru, rfl⟩⟩ ⟨(fun e => by cases e), fun _ => ⟨h.rl, rfl⟩⟩ ⟨(fun e => by cases e), fun _ => ⟨h.rt, rfl⟩⟩, c3 ⟨(fun e => by cases e), fun _ => rfl⟩ ⟨(fun e => by cases e), fun _ => rfl⟩ ⟨(fun e => by cases e), fun _ => rfl⟩, c3 h.c2 h.c3 h.c4, fun _ _ => rfl, h.fz, c3 ⟨h.nu, by simp [fn3]⟩ ⟨h.nl, by simp [fn3]⟩ ⟨h.nt, by simp [fn3]⟩, ?_, ?_, c3 h.ru.lt h.rl.lt h.rt.lt, c3 (fun k hk => by cases hk) (fun k hk => by cases hk) (fun k hk => by cases hk), h.pl, Sto.pF, rfl, rfl, rfl, Nat.le_refl _, fun _ _ _ => rfl, c3 (fun k hk => .inl (by simp only [fn3] at hk; simp [Sm.F, hk])) (fun k hk => .inl (by simp only [fn3] at hk; simp [Sm.F, hk])) (fun k hk => .inl (by simp only [fn3] at hk; simp [Sm.F, hk]))⟩
  · intro i j hi hj hne k
    match i, hi, j, hj with
    | 0, _, 0, _ => exact absurd rfl hne
    | 0, _, 1, _ => exact fun hk => (h.ul k hk).1
    | 0, _, 2, _ => exact fun hk => (h.ul k hk).2
    | 1, _, 0, _ => exact fun hk hk' => (h.ul k hk').1 hk
    | 1, _, 1, _ => exact absurd rfl hne
    | 1, _, 2, _ => exact h.lt k
    | 2, _, 0, _ => exact fun hk hk' => (h.ul k hk').2 hk
    | 2, _, 1, _ => exact fun hk hk' => h.lt k hk' hk
    | 2, _, 2, _ => exact absurd rfl hne
  · intro i j hi hj k hk
    match i, hi with
    | 0, _ => cases hk
    | 1, _ => cases hk
    | 2, _ => cases hk
/-- the end -/
theorem J7.done {m : Sm} {s : Ss} (h0 : Sto w m s) (v : Value) (hl : s.L.length = s.U.length) (htl : s.T.length = s.U.length) (h : J7 w m.F m.p (fn3 m.su m.sl m.st) (fn3 s.U.length s.L.length s.T.length) (fn3 m.cu m.cl m.ct) (fn3 (uRow s.U) (lRow s.L) s.T) (fn3 [.int .u32 0] [.bool false] [v]) da db ds xa xb W B D) (hda : ∀ j, j < 3 → da j = true) (hds : ∀ j, j < 3 → ds j = true) : ∃ m', m'.p = m.p ∧ Sto W m' { s with U := s.U ++ [0], L := s.L ++ [false], T := s.T ++ [v] } ∧ Fr m.F m'.F w W := by
  obtain ⟨s0, c0, e0, r0, b0⟩ := (h.row 0 (by decide)).1 (hda 0 (by decide))
  obtain ⟨s1, c1, e1, r1, b1⟩ := (h.row 1 (by decide)).1 (hda 1 (by decide))
  obtain ⟨s2, c2, e2, r2, b2⟩ := (h.row 2 (by decide)).1 (hda 2 (by decide))
  have k0 := h.cel 0 (by decide)
  have k1 := h.cel 1 (by decide)
  have k2 := h.cel 2 (by decide)
  rw [if_pos (hds 0 (by decide)), e0] at k0
  rw [if_pos (hds 1 (by decide)), e1] at k1
  rw [if_pos (hds 2 (by decide)), e2] at k2
  have p0 := (h.pB 0 (by decide)).1
  have p1 := (h.pB 1 (by decide)).1
  have p2 := (h.pB 2 (by decide)).1
  have d01 := h.bb 0 1 (by decide) (by decide) (by decide)
  have d02 := h.bb 0 2 (by decide) (by decide) (by decide)
  have d12 := h.bb 1 2 (by decide) (by decide) (by decide)
  have g0 := h.grown 0 (by decide)
  have g1 := h.grown 1 (by decide)
  have g2 := h.grown 2 (by decide)
  rw [b0] at p0 d01 d02 g0
  rw [b1] at p1 d01 d12 g1
  rw [b2] at p2 d02 d12 g2
  refine ⟨⟨m.p, s0, c0, s1, c1, s2, c2⟩, rfl, ⟨(h.oth 0 (by omega)).trans h0.c0, (h.oth 1 (by omega)).trans h0.c1, by simpa [fn3] using k0, by simpa [fn3] using k1, by simpa [fn3] using k2, (h.oth 5 (by omega)).trans h0.c5, (h.oth 6 (by omega)).trans h0.c6, h.fz, ?_, ?_, ?_, p0, p1, p2, fun k hk => ⟨d01 k hk, d02 k hk⟩, d12⟩, ⟨h.os, h.tape, h.output, h.size, h.block, fun k hk => ?_⟩⟩
  · have := r0
    simp only [fn3] at this
    simpa [uRow] using this
  · have := r1
    simp only [fn3] at this
    simpa [lRow] using this
  · have := r2
    simp only [fn3] at this
    simpa using this
  · simp only [Sm.F, List.mem_cons, List.mem_append] at hk
    rcases hk with rfl | (hk | hk) | hk
    · exact .inl h.pF
    · exact g0 k hk
    · exact g1 k hk
    · exact g2 k hk
end Go.Proofs.Ytnfhedmlifjlmaa
namespace Go.Proofs.Ytnfhedmlifjlmaa
open Ieee Go.RowKit Go.WideShapes
set_option linter.unusedSimpArgs false
set_option linter.unusedVariables false

theorem J7.as {w W : World} {F : List Nat} {p : Nat} {sa : Nat → Option Addr} {n cap : Nat → Nat} {R N : Nat → List Value} {da db ds da' db' ds' : Nat → Bool} {xa xb xa' xb' : Nat → Value} {B D : Nat → List Nat} (h : J7 w F p sa n cap R N da db ds xa xb W B D) (h1 : ∀ j, j < 3 → da' j = da j) (h2 : ∀ j, j < 3 → db' j = db j) (h3 : ∀ j, j < 3 → ds' j = ds j) (h4 : ∀ j, j < 3 → xa' j = xa j) (h5 : ∀ j, j < 3 → xb' j = xb j) : J7 w F p sa n cap R N da' db' ds' xa' xb' W B D :=
  ⟨fun j hj => by rw [h1 j hj, h4 j hj]; exact h.row j hj, fun j hj => by rw [h2 j hj, h5 j hj]; exact h.bui j hj, fun j hj => by rw [h3 j hj, h4 j hj]; exact h.cel j hj, h.oth, h.fz, h.pB, h.bb, h.db, h.bl, h.dl, h.pl, h.pF, h.os, h.tape, h.output, h.size, h.block, h.grown⟩
theorem fn3_c {P : Nat → Prop} (h0 : P 0) (h1 : P 1) (h2 : P 2) : ∀ j, j < 3 → P j := fun j hj => by
  match j, hj with
  | 0, _ => exact h0
  | 1, _ => exact h1
  | 2, _ => exact h2
def JJ (w : World) (m : Sm) (s : Ss) (v : Value) (L : Nat → Bool) (x : Nat → Value) (W : World) : Prop := ∃ B D, J7 w m.F m.p (fn3 m.su m.sl m.st) (fn3 s.U.length s.L.length s.T.length) (fn3 m.cu m.cl m.ct) (fn3 (uRow s.U) (lRow s.L) s.T) (fn3 [.int .u32 0] [.bool false] [v]) (fn3 (L 8) (L 14) (L 21)) (fn3 (L 7) (L 13) (L 20)) (fn3 (L 24) (L 27) (L 30)) (fn3 (x 8) (x 14) (x 21)) (fn3 (x 7) (x 13) (x 20)) W B D
theorem JJ.bel {w W W' : World} {m : Sm} {s : Ss} {v : Value} {L : Nat → Bool} {x : Nat → Value} (h : JJ w m s v L x W) (b : Bel W W') : JJ w m s v L x W' := by
  obtain ⟨B, D, h⟩ := h
  have hs := b.size
  have hb := fun k (hk : k < W.heap.size) => b.1.block k hk
  have hc := fun o => heap_cell_eq (hb m.p h.pl) o
  exact ⟨B, D, fun i hi => rs_heap (h.row i hi) (fun k hk => hb k (h.bl i hi k hk)) hs, fun i hi => bs_heap (h.bui i hi) (fun k hk => hb k (h.dl i hi k hk)) hs, fun i hi => (hc _).trans (h.cel i hi), fun o ho => (hc o).trans (h.oth o ho), fun o => (heap_frozen_eq (hb _ h.pl) o).trans (h.fz o), h.pB, h.bb, h.db, fun i hi k hk => Nat.lt_of_lt_of_le (h.bl i hi k hk) hs, fun i hi k hk => Nat.lt_of_lt_of_le (h.dl i hi k hk) hs, Nat.lt_of_lt_of_le h.pl hs, h.pF, b.1.os.trans h.os, b.1.tape.trans h.tape, b.1.output.trans h.output, Nat.le_trans h.size hs, fun k hk hn => (hb k (Nat.lt_of_lt_of_le hk h.size)).trans (h.block k hk hn), h.grown⟩
theorem JJ.ext {w W : World} {m : Sm} {s : Ss} {v : Value} {L L' : Nat → Bool} {x : Nat → Value} (h : JJ w m s v L x W) (hL : ∀ i, i < 31 → L i = L' i) : JJ w m s v L' x W := by
  unfold JJ at h ⊢
  rw [hL 7 (by decide), hL 8 (by decide), hL 13 (by decide), hL 14 (by decide), hL 20 (by decide), hL 21 (by decide), hL 24 (by decide), hL 27 (by decide), hL 30 (by decide)] at h
  exact h
theorem JJ.fz {w W : World} {m : Sm} {s : Ss} {v : Value} {L : Nat → Bool} {x : Nat → Value} (h : JJ w m s v L x W) : ∀ o, W.frozen? ⟨m.p, o, none⟩ = false := by
  obtain ⟨B, D, h⟩ := h
  exact h.fz
theorem JJ.start {w : World} {m : Sm} {s : Ss} (h : Sto w m s) (v : Value) (x : Nat → Value) : JJ w m s v (fun _ => false) x w := ⟨_, _, (h.start v).as (fun j _ => by unfold fn3; split <;> rfl) (fun j _ => by unfold fn3; split <;> rfl) (fun j _ => by unfold fn3; split <;> rfl) (fun j _ => rfl) (fun j _ => rfl)⟩
theorem JJ.done {w W : World} {m : Sm} {s : Ss} {v : Value} {L : Nat → Bool} {x : Nat → Value} (h : JJ w m s v L x W) (h0 : Sto w m s) (hl : s.L.length = s.U.length) (htl : s.T.length = s.U.length) (hL : ∀ i, i < 31 → L i = true) : ∃ m', m'.p = m.p ∧ Sto W m' { s with U := s.U ++ [0], L := s.L ++ [false], T := s.T ++ [v] } ∧ Fr m.F m'.F w W := by
  obtain ⟨B, D, h⟩ := h
  exact h.done h0 v hl htl (fn3_c (hL 8 (by decide)) (hL 14 (by decide)) (hL 21 (by decide))) (fn3_c (hL 24 (by decide)) (hL 27 (by decide)) (hL 30 (by decide)))
theorem JJ.b0 {w W : World} {m : Sm} {s : Ss} {v : Value} {L : Nat → Bool} {x : Nat → Value} (h : JJ w m s v L x W) (hd : L 7 = false) (t : TypeId) : JJ w m s v (updL L 7) (updS x 7 (.slice (some ⟨W.heap.size, 0, none⟩) 1 1)) (W.alloc (.cells #[.int .u32 0] t)) := by
  obtain ⟨B, D, h⟩ := h
  exact ⟨_, _, (h.built (j := 0) (by decide) hd (.int .u32 0) t rfl).as (fn3_c rfl rfl rfl) (fn3_c rfl rfl rfl) (fn3_c rfl rfl rfl) (fn3_c rfl rfl rfl) (fn3_c rfl rfl rfl)⟩
theorem JJ.a0 {P : Program} {w W : World} {m : Sm} {s : Ss} {v : Value} {L : Nat → Bool} {x : Nat → Value} (h : JJ w m s v L x W) (hd : L 8 = false) (hb : L 7 = true) (hs : L 24 = false) {by_ : Nat} {z : Value} (t ty e : TypeId) (ht : P.underlying t = some (.slice e)) (hinf : (P.info? e).map (fun i => (i.zero, i.size, i.bytes)) = some (some z, 1, by_)) (hzc : z.cells.size = 1) (h1 : (.int .u32 0 : Value).oneCell' = true) (hml : s.U.length + 1 ≤ maxLen) (hr : (s.U.length + 1) * by_ ≤ 140737488355328) :
    ∃ y W', (Builtin.append_ #[t, t] ty #[.slice m.su s.U.length m.cu, x 7]).run P W = .ok y W' ∧ JJ w m s v (updL L 8) (updS x 8 y) W' := by
  obtain ⟨B, D, h⟩ := h
  obtain ⟨y, W', B', hrun, hJ⟩ := h.appd (P := P) (j := 0) (by decide) hd hb hs (u := .int .u32 0) t ty e ht hinf hzc rfl h1 hml hr
  exact ⟨y, W', hrun, _, _, hJ.as (fn3_c rfl rfl rfl) (fn3_c rfl rfl rfl) (fn3_c rfl rfl rfl) (fn3_c rfl rfl rfl) (fn3_c rfl rfl rfl)⟩
theorem JJ.x0 {w W : World} {m : Sm} {s : Ss} {v : Value} {L : Nat → Bool} {x : Nat → Value} (h : JJ w m s v L x W) (hd : L 7 = true) : ∃ g, x 7 = .slice (some ⟨g, 0, none⟩) 1 1 := by
  obtain ⟨B, D, h⟩ := h
  obtain ⟨g, hg, _⟩ := (h.bui 0 (by decide)).1 hd
  exact ⟨g, hg⟩
theorem JJ.y0 {w W : World} {m : Sm} {s : Ss} {v : Value} {L : Nat → Bool} {x : Nat → Value} (h : JJ w m s v L x W) (hd : L 8 = true) : ∃ sa' cap', x 8 = .slice sa' (s.U.length + 1) cap' := by
  obtain ⟨B, D, h⟩ := h
  obtain ⟨s', c', hg, _⟩ := (h.row 0 (by decide)).1 hd
  exact ⟨s', c', hg⟩
theorem JJ.s0 {w W : World} {m : Sm} {s : Ss} {v : Value} {L : Nat → Bool} {x : Nat → Value} (h : JJ w m s v L x W) (y : Value) : JJ w m s v (updL L 24) (updS x 24 y) (W.setCell ⟨m.p, 2, none⟩ (x 8)) := by
  obtain ⟨B, D, h⟩ := h
  exact ⟨_, _, (h.stored (j := 0) (by decide)).as (fn3_c rfl rfl rfl) (fn3_c rfl rfl rfl) (fn3_c rfl rfl rfl) (fn3_c rfl rfl rfl) (fn3_c rfl rfl rfl)⟩
theorem JJ.l0 {w W : World} {m : Sm} {s : Ss} {v : Value} {L : Nat → Bool} {x : Nat → Value} (h : JJ w m s v L x W) (hd : L 24 = false) : W.cell? ⟨m.p, 2, none⟩ = some (.slice m.su s.U.length m.cu) := by
  obtain ⟨B, D, h⟩ := h
  have := h.cel 0 (by decide)
  rw [if_neg (show ¬ fn3 (L 24) (L 27) (L 30) 0 = true by show ¬ L 24 = true; rw [hd]; simp)] at this
  exact this
theorem JJ.o0 {w W : World} {m : Sm} {s : Ss} {v : Value} {L : Nat → Bool} {x : Nat → Value} (h : JJ w m s v L x W) : ∃ u, W.cell? ⟨m.p, 2, none⟩ = some u := by
  obtain ⟨B, D, h⟩ := h
  exact ⟨_, h.cel 0 (by decide)⟩
theorem JJ.b1 {w W : World} {m : Sm} {s : Ss} {v : Value} {L : Nat → Bool} {x : Nat → Value} (h : JJ w m s v L x W) (hd : L 13 = false) (t : TypeId) : JJ w m s v (updL L 13) (updS x 13 (.slice (some ⟨W.heap.size, 0, none⟩) 1 1)) (W.alloc (.cells #[.bool false] t)) := by
  obtain ⟨B, D, h⟩ := h
  exact ⟨_, _, (h.built (j := 1) (by decide) hd (.bool false) t rfl).as (fn3_c rfl rfl rfl) (fn3_c rfl rfl rfl) (fn3_c rfl rfl rfl) (fn3_c rfl rfl rfl) (fn3_c rfl rfl rfl)⟩
theorem JJ.a1 {P : Program} {w W : World} {m : Sm} {s : Ss} {v : Value} {L : Nat → Bool} {x : Nat → Value} (h : JJ w m s v L x W) (hd : L 14 = false) (hb : L 13 = true) (hs : L 27 = false) {by_ : Nat} {z : Value} (t ty e : TypeId) (ht : P.underlying t = some (.slice e)) (hinf : (P.info? e).map (fun i => (i.zero, i.size, i.bytes)) = some (some z, 1, by_)) (hzc : z.cells.size = 1) (h1 : (.bool false : Value).oneCell' = true) (hml : s.L.length + 1 ≤ maxLen) (hr : (s.L.length + 1) * by_ ≤ 140737488355328) :
    ∃ y W', (Builtin.append_ #[t, t] ty #[.slice m.sl s.L.length m.cl, x 13]).run P W = .ok y W' ∧ JJ w m s v (updL L 14) (updS x 14 y) W' := by
  obtain ⟨B, D, h⟩ := h
  obtain ⟨y, W', B', hrun, hJ⟩ := h.appd (P := P) (j := 1) (by decide) hd hb hs (u := .bool false) t ty e ht hinf hzc rfl h1 hml hr
  exact ⟨y, W', hrun, _, _, hJ.as (fn3_c rfl rfl rfl) (fn3_c rfl rfl rfl) (fn3_c rfl rfl rfl) (fn3_c rfl rfl rfl) (fn3_c rfl rfl rfl)⟩
theorem JJ.x1 {w W : World} {m : Sm} {s : Ss} {v : Value} {L : Nat → Bool} {x : Nat → Value} (h : JJ w m s v L x W) (hd : L 13 = true) : ∃ g, x 13 = .slice (some ⟨g, 0, none⟩) 1 1 := by
  obtain ⟨B, D, h⟩ := h
  obtain ⟨g, hg, _⟩ := (h.bui 1 (by decide)).1 hd
  exact ⟨g, hg⟩
theorem JJ.y1 {w W : World} {m : Sm} {s : Ss} {v : Value} {L : Nat → Bool} {x : Nat → Value} (h : JJ w m s v L x W) (hd : L 14 = true) : ∃ sa' cap', x 14 = .slice sa' (s.L.length + 1) cap' := by
  obtain ⟨B, D, h⟩ := h
  obtain ⟨s', c', hg, _⟩ := (h.row 1 (by decide)).1 hd
  exact ⟨s', c', hg⟩
theorem JJ.s1 {w W : World} {m : Sm} {s : Ss} {v : Value} {L : Nat → Bool} {x : Nat → Value} (h : JJ w m s v L x W) (y : Value) : JJ w m s v (updL L 27) (updS x 27 y) (W.setCell ⟨m.p, 3, none⟩ (x 14)) := by
  obtain ⟨B, D, h⟩ := h
  exact ⟨_, _, (h.stored (j := 1) (by decide)).as (fn3_c rfl rfl rfl) (fn3_c rfl rfl rfl) (fn3_c rfl rfl rfl) (fn3_c rfl rfl rfl) (fn3_c rfl rfl rfl)⟩
theorem JJ.l1 {w W : World} {m : Sm} {s : Ss} {v : Value} {L : Nat → Bool} {x : Nat → Value} (h : JJ w m s v L x W) (hd : L 27 = false) : W.cell? ⟨m.p, 3, none⟩ = some (.slice m.sl s.L.length m.cl) := by
  obtain ⟨B, D, h⟩ := h
  have := h.cel 1 (by decide)
  rw [if_neg (show ¬ fn3 (L 24) (L 27) (L 30) 1 = true by show ¬ L 27 = true; rw [hd]; simp)] at this
  exact this
theorem JJ.o1 {w W : World} {m : Sm} {s : Ss} {v : Value} {L : Nat → Bool} {x : Nat → Value} (h : JJ w m s v L x W) : ∃ u, W.cell? ⟨m.p, 3, none⟩ = some u := by
  obtain ⟨B, D, h⟩ := h
  exact ⟨_, h.cel 1 (by decide)⟩
theorem JJ.b2 {w W : World} {m : Sm} {s : Ss} {v : Value} {L : Nat → Bool} {x : Nat → Value} (h : JJ w m s v L x W) (hd : L 20 = false) (t : TypeId) : JJ w m s v (updL L 20) (updS x 20 (.slice (some ⟨W.heap.size, 0, none⟩) 1 1)) (W.alloc (.cells #[v] t)) := by
  obtain ⟨B, D, h⟩ := h
  exact ⟨_, _, (h.built (j := 2) (by decide) hd (v) t rfl).as (fn3_c rfl rfl rfl) (fn3_c rfl rfl rfl) (fn3_c rfl rfl rfl) (fn3_c rfl rfl rfl) (fn3_c rfl rfl rfl)⟩
theorem JJ.a2 {P : Program} {w W : World} {m : Sm} {s : Ss} {v : Value} {L : Nat → Bool} {x : Nat → Value} (h : JJ w m s v L x W) (hd : L 21 = false) (hb : L 20 = true) (hs : L 30 = false) {by_ : Nat} {z : Value} (t ty e : TypeId) (ht : P.underlying t = some (.slice e)) (hinf : (P.info? e).map (fun i => (i.zero, i.size, i.bytes)) = some (some z, 1, by_)) (hzc : z.cells.size = 1) (h1 : (v : Value).oneCell' = true) (hml : s.T.length + 1 ≤ maxLen) (hr : (s.T.length + 1) * by_ ≤ 140737488355328) :
    ∃ y W', (Builtin.append_ #[t, t] ty #[.slice m.st s.T.length m.ct, x 20]).run P W = .ok y W' ∧ JJ w m s v (updL L 21) (updS x 21 y) W' := by
  obtain ⟨B, D, h⟩ := h
  obtain ⟨y, W', B', hrun, hJ⟩ := h.appd (P := P) (j := 2) (by decide) hd hb hs (u := v) t ty e ht hinf hzc rfl h1 hml hr
  exact ⟨y, W', hrun, _, _, hJ.as (fn3_c rfl rfl rfl) (fn3_c rfl rfl rfl) (fn3_c rfl rfl rfl) (fn3_c rfl rfl rfl) (fn3_c rfl rfl rfl)⟩
theorem JJ.x2 {w W : World} {m : Sm} {s : Ss} {v : Value} {L : Nat → Bool} {x : Nat → Value} (h : JJ w m s v L x W) (hd : L 20 = true) : ∃ g, x 20 = .slice (some ⟨g, 0, none⟩) 1 1 := by
  obtain ⟨B, D, h⟩ := h
  obtain ⟨g, hg, _⟩ := (h.bui 2 (by decide)).1 hd
  exact ⟨g, hg⟩
theorem JJ.y2 {w W : World} {m : Sm} {s : Ss} {v : Value} {L : Nat → Bool} {x : Nat → Value} (h : JJ w m s v L x W) (hd : L 21 = true) : ∃ sa' cap', x 21 = .slice sa' (s.T.length + 1) cap' := by
  obtain ⟨B, D, h⟩ := h
  obtain ⟨s', c', hg, _⟩ := (h.row 2 (by decide)).1 hd
  exact ⟨s', c', hg⟩
theorem JJ.s2 {w W : World} {m : Sm} {s : Ss} {v : Value} {L : Nat → Bool} {x : Nat → Value} (h : JJ w m s v L x W) (y : Value) : JJ w m s v (updL L 30) (updS x 30 y) (W.setCell ⟨m.p, 4, none⟩ (x 21)) := by
  obtain ⟨B, D, h⟩ := h
  exact ⟨_, _, (h.stored (j := 2) (by decide)).as (fn3_c rfl rfl rfl) (fn3_c rfl rfl rfl) (fn3_c rfl rfl rfl) (fn3_c rfl rfl rfl) (fn3_c rfl rfl rfl)⟩
theorem JJ.l2 {w W : World} {m : Sm} {s : Ss} {v : Value} {L : Nat → Bool} {x : Nat → Value} (h : JJ w m s v L x W) (hd : L 30 = false) : W.cell? ⟨m.p, 4, none⟩ = some (.slice m.st s.T.length m.ct) := by
  obtain ⟨B, D, h⟩ := h
  have := h.cel 2 (by decide)
  rw [if_neg (show ¬ fn3 (L 24) (L 27) (L 30) 2 = true by show ¬ L 30 = true; rw [hd]; simp)] at this
  exact this
theorem JJ.o2 {w W : World} {m : Sm} {s : Ss} {v : Value} {L : Nat → Bool} {x : Nat → Value} (h : JJ w m s v L x W) : ∃ u, W.cell? ⟨m.p, 4, none⟩ = some u := by
  obtain ⟨B, D, h⟩ := h
  exact ⟨_, h.cel 2 (by decide)⟩
/-! ### two stores, in either order -/
def S9 (s : Ss) (k : Nat) (v : Value) (b c : Bool) : Ss := { s with L := if b = true then s.L.set k true else s.L, T := if c = true then s.T.set k v else s.T }
theorem S9.l {s : Ss} {k : Nat} {v : Value} {b c : Bool} : (S9 s k v b c).L.length = s.L.length := by unfold S9; cases b <;> simp
theorem S9.t {s : Ss} {k : Nat} {v : Value} {b c : Bool} : (S9 s k v b c).T.length = s.T.length := by unfold S9; cases c <;> simp
theorem S9.setL {W : World} {m : Sm} {s : Ss} {k g : Nat} {v : Value} {c : Bool} (h : Sto W m (S9 s k v false c)) (hg : m.sl = some ⟨g, 0, none⟩) (hk : k < s.L.length) : Sto (W.setCell ⟨g, k, none⟩ (.bool true)) m (S9 s k v true c) := h.setL hg (by rw [S9.l]; exact hk) true
theorem S9.setT {W : World} {m : Sm} {s : Ss} {k g : Nat} {v : Value} {b : Bool} (h : Sto W m (S9 s k v b false)) (hg : m.st = some ⟨g, 0, none⟩) (hk : k < s.T.length) : Sto (W.setCell ⟨g, k, none⟩ v) m (S9 s k v b true) := h.setT hg (by rw [S9.t]; exact hk) v
theorem S9.c3 {W : World} {m : Sm} {s : Ss} {k : Nat} {v : Value} {b c : Bool} (h : Sto W m (S9 s k v b c)) : W.cell? ⟨m.p, 3, none⟩ = some (.slice m.sl s.L.length m.cl) := by have := h.c3; rwa [S9.l] at this
theorem S9.c4 {W : World} {m : Sm} {s : Ss} {k : Nat} {v : Value} {b c : Bool} (h : Sto W m (S9 s k v b c)) : W.cell? ⟨m.p, 4, none⟩ = some (.slice m.st s.T.length m.ct) := by have := h.c4; rwa [S9.t] at this
theorem S9.xl {W : World} {m : Sm} {s : Ss} {k g : Nat} {v : Value} {b c : Bool} (h : Sto W m (S9 s k v b c)) (hg : m.sl = some ⟨g, 0, none⟩) (hk : k < s.L.length) : (∃ u, W.cell? ⟨g, k, none⟩ = some u) ∧ W.frozen? ⟨g, k, none⟩ = false := by
  have h2 := h.rl
  rw [hg] at h2
  exact own_at h2.own (by rw [S9.l]; omega)
theorem S9.xt {W : World} {m : Sm} {s : Ss} {k g : Nat} {v : Value} {b c : Bool} (h : Sto W m (S9 s k v b c)) (hg : m.st = some ⟨g, 0, none⟩) (hk : k < s.T.length) : (∃ u, W.cell? ⟨g, k, none⟩ = some u) ∧ W.frozen? ⟨g, k, none⟩ = false := by
  have h2 := h.rt
  rw [hg] at h2
  exact own_at h2.own (by rw [S9.t]; omega)
theorem put_at {s : Ss} {k u : Nat} {v : Value} (hu : s.U[k]? = some u) : { S9 { s with U := s.U.set k (u + 1), nx := k } k v true true with ln := s.ln + 1 } = putS s k v := by
  have hlt := lt_of_get hu
  have hgd : s.U.getD k 0 = u := by rw [List.getD_eq_getElem?_getD, hu]; rfl
  unfold putS S9
  simp only [if_pos hlt, hgd, if_true]
theorem put_new {s : Ss} {v : Value} (hl : s.L.length = s.U.length) (ht : s.T.length = s.U.length) : { S9 { s with U := (s.U ++ [0]).set s.U.length 1, L := s.L ++ [false], T := s.T ++ [v], nx := s.U.length } s.U.length v true true with ln := s.ln + 1 } = putS s s.U.length v := by
  unfold putS S9
  simp only [if_neg (Nat.lt_irrefl _), if_true]
  have e1 : (s.U ++ [0]).set s.U.length 1 = s.U ++ [1] := by rw [List.set_append_right _ _ (Nat.le_refl _)]; simp
  have e2 : (s.L ++ [false]).set s.U.length true = s.L ++ [true] := by rw [← hl, List.set_append_right _ _ (Nat.le_refl _)]; simp
  have e3 : (s.T ++ [v]).set s.U.length v = s.T ++ [v] := by rw [← ht, List.set_append_right _ _ (Nat.le_refl _)]; simp
  rw [e1, e2, e3]
theorem q_end {W w : World} {q : Nat} (a b : Int) {x0 x1 : Value} (h0 : W.cell? ⟨q, 0, none⟩ = some x0) (h1 : W.cell? ⟨q, 1, none⟩ = some x1) {m : Sm} {s : Ss} (hS : Sto W m s) (hq : q ∉ m.F) {F : List Nat} (hF : Fr F m.F w W) (hw : w.heap.size ≤ q) : ∃ W', W' = (W.setCell ⟨q, 0, none⟩ (.int .u32 a)).setCell ⟨q, 1, none⟩ (.int .u32 b) ∧ W'.cell? ⟨q, 0, none⟩ = some (.int .u32 a) ∧ W'.cell? ⟨q, 1, none⟩ = some (.int .u32 b) ∧ Sto W' m s ∧ Fr F m.F w W' := by
  have f1 : Fr [q] [q] W ((W.setCell ⟨q, 0, none⟩ (.int .u32 a)).setCell ⟨q, 1, none⟩ (.int .u32 b)) := ((Fr.refl [q] W).set (.inl (by simp)) 0 _).set (.inl (by simp)) 1 _
  refine ⟨_, rfl, ?_, ?_, hS.fr f1 (fun k hk => by intro hm; simp at hm; exact hq (hm ▸ hk)), (hF.set (.inr hw) 0 _).set (.inr hw) 1 _⟩
  · rw [set_away (by decide)]; exact World.cell?_setCell_same _ _ _ h0
  · exact World.cell?_setCell_same' _ _ _ (by rw [set_away (by decide), h1]; rfl)
theorem Fr.in {F F' : List Nat} {a b : World} (h : Fr F F' a b) {k : Nat} (hk : k ∈ F') : k ∈ F ∨ a.heap.size ≤ k := h.grown k hk
end Go.Proofs.Ytnfhedmlifjlmaa
namespace Go.Proofs.Ytnfhedmlifjlmaa
open Ieee Go.RowKit Go.WideShapes
set_option linter.unusedSimpArgs false
set_option linter.unusedVariables false

/-! ### Handles that were told, and what became of them -/
def hRow (H : List (Nat × Nat)) : List Value := H.flatMap fun h => [.int .u32 (h.1 : Int), .int .u32 (h.2 : Int)]
def xRow (X : List Int) : List Value := X.map fun x => .int .i64 x
theorem hRow_len (H : List (Nat × Nat)) : (hRow H).length = H.length * 2 := by
  induction H with
  | nil => rfl
  | cons a H ih =>
    have : hRow (a :: H) = [.int .u32 (a.1 : Int), .int .u32 (a.2 : Int)] ++ hRow H := rfl
    rw [this, List.length_append, ih, List.length_cons]; simp only [List.length_cons, List.length_nil]; omega
theorem hRow_app (H K : List (Nat × Nat)) : hRow (H ++ K) = hRow H ++ hRow K := by simp [hRow]
theorem hRow_get (H : List (Nat × Nat)) (i a b : Nat) (h : H[i]? = some (a, b)) : (hRow H)[i * 2]? = some (.int .u32 (a : Int)) ∧ (hRow H)[i * 2 + 1]? = some (.int .u32 (b : Int)) := by
  induction H generalizing i with
  | nil => simp at h
  | cons c H ih =>
    have e : hRow (c :: H) = [.int .u32 (c.1 : Int), .int .u32 (c.2 : Int)] ++ hRow H := rfl
    cases i with
    | zero =>
      simp only [List.getElem?_cons_zero, Option.some.injEq] at h
      subst h
      exact ⟨rfl, rfl⟩
    | succ i =>
      simp only [List.getElem?_cons_succ] at h
      rw [e, List.getElem?_append_right (by simp; omega), List.getElem?_append_right (by simp; omega)]
      have := ih i h
      simp only [List.length_cons, List.length_nil]
      rw [show (i + 1) * 2 - (0 + 1 + 1) = i * 2 by omega, show (i + 1) * 2 + 1 - (0 + 1 + 1) = i * 2 + 1 by omega]
      exact this
theorem xRow_len (X : List Int) : (xRow X).length = X.length := by simp [xRow]
theorem xRow_app (X Y : List Int) : xRow (X ++ Y) = xRow X ++ xRow Y := by simp [xRow]
theorem xRow_get (X : List Int) (i : Nat) : (xRow X)[i]? = X[i]?.map fun x => .int .i64 x := by simp [xRow]
structure Ivs (s : Ss) (H : List (Nat × Nat)) (X : List Int) (B : List Bool) (N : Nat) : Prop where
  ok : Okk s
  lx : X.length = H.length
  lb : B.length = H.length
  sl : ∀ (k a b : Nat), H[k]? = some (a, b) → a < s.U.length ∧ b ≤ s.U.getD a 0 ∧ (B[k]? = some true ↔ Named s a b)
  th : ∀ (k a b : Nat) (x : Int), H[k]? = some (a, b) → B[k]? = some true → X[k]? = some x → Thing s a (.int .i64 x)
  ex : ∀ a : Nat, s.L[a]? = some true → ∃ k b : Nat, H[k]? = some (a, b) ∧ B[k]? = some true
  un : ∀ (k k' a b : Nat), H[k]? = some (a, b) → H[k']? = some (a, b) → k = k'
  ub : ∀ u ∈ s.U, u ≤ N
  hl : H.length ≤ N
  ct : s.ln = B.count true
theorem Ivs.start {most : Nat} (h1 : 1 ≤ most) (h2 : most ≤ 16384) : Ivs ⟨most, 0, 0, [], [], []⟩ [] [] [] 0 := by
  refine ⟨⟨h1, h2, by simp, rfl, rfl, (fun u hu => by cases hu), Nat.le_refl _, (fun i hi => absurd hi (Nat.not_lt_zero _)), rfl⟩, rfl, rfl, ?_, ?_, ?_, ?_, (fun u hu => by cases hu), Nat.le_refl _, rfl⟩
  · intro k a b h; simp at h
  · intro k a b x h; simp at h
  · intro a h; simp at h
  · intro k k' a b h; simp at h
theorem Ivs.more {s : Ss} {H : List (Nat × Nat)} {X : List Int} {B : List Bool} {N M : Nat} (h : Ivs s H X B N) (hM : N ≤ M) : Ivs s H X B M :=
  ⟨h.ok, h.lx, h.lb, h.sl, h.th, h.ex, h.un, fun u hu => Nat.le_trans (h.ub u hu) hM, Nat.le_trans h.hl hM, h.ct⟩
theorem Ivs.nx {s : Ss} {H : List (Nat × Nat)} {X : List Int} {B : List Bool} {N k : Nat} (h : Ivs s H X B N) (hk : NextIs s k) : Ivs { s with nx := k } H X B N :=
  ⟨⟨h.ok.m1, h.ok.m2, h.ok.um, h.ok.ll, h.ok.tl, h.ok.uo, hk.le, hk.fl, h.ok.lc⟩, h.lx, h.lb, h.sl, h.th, h.ex, h.un, h.ub, h.hl, h.ct⟩
/-- the next slot is the least that is not live -/
theorem Ivs.least {s : Ss} {H : List (Nat × Nat)} {X : List Int} {B : List Bool} {N k : Nat} (h : Ivs s H X B N) (hN : N ≤ 200) (hk : NextIs s k) : (∀ i, i < k → s.L[i]? = some true) ∧ s.L[k]? ≠ some true := by
  refine ⟨fun i hi => ?_, fun e => ?_⟩
  · rcases hk.fl i hi with hf | hf
    · exact hf
    · have := h.ub _ (List.mem_of_getElem? hf); omega
  · have hlt := lt_of_get e
    rw [h.ok.ll] at hlt
    exact hk.no hlt (.inl e)
theorem getD_lt {l : List Nat} {i u : Nat} (h : l[i]? = some u) : l.getD i 0 = u := by rw [List.getD_eq_getElem?_getD, h]; rfl
theorem getD_ge {l : List Nat} {i : Nat} (h : l.length ≤ i) : l.getD i 0 = 0 := by rw [List.getD_eq_getElem?_getD, List.getElem?_eq_none h]; rfl
theorem putS_L {s : Ss} (hl : s.L.length = s.U.length) {k : Nat} (hk : k ≤ s.U.length) (v : Value) (a : Nat) : (putS s k v).L[a]? = if a = k then some true else s.L[a]? := by
  unfold putS
  simp only
  by_cases e : a = k
  · subst e
    rw [if_pos rfl]
    split
    · exact List.getElem?_set_self (by omega)
    · rw [List.getElem?_append_right (by omega)]; rw [show a - s.L.length = 0 by omega]; rfl
  · rw [if_neg e]
    split
    · exact List.getElem?_set_ne (fun e' => e e'.symm)
    · by_cases h : a < s.L.length
      · exact List.getElem?_append_left h
      · rw [List.getElem?_eq_none (by simp; omega), List.getElem?_eq_none (by omega)]
theorem putS_U {s : Ss} {k : Nat} (hk : k ≤ s.U.length) (v : Value) (a : Nat) : (putS s k v).U[a]? = if a = k then some (s.U.getD k 0 + 1) else s.U[a]? := by
  unfold putS
  simp only
  by_cases e : a = k
  · subst e
    rw [if_pos rfl]
    split
    · rename_i h; exact List.getElem?_set_self h
    · rename_i h
      rw [List.getElem?_append_right (by omega), show a - s.U.length = 0 by omega, getD_ge (by omega)]; rfl
  · rw [if_neg e]
    split
    · exact List.getElem?_set_ne (fun e' => e e'.symm)
    · by_cases h : a < s.U.length
      · exact List.getElem?_append_left h
      · rw [List.getElem?_eq_none (by simp; omega), List.getElem?_eq_none (by omega)]
theorem putS_T {s : Ss} (ht : s.T.length = s.U.length) {k : Nat} (hk : k ≤ s.U.length) (v : Value) (a : Nat) : (putS s k v).T[a]? = if a = k then some v else s.T[a]? := by
  unfold putS
  simp only
  by_cases e : a = k
  · subst e
    rw [if_pos rfl]
    split
    · exact List.getElem?_set_self (by omega)
    · rw [List.getElem?_append_right (by omega)]; rw [show a - s.T.length = 0 by omega]; rfl
  · rw [if_neg e]
    split
    · exact List.getElem?_set_ne (fun e' => e e'.symm)
    · by_cases h : a < s.T.length
      · exact List.getElem?_append_left h
      · rw [List.getElem?_eq_none (by simp; omega), List.getElem?_eq_none (by omega)]
theorem putS_len {s : Ss} {k : Nat} (v : Value) : s.U.length ≤ (putS s k v).U.length := by
  unfold putS
  simp only
  split <;> simp
theorem snoc_get {α : Type} {l : List α} {x y : α} {k : Nat} (h : (l ++ [x])[k]? = some y) : (k < l.length ∧ l[k]? = some y) ∨ (k = l.length ∧ y = x) := by
  rcases Nat.lt_or_ge k l.length with h' | h'
  · rw [List.getElem?_append_left h'] at h; exact .inl ⟨h', h⟩
  · rw [List.getElem?_append_right h'] at h
    have hl := lt_of_get h
    simp at hl
    have e : k = l.length := by omega
    subst e
    simp at h
    exact .inr ⟨rfl, h.symm⟩
theorem Ivs.put {s : Ss} {H : List (Nat × Nat)} {X : List Int} {B : List Bool} {N k : Nat} (h : Ivs s H X B N) (hN : N ≤ 200) (hk : NextIs s k) (hm : k < s.most) (x : Int) : Ivs (putS s k (.int .i64 x)) (H ++ [(k, s.U.getD k 0 + 1)]) (X ++ [x]) (B ++ [true]) (N + 1) := by
  have hle := hk.le
  have hlv := (h.least hN hk).2
  have hL := putS_L h.ok.ll hle (.int .i64 x)
  have hU := putS_U hle (.int .i64 x)
  have hT := putS_T h.ok.tl hle (.int .i64 x)
  have hln := putS_len (s := s) (k := k) (.int .i64 x)
  have hlx := h.lx
  have hlb := h.lb
  have hku : k < (putS s k (.int .i64 x)).U.length := lt_of_get (a := s.U.getD k 0 + 1) (by rw [hU, if_pos rfl])
  have old : ∀ (j a b : Nat), H[j]? = some (a, b) → (Named (putS s k (.int .i64 x)) a b ↔ Named s a b) := by
    intro j a b hj
    obtain ⟨h1, h2, h3⟩ := h.sl j a b hj
    unfold Named
    rw [hL, hU]
    by_cases e : a = k
    · subst e
      rw [if_pos rfl, if_pos rfl]
      refine ⟨fun ⟨_, g⟩ => ?_, fun ⟨g, _⟩ => absurd g hlv⟩
      simp only [Option.some.injEq] at g
      omega
    · rw [if_neg e, if_neg e]
  refine ⟨h.ok.put hk hm _, by simp [hlx], by simp [hlb], ?_, ?_, ?_, ?_, ?_, ?_, ?_⟩
  · intro j a b hj
    rcases snoc_get hj with ⟨hjl, hj⟩ | ⟨rfl, e⟩
    · obtain ⟨h1, h2, h3⟩ := h.sl j a b hj
      refine ⟨by omega, ?_, ?_⟩
      · rw [List.getD_eq_getElem?_getD, hU]
        by_cases e : a = k
        · subst e; rw [if_pos rfl]; show b ≤ s.U.getD a 0 + 1; omega
        · rw [if_neg e, ← List.getD_eq_getElem?_getD]; exact h2
      · rw [List.getElem?_append_left (by omega), old j a b hj]; exact h3
    · cases e
      refine ⟨hku, ?_, ?_⟩
      · exact Nat.le_of_eq (getD_lt (by rw [hU, if_pos rfl])).symm
      · rw [← hlb, List.getElem?_append_right (Nat.le_refl _), Nat.sub_self]
        refine ⟨fun _ => ⟨by rw [hL, if_pos rfl], by rw [hU, if_pos rfl]⟩, fun _ => rfl⟩
  · intro j a b y hj hb hx
    rcases snoc_get hj with ⟨hjl, hj2⟩ | ⟨rfl, e⟩
    · rw [List.getElem?_append_left (by omega)] at hb hx
      have h1 := h.th j a b y hj2 hb hx
      unfold Thing at h1 ⊢
      rw [hT]
      by_cases e : a = k
      · subst e
        exact absurd (((h.sl j a b hj2).2.2.1 hb).1) hlv
      · rw [if_neg e]; exact h1
    · cases e
      rw [← hlx, List.getElem?_append_right (Nat.le_refl _), Nat.sub_self] at hx
      simp at hx
      subst hx
      unfold Thing
      rw [hT, if_pos rfl]
  · intro a ha
    rw [hL] at ha
    by_cases e : a = k
    · subst e
      exact ⟨H.length, s.U.getD a 0 + 1, by rw [List.getElem?_append_right (Nat.le_refl _), Nat.sub_self]; rfl, by rw [← hlb, List.getElem?_append_right (Nat.le_refl _), Nat.sub_self]; rfl⟩
    · rw [if_neg e] at ha
      obtain ⟨j, b, h1, h2⟩ := h.ex a ha
      have := lt_of_get h1
      exact ⟨j, b, by rw [List.getElem?_append_left this]; exact h1, by rw [List.getElem?_append_left (by omega)]; exact h2⟩
  · intro j j' a b h1 h2
    rcases snoc_get h1 with ⟨hl1, h1⟩ | ⟨e1, e1'⟩ <;> rcases snoc_get h2 with ⟨hl2, h2⟩ | ⟨e2, e2'⟩
    · exact h.un j j' a b h1 h2
    · cases e2'
      have := (h.sl j k _ h1).2.1
      omega
    · cases e1'
      have := (h.sl j' k _ h2).2.1
      omega
    · omega
  · intro u hu
    obtain ⟨i, hi⟩ := List.mem_iff_getElem?.1 hu
    rw [hU] at hi
    by_cases e : i = k
    · rw [if_pos e] at hi
      simp only [Option.some.injEq] at hi
      rcases Nat.lt_or_ge k s.U.length with h' | h'
      · obtain ⟨u', hu'⟩ := get_of_lt h'
        have := h.ub u' (List.mem_of_getElem? hu')
        rw [getD_lt hu'] at hi
        omega
      · rw [getD_ge h'] at hi; omega
    · rw [if_neg e] at hi
      have := h.ub u (List.mem_of_getElem? hi)
      omega
  · have := h.hl; simp; omega
  · show s.ln + 1 = (B ++ [true]).count true
    rw [List.count_append, h.ct]; rfl
theorem Ivs.take {s : Ss} {H : List (Nat × Nat)} {X : List Int} {B : List Bool} {N k a b : Nat} (h : Ivs s H X B N) (hk : H[k]? = some (a, b)) (hn : Named s a b) (z : Value) : Ivs (takeS s a z) H X (B.set k false) (N + 1) := by
  have hlb := h.lb
  have hkl := lt_of_get hk
  have hB := (h.sl k a b hk).2.2.2 hn
  have hal := lt_of_get hn.1
  have hL : ∀ i, (takeS s a z).L[i]? = if i = a then some false else s.L[i]? := fun i => by
    show (s.L.set a false)[i]? = _
    by_cases e : i = a
    · subst e; rw [if_pos rfl]; exact List.getElem?_set_self hal
    · rw [if_neg e]; exact List.getElem?_set_ne (fun e' => e e'.symm)
  have hBg : ∀ j, (B.set k false)[j]? = if j = k then some false else B[j]? := fun j => by
    by_cases e : j = k
    · subst e; rw [if_pos rfl]; exact List.getElem?_set_self (by omega)
    · rw [if_neg e]; exact List.getElem?_set_ne (fun e' => e e'.symm)
  have oth : ∀ (j a' b' : Nat), H[j]? = some (a', b') → j ≠ k → B[j]? = some true → a' ≠ a := by
    intro j a' b' hj hne hb e
    subst e
    have hn' := (h.sl j a' b' hj).2.2.1 hb
    have : b' = b := by have := hn'.2; rw [hn.2] at this; simpa using this.symm
    subst this
    exact hne (h.un j k a' b' hj hk)
  refine ⟨h.ok.take hn.1 z, h.lx, by simp [hlb], ?_, ?_, ?_, h.un, ?_, by have := h.hl; omega, ?_⟩
  · intro j a' b' hj
    obtain ⟨h1, h2, h3⟩ := h.sl j a' b' hj
    refine ⟨h1, h2, ?_⟩
    rw [hBg]
    unfold Named
    rw [hL]
    by_cases e : j = k
    · rw [if_pos e]
      subst e
      rw [hk] at hj
      cases hj
      rw [if_pos rfl]
      exact ⟨(fun h => by cases h), (fun h => by cases h.1)⟩
    · rw [if_neg e]
      by_cases e' : a' = a
      · rw [if_pos e']
        exact ⟨fun hb => absurd e' (oth j a' b' hj e hb), (fun h => by cases h.1)⟩
      · rw [if_neg e']; exact h3
  · intro j a' b' x hj hb hx
    rw [hBg] at hb
    by_cases e : j = k
    · rw [if_pos e] at hb; cases hb
    · rw [if_neg e] at hb
      have h1 := h.th j a' b' x hj hb hx
      unfold Thing at h1 ⊢
      show (s.T.set a z)[a']? = _
      rw [List.getElem?_set_ne (fun e' => oth j a' b' hj e hb e'.symm)]
      exact h1
  · intro a' ha
    rw [hL] at ha
    by_cases e : a' = a
    · rw [if_pos e] at ha; cases ha
    · rw [if_neg e] at ha
      obtain ⟨j, b', h1, h2⟩ := h.ex a' ha
      refine ⟨j, b', h1, ?_⟩
      rw [hBg, if_neg (fun ej => ?_)]
      · exact h2
      · subst ej; rw [hk] at h1; cases h1; exact e rfl
  · intro u hu
    have := h.ub u hu
    omega
  · show s.ln - 1 = (B.set k false).count true
    have := count_set_f hB
    have := h.ct
    omega
theorem set_false {B : List Bool} {k : Nat} (h : B[k]? ≠ some true) : B.set k false = B := by
  apply List.ext_getElem?
  intro i
  by_cases e : k = i
  · subst e
    rcases Nat.lt_or_ge k B.length with h' | h'
    · rw [List.getElem?_set_self h']
      obtain ⟨b, hb⟩ := get_of_lt h'
      rw [hb] at h ⊢
      cases b <;> simp_all
    · rw [List.getElem?_eq_none (by simp; omega), List.getElem?_eq_none h']
  · exact List.getElem?_set_ne e
/-! ### which slots are used -/
def UsedTo (H : List (Nat × Nat)) (B : List Bool) (k : Nat) (D : List Bool) : Prop := ∀ i, i < D.length → (D[i]? = some true ↔ ∃ j b : Nat, j < k ∧ H[j]? = some (i, b) ∧ B[j]? = some true)
theorem used_nil (H : List (Nat × Nat)) (B : List Bool) (n : Nat) : UsedTo H B 0 (List.replicate n false) := by
  intro i hi
  simp at hi
  refine ⟨fun h => ?_, fun ⟨j, _, h, _⟩ => absurd h (Nat.not_lt_zero _)⟩
  rw [List.getElem?_replicate, if_pos hi] at h
  cases h
theorem UsedTo.no {H : List (Nat × Nat)} {B D : List Bool} {k : Nat} (h : UsedTo H B k D) (hb : B[k]? ≠ some true) : UsedTo H B (k + 1) D := fun i hi => by
  rw [h i hi]
  refine ⟨fun ⟨j, b, h1, h2⟩ => ⟨j, b, by omega, h2⟩, fun ⟨j, b, h1, h2, h3⟩ => ⟨j, b, ?_, h2, h3⟩⟩
  rcases Nat.lt_or_ge j k with h' | h'
  · exact h'
  · have : j = k := by omega
    subst this
    exact absurd h3 hb
theorem UsedTo.yes {H : List (Nat × Nat)} {B D : List Bool} {k a b : Nat} (h : UsedTo H B k D) (hk : H[k]? = some (a, b)) (hb : B[k]? = some true) : UsedTo H B (k + 1) (D.set a true) := fun i hi => by
  simp only [List.length_set] at hi
  by_cases e : a = i
  · subst e
    rw [List.getElem?_set_self hi]
    exact ⟨fun _ => ⟨k, b, by omega, hk, hb⟩, fun _ => rfl⟩
  · rw [List.getElem?_set_ne e, h i hi]
    refine ⟨fun ⟨j, b, h1, h2⟩ => ⟨j, b, by omega, h2⟩, fun ⟨j, b', h1, h2, h3⟩ => ⟨j, b', ?_, h2, h3⟩⟩
    rcases Nat.lt_or_ge j k with h' | h'
    · exact h'
    · have : j = k := by omega
      subst this
      rw [hk] at h2
      cases h2
      exact absurd rfl e
/-- all gone through: used is live -/
theorem UsedTo.live {s : Ss} {H : List (Nat × Nat)} {X : List Int} {B D : List Bool} {N : Nat} (h : UsedTo H B H.length D) (hi : Ivs s H X B N) {i : Nat} (hl : i < D.length) : D[i]? = some true ↔ s.L[i]? = some true := by
  rw [h i hl]
  refine ⟨fun ⟨j, b, _, h1, h2⟩ => (((hi.sl j i b h1).2.2).1 h2).1, fun h1 => ?_⟩
  obtain ⟨k, b, h2, h3⟩ := hi.ex i h1
  exact ⟨k, b, lt_of_get h2, h2, h3⟩
theorem count_take {B : List Bool} {k : Nat} {b : Bool} (h : B[k]? = some b) : (B.take (k + 1)).count true = (B.take k).count true + if b = true then 1 else 0 := by
  rw [List.take_add_one, h, List.count_append]
  cases b <;> rfl
end Go.Proofs.Ytnfhedmlifjlmaa
namespace Go.Proofs.Ytnfhedmlifjlmaa
open Ieee Go.RowKit Go.WideShapes
set_option linter.unusedSimpArgs false
set_option linter.unusedVariables false

theorem Fr.part {F F' G G' : List Nat} {a b : World} (h : Fr F F' a b) (h1 : ∀ k, k ∈ F → k ∈ G) (h2 : ∀ k, k ∈ G' → k ∈ G ∨ k ∈ F') : Fr G G' a b :=
  ⟨h.os, h.tape, h.output, h.size, fun k hk hn => h.block k hk (fun hm => hn (h1 k hm)), fun k hk => by
    rcases h2 k hk with h' | h'
    · exact .inl h'
    · rcases h.grown k h' with h'' | h''
      · exact .inl (h1 k h'')
      · exact .inr h''⟩
theorem wpList_run {P : Program} {w w' : World} {v u v' : Value} {ops : Array Oper} {rest : List Oper} {o : Oper} {a : Act} {Q : Exit → Act → World → Prop} (t : TypeId) (s x : Operand) (hgd : o.guard = none) (ho : o.op = .call { callee := .builtin .append, args := #[s, x], argTypes := #[t, t] }) (hs : a.eval s = v) (hx : a.eval x = u)
    (hrun : (Builtin.append_ #[t, t] o.type #[v, u]).run P w = .ok v' w') (hK : wpList P ops Q rest (a.put o.dst v') w') : wpList P ops Q (o :: rest) a w := by
  refine wpList_plain hgd fun K hK' => ?_
  unfold Oper.wp
  simp [execOp, ho, resolve, invoke, builtin, hs, hx, hrun, Result.andThen]
  exact hK' _ _ hK
structure On (w0 W : World) (m : Sm) (s : Ss) (sh : Option Addr) (ch : Nat) (sx : Option Addr) (cx : Nat) (sb : Option Addr) (cb : Nat) (H : List (Nat × Nat)) (X : List Int) (B : List Bool) : Prop where
  st : Sto W m s
  rh : Ro 2 W sh H.length ch (hRow H)
  rx : Ro 1 W sx X.length cx (xRow X)
  rb : Ro 1 W sb B.length cb (lRow B)
  d1 : ∀ k, k ∈ ob sh → k ∉ m.F ∧ k ∉ ob sx ∧ k ∉ ob sb
  d2 : ∀ k, k ∈ ob sx → k ∉ m.F ∧ k ∉ ob sb
  d3 : ∀ k, k ∈ ob sb → k ∉ m.F
  fr : Fr [] (m.F ++ (ob sh ++ (ob sx ++ ob sb))) w0 W
variable {w0 W W' : World} {m m' : Sm} {s s' : Ss} {sh sx sb sh' sx' sb' : Option Addr} {ch cx cb ch' cx' cb' : Nat} {H H' : List (Nat × Nat)} {X X' : List Int} {B B' : List Bool}
theorem On.start {p : Nat} (hS : Sto W ⟨p, none, 0, none, 0, none, 0⟩ s) (hp : w0.heap.size ≤ p) (hb : Below w0.heap.size w0 W) : On w0 W ⟨p, none, 0, none, 0, none, 0⟩ s none 0 none 0 none 0 [] [] [] :=
  ⟨hS, Ro.nil _ _, Ro.nil _ _, Ro.nil _ _, (fun k hk => by cases hk), (fun k hk => by cases hk), (fun k hk => by cases hk), ⟨hb.os, hb.tape, hb.output, hb.size, fun k hk _ => hb.block k hk, fun k hk => .inr (by simp [Sm.F, ob] at hk; omega)⟩⟩
theorem On.fr' (h : On w0 W m s sh ch sx cx sb cb H X B) {F F' : List Nat} (f : Fr F F' W W') (h1 : ∀ k, k ∈ F → k ∉ m.F ∧ k ∉ ob sh ∧ k ∉ ob sx ∧ k ∉ ob sb) (h2 : ∀ k, k ∈ F → w0.heap.size ≤ k) : On w0 W' m s sh ch sx cx sb cb H X B :=
  ⟨h.st.fr f (fun k hk hm => (h1 k hm).1 hk), h.rh.fr f (fun k hk hm => (h1 k hm).2.1 hk), h.rx.fr f (fun k hk hm => (h1 k hm).2.2.1 hk), h.rb.fr f (fun k hk hm => (h1 k hm).2.2.2 hk), h.d1, h.d2, h.d3,
   ⟨f.os.trans h.fr.os, f.tape.trans h.fr.tape, f.output.trans h.fr.output, Nat.le_trans h.fr.size f.size, fun k hk hn => (f.block k (Nat.lt_of_lt_of_le hk h.fr.size) (fun hm => by have := h2 k hm; omega)).trans (h.fr.block k hk hn), h.fr.grown⟩⟩
theorem On.bel (h : On w0 W m s sh ch sx cx sb cb H X B) (f : Bel W W') : On w0 W' m s sh ch sx cx sb cb H X B := h.fr' (Fr.of_bel (F := []) f) (fun k hk => by cases hk) (fun k hk => by cases hk)
theorem On.low (h : On w0 W m s sh ch sx cx sb cb H X B) : Below w0.heap.size w0 W := h.fr.below (Nat.le_refl _) (fun k hk => by cases hk)
theorem On.sto (h : On w0 W m s sh ch sx cx sb cb H X B) (hS : Sto W' m' s') (f : Fr m.F m'.F W W') : On w0 W' m' s' sh ch sx cx sb cb H X B :=
  ⟨hS, h.rh.fr f (fun k hk => (h.d1 k hk).1), h.rx.fr f (fun k hk => (h.d2 k hk).1), h.rb.fr f (fun k hk => h.d3 k hk),
   fun k hk => ⟨f.away (h.rh.lt k hk) (h.d1 k hk).1, (h.d1 k hk).2⟩, fun k hk => ⟨f.away (h.rx.lt k hk) (h.d2 k hk).1, (h.d2 k hk).2⟩, fun k hk => f.away (h.rb.lt k hk) (h.d3 k hk),
   h.fr.trans (f.part (fun k hk => by simp [hk]) (fun k hk => by simp only [List.mem_append] at hk ⊢; rcases hk with hk | hk; exact .inr hk; exact .inl (.inr hk)))⟩
theorem On.appH (h : On w0 W m s sh ch sx cx sb cb H X B) (hR : Ro 2 W' sh' H'.length ch' (hRow H')) (f : Fr (ob sh) (ob sh') W W') : On w0 W' m s sh' ch' sx cx sb cb H' X B :=
  ⟨h.st.fr f (fun k hk hm => (h.d1 k hm).1 hk), hR, h.rx.fr f (fun k hk hm => (h.d1 k hm).2.1 hk), h.rb.fr f (fun k hk hm => (h.d1 k hm).2.2 hk),
   fun k hk => by
    rcases f.grown k hk with h' | h'
    · exact h.d1 k h'
    · exact ⟨fun e => by have := h.st.sz k e; omega, fun e => by have := h.rx.lt k e; omega, fun e => by have := h.rb.lt k e; omega⟩,
   h.d2, h.d3, h.fr.trans (f.part (fun k hk => by simp [hk]) (fun k hk => by simp only [List.mem_append] at hk ⊢; rcases hk with hk | hk | hk; exact .inl (.inl hk); exact .inr hk; exact .inl (.inr (.inr hk))))⟩
theorem On.appX (h : On w0 W m s sh ch sx cx sb cb H X B) (hR : Ro 1 W' sx' X'.length cx' (xRow X')) (f : Fr (ob sx) (ob sx') W W') : On w0 W' m s sh ch sx' cx' sb cb H X' B :=
  ⟨h.st.fr f (fun k hk hm => (h.d2 k hm).1 hk), h.rh.fr f (fun k hk hm => (h.d1 k hk).2.1 hm), hR, h.rb.fr f (fun k hk hm => (h.d2 k hm).2 hk),
   fun k hk => ⟨(h.d1 k hk).1, f.away (h.rh.lt k hk) (h.d1 k hk).2.1, (h.d1 k hk).2.2⟩,
   fun k hk => by
    rcases f.grown k hk with h' | h'
    · exact h.d2 k h'
    · exact ⟨fun e => by have := h.st.sz k e; omega, fun e => by have := h.rb.lt k e; omega⟩,
   h.d3, h.fr.trans (f.part (fun k hk => by simp [hk]) (fun k hk => by simp only [List.mem_append] at hk ⊢; rcases hk with hk | hk | hk | hk; exact .inl (.inl hk); exact .inl (.inr (.inl hk)); exact .inr hk; exact .inl (.inr (.inr (.inr hk)))))⟩
theorem On.appB (h : On w0 W m s sh ch sx cx sb cb H X B) (hR : Ro 1 W' sb' B'.length cb' (lRow B')) (f : Fr (ob sb) (ob sb') W W') : On w0 W' m s sh ch sx cx sb' cb' H X B' :=
  ⟨h.st.fr f (fun k hk hm => h.d3 k hm hk), h.rh.fr f (fun k hk hm => (h.d1 k hk).2.2 hm), h.rx.fr f (fun k hk hm => (h.d2 k hk).2 hm), hR,
   fun k hk => ⟨(h.d1 k hk).1, (h.d1 k hk).2.1, f.away (h.rh.lt k hk) (h.d1 k hk).2.2⟩,
   fun k hk => ⟨(h.d2 k hk).1, f.away (h.rx.lt k hk) (h.d2 k hk).2⟩,
   fun k hk => by
    rcases f.grown k hk with h' | h'
    · exact h.d3 k h'
    · exact fun e => by have := h.st.sz k e; omega,
   h.fr.trans (f.part (fun k hk => by simp [hk]) (fun k hk => by simp only [List.mem_append] at hk ⊢; rcases hk with hk | hk | hk | hk; exact .inl (.inl hk); exact .inl (.inr (.inl hk)); exact .inl (.inr (.inr (.inl hk))); exact .inr hk))⟩
theorem On.setB (h : On w0 W m s sh ch sx cx sb cb H X B) {g k : Nat} (hg : sb = some ⟨g, 0, none⟩) (hk : k < B.length) (b : Bool) : On w0 (W.setCell ⟨g, k, none⟩ (.bool b)) m s sh ch sx cx sb cb H X (B.set k b) := by
  have hr := h.rb
  rw [hg] at hr
  have h1 := hr.put (o := k) (by omega) (.bool b)
  rw [lRow_set] at h1
  refine h.appB (sb' := sb) (B' := B.set k b) (by rw [List.length_set, hg]; exact h1) ?_
  rw [hg]
  exact (Fr.refl _ _).set (.inl (by simp [ob])) _ _
theorem Ro.new1 {W : World} (cs : List Value) (t : TypeId) (hm : cs.length ≤ maxLen) : Ro 1 (W.alloc (.cells cs.toArray t)) (some ⟨W.heap.size, 0, none⟩) cs.length cs.length cs :=
  ⟨ownR_new (by simp) (Nat.zero_le _) (Nat.le_refl _) hm (by simp) (fun j u hj => by simpa using hj), fun k hk => by simp only [ob, List.mem_cons, List.not_mem_nil, or_false] at hk; subst hk; simp⟩
end Go.Proofs.Ytnfhedmlifjlmaa
