/-
  Plain facts on floats, more: rounding to the nearest rung, sums and products of finite floats, signs turned. No program is named here.
-/
import Derived.Test.YtekhnolpgoejdabGsv
import Derived.Laws.AppendOwn
import Derived.Laws.IdiomCopy
import Derived.OwnWalk
import Derived.WideShapes
namespace Go.Proofs.Ytekhnolpgoejdab
open Ieee Go.RowKit Go.WideShapes
set_option linter.unusedSimpArgs false
set_option linter.unusedVariables false

/-! ### append: all but the row's own block stays, whatever it is -/
def vb : Value → Option Nat
  | .slice (some a) _ _ => some a.block
  | _ => none
structure Oh (v : Value) (w w' : World) : Prop where
  os : w'.os = w.os
  tape : w'.tape = w.tape
  output : w'.output = w.output
  size : w.heap.size ≤ w'.heap.size
  block : ∀ k, k < w.heap.size → vb v ≠ some k → w'.heap[k]? = w.heap[k]?
theorem oh_new (v : Value) (w : World) (cs : Array Value) (e : TypeId) : Oh v w (w.drew.alloc (.cells cs e)) := by
  have h := (Below.refl w.heap.size w).drew.alloc (Nat.le_refl _) (.cells cs e)
  exact ⟨h.os, h.tape, h.output, h.size, fun k hk _ => h.block k hk⟩
theorem heap_sets (g : Nat) : ∀ (vs : List Value) (o : Nat) (w : World) (k : Nat), k ≠ g → (w.setCells g o vs).heap[k]? = w.heap[k]? := by
  intro vs
  induction vs with
  | nil => intro o w k _; rfl
  | cons u vs ih =>
    intro o w k hk
    rw [World.setCells, ih _ _ _ hk]
    exact Below.heap_setCell w _ _ k hk
theorem oh_sets (g cap n o : Nat) (vs : List Value) (w : World) : Oh (.slice (some ⟨g, 0, none⟩) n cap) w (w.setCells g o vs) := by
  have h := low_sets vs o w (Nat.zero_le g)
  exact ⟨h.os, h.tape, h.output, h.size, fun k hk hn => heap_sets g vs o w k (fun e => hn (by rw [e]; rfl))⟩
theorem run_appU {P : Program} {sz by_ base : Nat} {w : World} {v z : Value} {n : Nat} {R N : List Value} (t ty e : TypeId) (ht : P.underlying t = some (.slice e)) (hinf : (P.info? e).map (fun i => (i.zero, i.size, i.bytes)) = some (some z, sz, by_)) (hzc : z.cells.size = sz)
    (a ao m c : Nat) (h : OwnR sz base w v n R) (hN : N.length = m * sz) (hs : Rw w a ao N) (h1 : ∀ u ∈ N, u.oneCell' = true) (hm : 0 < m) (hb : base ≤ w.heap.size) (hml : n + m ≤ maxLen) (hr : (n + m) * by_ ≤ 140737488355328) :
    ∃ v' w', (Builtin.append_ #[t, t] ty #[v, .slice (some ⟨a, ao, none⟩) m c]).run P w = .ok v' w' ∧ OwnR sz base w' v' (n + m) (R ++ N) ∧ (∃ g cap, v' = .slice (some ⟨g, 0, none⟩) (n + m) cap ∧ (w.heap.size ≤ g ∨ ∃ cp, v = .slice (some ⟨g, 0, none⟩) n cp)) ∧ Oh v w w' := by
  obtain ⟨i0, hi, hz0, hz1, hz2⟩ := info_parts hinf
  have hsr : ∀ j u, N[j]? = some u → w.cell? ((⟨a, ao, none⟩ : Addr).add j) = some u := fun j u hj => by rw [add_plain]; exact hs j u hj
  have hmx : maxLen ≤ 9223372036854775807 := by unfold maxLen; decide
  have zs : ∀ k, (Builtin.zeroCells z.cells k).size = k * sz := fun k => by rw [size_zeroCells, hzc]
  have hRN : (R ++ N).length = (n + m) * sz := by rw [List.length_append, h.1, hN, Nat.add_mul]
  have grown : ∀ old, OwnR sz base (w.drew.alloc (.cells (R.toArray ++ N.toArray ++ Builtin.zeroCells z.cells (grownCap w (n + m) old e - (n + m))) e)) (.slice (some ⟨w.heap.size, 0, none⟩) (n + m) (grownCap w (n + m) old e)) (n + m) (R ++ N) := by
    intro old
    have hge := grownCap_ge w (n + m) old e
    have hcm := grownCap_le_maxLen w (n + m) old e hml
    refine ownR_new (w := w.drew) hRN hb hge hcm ?_ (fun j u hj => ?_)
    · simp only [Array.size_append, List.size_toArray, zs]
      rw [h.1, hN, ← Nat.add_mul, ← Nat.add_mul]
      congr 1
      omega
    · have hjl : j < (R ++ N).length := by
        rcases Nat.lt_or_ge j (R ++ N).length with h' | h'
        · exact h'
        · rw [List.getElem?_eq_none h'] at hj; cases hj
      rw [Array.getElem?_append_left (by simpa using hjl), show R.toArray ++ N.toArray = (R ++ N).toArray by simp, List.getElem?_toArray]
      exact hj
  have ohnew : ∀ cs, Oh v w (w.drew.alloc (.cells cs e)) := fun cs => oh_new v w cs e
  rcases h.2 with ⟨rfl, rfl⟩ | ⟨g, cap, rfl, h1', h2, h3, h4, h5, h6⟩
  · have hR0 : R = [] := by have := h.1; simpa using this
    subst hR0
    have hr' := run_append_nil (P := P) w t ty e i0 z ht hi hz0 ⟨a, ao, none⟩ m c N (by rw [hz1, hN]) hsr hm (by omega) (by rw [hz2]; simp at hr; omega)
    have hg := grown 0
    simp only [Nat.zero_add, List.nil_append] at hg ⊢
    refine ⟨_, _, hr', ?_, ⟨_, _, rfl, .inl (Nat.le_refl _)⟩, ohnew _⟩
    simpa using hg
  · by_cases hroom : n + m ≤ cap
    · have hx : ∀ j, j < N.length → (w.cell? ⟨g, n * sz + j, none⟩).isSome = true := fun j hj => h5 _ (by
        rw [hN] at hj
        have : (n + m) * sz ≤ cap * sz := Nat.mul_le_mul_right _ hroom
        rw [Nat.add_mul] at this
        omega)
      have hf1 := run_firstCells_some (P := P) w sz m ⟨a, ao, none⟩ m c N hN hsr
      have hst := run_storeCells_cells (P := P) g (n * sz) N 0 w (by simpa using hx) (fun j _ => h6 _) h1
      simp only [Nat.add_zero] at hst
      refine ⟨_, w.setCells g (n * sz) N, ?_, ⟨hRN, .inr ⟨g, cap, rfl, h1', hroom, h3, ?_, fun j hj => some_setsR _ _ _ (h5 j hj), fun o => (World.frozen?_setCells g _ _ _ _).trans (h6 o)⟩⟩, ⟨_, _, rfl, .inr ⟨_, rfl⟩⟩, oh_sets g _ _ _ _ w⟩
      · simp [Builtin.append_, run_underlying ht, sizeOf, typeInfo, hi, hz1, Builtin.lenOf, hroom, hf1, add_plain, hst]
      · intro j u hj
        rw [Nat.zero_add]
        by_cases hjn : j < R.length
        · rw [List.getElem?_append_left hjn] at hj
          rw [World.cell?_setCells_out g _ _ _ ⟨g, j, none⟩ (fun _ _ => .inl (by show j < n * sz; rw [← h.1]; exact hjn))]
          have := h4 j u hj
          rwa [Nat.zero_add] at this
        · obtain ⟨q, rfl⟩ : ∃ q, j = R.length + q := ⟨j - R.length, by omega⟩
          rw [List.getElem?_append_right (by omega), Nat.add_sub_cancel_left] at hj
          have hq : q < N.length := by
            rcases Nat.lt_or_ge q N.length with h' | h'
            · exact h'
            · rw [List.getElem?_eq_none h'] at hj; cases hj
          rw [h.1, World.cell?_setCells_in g _ _ w hx q hq]
          rw [List.getElem?_eq_getElem hq] at hj
          exact hj
    · have hr' := run_append_grow (P := P) w t ty e i0 z ht hi hz0 ⟨g, 0, none⟩ n cap R (by rw [hz1]; exact h.1) (fun j u hj => by rw [add_plain]; exact h4 j u hj) ⟨a, ao, none⟩ m c N (by rw [hz1, hN]) hsr (by omega) (by omega) (by rw [hz2]; exact growslice_fits (by omega) hr)
      exact ⟨_, _, hr', grown cap, ⟨_, _, rfl, .inl (Nat.le_refl _)⟩, ohnew _⟩
theorem wpList_appU {P : Program} {sz by_ base : Nat} {w : World} {v z : Value} {n : Nat} {R N : List Value} {ops : Array Oper} {rest : List Oper} {o : Oper} {a : Act} {Q : Exit → Act → World → Prop} (t e : TypeId) (hgd : o.guard = none) (s x : Operand)
    (ho : o.op = .call { callee := .builtin .append, args := #[s, x], argTypes := #[t, t] }) (ht : P.underlying t = some (.slice e)) (hinf : (P.info? e).map (fun i => (i.zero, i.size, i.bytes)) = some (some z, sz, by_)) (hzc : z.cells.size = sz)
    (hv : a.eval s = v) (b ao m c : Nat) (hx : a.eval x = .slice (some ⟨b, ao, none⟩) m c) (h : OwnR sz base w v n R) (hN : N.length = m * sz) (hs : Rw w b ao N) (h1 : ∀ u ∈ N, u.oneCell' = true) (hm : 0 < m) (hb : base ≤ w.heap.size) (hml : n + m ≤ maxLen) (hr : (n + m) * by_ ≤ 140737488355328)
    (hK : ∀ v' w', OwnR sz base w' v' (n + m) (R ++ N) → (∃ g cap, v' = .slice (some ⟨g, 0, none⟩) (n + m) cap ∧ (w.heap.size ≤ g ∨ ∃ cp, v = .slice (some ⟨g, 0, none⟩) n cp)) → Oh v w w' → wpList P ops Q rest (a.put o.dst v') w') : wpList P ops Q (o :: rest) a w := by
  obtain ⟨v', w', hrun, h1', h2, h3⟩ := run_appU t o.type e ht hinf hzc b ao m c h hN hs h1 hm hb hml hr
  refine wpList_plain hgd fun K hK' => ?_
  unfold Oper.wp
  simp [execOp, ho, resolve, invoke, builtin, hv, hx, hrun, Result.andThen]
  exact hK' _ _ (hK v' w' h1' h2 h3)
/-- what a row of its own, that grows, and the struct at gb, may turn: all else stays -/
structure Mov (gb : Nat) (w : World) (v : Value) (w' : World) (u : Value) : Prop where
  os : w'.os = w.os
  tape : w'.tape = w.tape
  output : w'.output = w.output
  size : w.heap.size ≤ w'.heap.size
  block : ∀ k, k < w.heap.size → k ≠ gb → vb v ≠ some k → w'.heap[k]? = w.heap[k]?
  old : ∀ k, k < w.heap.size → vb u = some k → vb v = some k
theorem Mov.refl (gb : Nat) (w : World) (v : Value) : Mov gb w v w v := ⟨rfl, rfl, rfl, Nat.le_refl _, fun _ _ _ _ => rfl, fun _ _ h => h⟩
theorem Mov.trans {gb : Nat} {a b c : World} {u v x : Value} (h : Mov gb a u b v) (k : Mov gb b v c x) : Mov gb a u c x :=
  ⟨k.os.trans h.os, k.tape.trans h.tape, k.output.trans h.output, Nat.le_trans h.size k.size, fun i hi hg hv => (k.block i (Nat.lt_of_lt_of_le hi h.size) hg (fun e => hv (h.old i hi e))).trans (h.block i hi hg hv), fun i hi e => h.old i hi (k.old i (Nat.lt_of_lt_of_le hi h.size) e)⟩
theorem Mov.of_bel {gb : Nat} {a b : World} {v : Value} (h : Bel a b) : Mov gb a v b v := ⟨h.1.os, h.1.tape, h.1.output, h.1.size, fun k hk _ _ => h.1.block k hk, fun _ _ e => e⟩
theorem Mov.of_app {gb : Nat} {w w' : World} {v : Value} {n m g cap : Nat} (h : Oh v w w') (hg : w.heap.size ≤ g ∨ ∃ cp, v = .slice (some ⟨g, 0, none⟩) n cp) : Mov gb w v w' (.slice (some ⟨g, 0, none⟩) m cap) :=
  ⟨h.os, h.tape, h.output, h.size, fun k hk _ hv => h.block k hk hv, fun k hk e => by
    have e : g = k := by simpa [vb] using e
    rcases hg with hg | ⟨cp, rfl⟩
    · omega
    · rw [← e]; rfl⟩
theorem Mov.set {gb : Nat} {a b : World} {v u : Value} (h : Mov gb a v b u) {o : Nat} (x : Value) : Mov gb a v (b.setCell ⟨gb, o, none⟩ x) u := by
  have h2 := (Below.refl 0 b).setCell (p := ⟨gb, o, none⟩) (Nat.zero_le _) x
  exact ⟨h2.os.trans h.os, h2.tape.trans h.tape, h2.output.trans h.output, Nat.le_trans h.size h2.size, fun k hk hg hv => (Below.heap_setCell b _ _ k hg).trans (h.block k hk hg hv), h.old⟩
theorem Mov.cell {gb : Nat} {a b : World} {v u : Value} (h : Mov gb a v b u) {k o : Nat} (hk : k < a.heap.size) (hg : k ≠ gb) (hv : vb v ≠ some k) : b.cell? ⟨k, o, none⟩ = a.cell? ⟨k, o, none⟩ := by
  simp only [World.cell?, h.block k hk hg hv]
/-- what lies below N, where the row lies above, stays but the struct -/
theorem Mov.sta {gb N : Nat} {a b : World} {v u : Value} (h : Mov gb a v b u) (hN : N ≤ a.heap.size) (hv : ∀ k, vb v = some k → N ≤ k) : Sta N (· = gb) a b :=
  ⟨h.os, h.tape, h.output, h.size, fun k hk hg => h.block k (by omega) hg (fun e => by have := hv k e; omega)⟩
theorem G6.oh {w w' : World} {gb : Nat} {v v0 v1 v2 v3 v4 v5 : Value} (h : G6 w gb v0 v1 v2 v3 v4 v5) (b : Oh v w w') (hv : vb v ≠ some gb) : G6 w' gb v0 v1 v2 v3 v4 v5 :=
  h.same (fun o => by simp only [World.cell?, b.block gb h.lt hv]) (fun o => by simp only [World.frozen?, b.block gb h.lt hv])
theorem own_vb {sz base : Nat} {w : World} {v : Value} {n : Nat} {R : List Value} (h : OwnR sz base w v n R) : ∀ k, vb v = some k → base ≤ k := by
  intro k e
  rcases h.2 with ⟨rfl, _⟩ | ⟨g, cap, rfl, h1, _⟩
  · cases e
  · have : g = k := by simpa [vb] using e
    omega
theorem own_lt {sz base : Nat} {w : World} {v : Value} {n : Nat} {R : List Value} (h : OwnR sz base w v n R) (h0 : n ≠ 0 ∨ v = .slice none 0 0) (hz : 0 < sz) : ∀ k, vb v = some k → k < w.heap.size := by
  intro k e
  rcases own_split h hz with ⟨hn, _⟩ | ⟨_, g, cap, rfl, _, hg, _⟩
  · rcases h0 with h0 | h0
    · exact absurd hn h0
    · rw [h0] at e; cases e
  · have : g = k := by simpa [vb] using e
    omega
end Go.Proofs.Ytekhnolpgoejdab
