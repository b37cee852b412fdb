/-
  Plain facts on floats, more: rounding to the nearest rung, sums and products of finite floats, signs turned. No program is named here.
-/
import Derived.Test.YtoofbfjlgablkaaFlt
import Derived.Laws.AppendOwn
import Derived.Laws.IdiomCopy
import Derived.OwnWalk
import Derived.WideShapes
namespace Go.Proofs.Ytoofbfjlgablkaa
open Ieee Go.RowKit Go.WideShapes
set_option linter.unusedSimpArgs false
set_option linter.unusedVariables false

/-! ### Rows of a call's own, of elements of any number of cells: what append does to them, told by their cells -/
/-- cells that lie one behind the other -/
def Rw (w : World) (b off : Nat) (R : List Value) : Prop := ∀ (j : Nat) (u : Value), R[j]? = some u → w.cell? ⟨b, off + j, none⟩ = some u
theorem Rw.bel {w w' : World} {b off : Nat} {R : List Value} (h : Rw w b off R) (g : Bel w w') : Rw w' b off R := fun j u hj => by
  have hc := h j u hj
  exact (g.1.cell (World.block_lt_of_cell? _ _ hc)).trans hc
theorem Rw.nil (w : World) (b off : Nat) : Rw w b off [] := fun j u h => by simp at h
def OwnR (sz base : Nat) (w : World) (v : Value) (n : Nat) (R : List Value) : Prop := R.length = n * sz ∧
  ((v = .slice none 0 0 ∧ n = 0) ∨ ∃ g cap, v = .slice (some ⟨g, 0, none⟩) n cap ∧ base ≤ g ∧ n ≤ cap ∧ cap ≤ maxLen ∧ Rw w g 0 R ∧ (∀ j, j < cap * sz → (w.cell? ⟨g, j, none⟩).isSome = true) ∧ ∀ o, w.frozen? ⟨g, o, none⟩ = false)
theorem OwnR.nil (sz base : Nat) (w : World) : OwnR sz base w (.slice none 0 0) 0 [] := ⟨by simp, .inl ⟨rfl, rfl⟩⟩
theorem OwnR.bel {sz base : Nat} {w w' : World} {v : Value} {n : Nat} {R : List Value} (h : OwnR sz base w v n R) (g : Bel w w') : OwnR sz base w' v n R := by
  refine ⟨h.1, ?_⟩
  rcases h.2 with h | ⟨k, cap, e, h1, h2, h3, h4, h5, h6⟩
  · exact .inl h
  · refine .inr ⟨k, cap, e, h1, h2, h3, h4.bel g, fun j hj => ?_, fun o => (g.2 _).trans (h6 o)⟩
    obtain ⟨u, hu⟩ := Option.isSome_iff_exists.1 (h5 j hj)
    rw [(g.1.cell (World.block_lt_of_cell? _ _ hu)).trans hu]; rfl
theorem fz_new {W : World} {c : Array Value} {t : TypeId} (o : Nat) : (W.alloc (.cells c t)).frozen? ⟨W.heap.size, o, none⟩ = false := by
  exact ((bl_alloc (bl_refl W) c t).2 _).trans (by simp [World.frozen?])
theorem ownR_new {sz base : Nat} {w : World} {n : Nat} {R : List Value} {cs : Array Value} {cap : Nat} {t : TypeId} (hR : R.length = n * sz) (hb : base ≤ w.heap.size) (hl : n ≤ cap) (hm : cap ≤ maxLen) (hs : cs.size = cap * sz) (hc : ∀ (j : Nat) (u : Value), R[j]? = some u → cs[j]? = some u) : OwnR sz base (w.alloc (.cells cs t)) (.slice (some ⟨w.heap.size, 0, none⟩) n cap) n R := by
  refine ⟨hR, .inr ⟨_, _, rfl, hb, hl, hm, fun j u hj => ?_, fun j hj => ?_, fun o => fz_new o⟩⟩
  · rw [Nat.zero_add, World.cell?_alloc_new]; exact hc j u hj
  · rw [World.cell?_alloc_new, Array.getElem?_eq_getElem (by rw [hs]; exact hj)]; rfl
theorem ownR_empty (sz base : Nat) (w : World) (t : TypeId) (hb : base ≤ w.heap.size) : OwnR sz base (w.alloc (.cells #[] t)) (.slice (some ⟨w.heap.size, 0, none⟩) 0 0) 0 [] :=
  ownR_new (by simp) hb (Nat.le_refl _) (by unfold maxLen; decide) (by simp) (fun j u h => by simp at h)
theorem bel_sets {b : Nat} : ∀ (vs : List Value) (o : Nat) {W0 w : World}, Bel W0 w → W0.heap.size ≤ b → Bel W0 (w.setCells b o vs) := by
  intro vs
  induction vs with
  | nil => intro o W0 w h _; exact h
  | cons v r ih => intro o W0 w h hb; exact ih (o + 1) (bl_set h hb) hb
theorem some_setsR {b x : Nat} : ∀ (vs : List Value) (o : Nat) (w : World), (w.cell? ⟨b, x, none⟩).isSome = true → ((w.setCells b o vs).cell? ⟨b, x, none⟩).isSome = true := by
  intro vs
  induction vs with
  | nil => intro o w h; exact h
  | cons v r ih =>
    intro o w h
    refine ih (o + 1) _ ?_
    obtain ⟨u, hu⟩ := Option.isSome_iff_exists.1 h
    by_cases e : o = x
    · subst e
      rw [World.cell?_setCell_same _ _ _ hu]; rfl
    · rw [World.cell?_setCell_other _ _ _ _ (by intro e'; injection e' with _ e2 _; exact e e2)]; exact h
/-- elements that lie somewhere, put behind a row of the call's own -/
theorem run_appR {P : Program} {sz by_ base : Nat} {w : World} {v z : Value} {n : Nat} {R N : List Value} (t ty e : TypeId) (ht : P.underlying t = some (.slice e)) (hinf : (P.info? e).map (fun i => (i.zero, i.size, i.bytes)) = some (some z, sz, by_)) (hzc : z.cells.size = sz)
    (a ao m c : Nat) (h : OwnR sz base w v n R) (hN : N.length = m * sz) (hs : Rw w a ao N) (h1 : ∀ u ∈ N, u.oneCell' = true) (hm : 0 < m) (hb : base ≤ w.heap.size) (hml : n + m ≤ maxLen) (hr : (n + m) * by_ ≤ 140737488355328) :
    ∃ v' w', (Builtin.append_ #[t, t] ty #[v, .slice (some ⟨a, ao, none⟩) m c]).run P w = .ok v' w' ∧ OwnR sz base w' v' (n + m) (R ++ N) ∧ (∃ g cap, v' = .slice (some ⟨g, 0, none⟩) (n + m) cap) ∧ ∀ W0, Bel W0 w → W0.heap.size ≤ base → Bel W0 w' := by
  obtain ⟨i0, hi, hz0, hz1, hz2⟩ := info_parts hinf
  have hsr : ∀ j u, N[j]? = some u → w.cell? ((⟨a, ao, none⟩ : Addr).add j) = some u := fun j u hj => by rw [add_plain]; exact hs j u hj
  have hmx : maxLen ≤ 9223372036854775807 := by unfold maxLen; decide
  have zs : ∀ k, (Builtin.zeroCells z.cells k).size = k * sz := fun k => by rw [size_zeroCells, hzc]
  have hRN : (R ++ N).length = (n + m) * sz := by rw [List.length_append, h.1, hN, Nat.add_mul]
  have grown : ∀ old, OwnR sz base (w.drew.alloc (.cells (R.toArray ++ N.toArray ++ Builtin.zeroCells z.cells (grownCap w (n + m) old e - (n + m))) e)) (.slice (some ⟨w.heap.size, 0, none⟩) (n + m) (grownCap w (n + m) old e)) (n + m) (R ++ N) := by
    intro old
    have hge := grownCap_ge w (n + m) old e
    have hcm := grownCap_le_maxLen w (n + m) old e hml
    refine ownR_new (w := w.drew) hRN hb hge hcm ?_ (fun j u hj => ?_)
    · simp only [Array.size_append, List.size_toArray, zs]
      rw [h.1, hN, ← Nat.add_mul, ← Nat.add_mul]
      congr 1
      omega
    · have hjl : j < (R ++ N).length := by
        rcases Nat.lt_or_ge j (R ++ N).length with h' | h'
        · exact h'
        · rw [List.getElem?_eq_none h'] at hj; cases hj
      rw [Array.getElem?_append_left (by simpa using hjl), show R.toArray ++ N.toArray = (R ++ N).toArray by simp, List.getElem?_toArray]
      exact hj
  have belnew : ∀ cs W0, Bel W0 w → Bel W0 (w.drew.alloc (.cells cs e)) := fun cs W0 h0 => bl_alloc (bl_drew h0) _ _
  rcases h.2 with ⟨rfl, rfl⟩ | ⟨g, cap, rfl, h1', h2, h3, h4, h5, h6⟩
  · have hR0 : R = [] := by have := h.1; simpa using this
    subst hR0
    have hr' := run_append_nil (P := P) w t ty e i0 z ht hi hz0 ⟨a, ao, none⟩ m c N (by rw [hz1, hN]) hsr hm (by omega) (by rw [hz2]; simp at hr; omega)
    have hg := grown 0
    simp only [Nat.zero_add, List.nil_append] at hg ⊢
    refine ⟨_, _, hr', ?_, ⟨_, _, rfl⟩, fun W0 h0 _ => belnew _ W0 h0⟩
    simpa using hg
  · by_cases hroom : n + m ≤ cap
    · have hx : ∀ j, j < N.length → (w.cell? ⟨g, n * sz + j, none⟩).isSome = true := fun j hj => h5 _ (by
        rw [hN] at hj
        have : (n + m) * sz ≤ cap * sz := Nat.mul_le_mul_right _ hroom
        rw [Nat.add_mul] at this
        omega)
      have hf1 := run_firstCells_some (P := P) w sz m ⟨a, ao, none⟩ m c N hN hsr
      have hst := run_storeCells_cells (P := P) g (n * sz) N 0 w (by simpa using hx) (fun j _ => h6 _) h1
      simp only [Nat.add_zero] at hst
      refine ⟨_, w.setCells g (n * sz) N, ?_, ⟨hRN, .inr ⟨g, cap, rfl, h1', hroom, h3, ?_, fun j hj => some_setsR _ _ _ (h5 j hj), fun o => (World.frozen?_setCells g _ _ _ _).trans (h6 o)⟩⟩, ⟨_, _, rfl⟩, fun W0 h0 hw => bel_sets _ _ h0 (by omega)⟩
      · simp [Builtin.append_, run_underlying ht, sizeOf, typeInfo, hi, hz1, Builtin.lenOf, hroom, hf1, add_plain, hst]
      · intro j u hj
        rw [Nat.zero_add]
        by_cases hjn : j < R.length
        · rw [List.getElem?_append_left hjn] at hj
          rw [World.cell?_setCells_out g _ _ _ ⟨g, j, none⟩ (fun _ _ => .inl (by show j < n * sz; rw [← h.1]; exact hjn))]
          have := h4 j u hj
          rwa [Nat.zero_add] at this
        · obtain ⟨q, rfl⟩ : ∃ q, j = R.length + q := ⟨j - R.length, by omega⟩
          rw [List.getElem?_append_right (by omega), Nat.add_sub_cancel_left] at hj
          have hq : q < N.length := by
            rcases Nat.lt_or_ge q N.length with h' | h'
            · exact h'
            · rw [List.getElem?_eq_none h'] at hj; cases hj
          rw [h.1, World.cell?_setCells_in g _ _ w hx q hq]
          rw [List.getElem?_eq_getElem hq] at hj
          exact hj
    · have hr' := run_append_grow (P := P) w t ty e i0 z ht hi hz0 ⟨g, 0, none⟩ n cap R (by rw [hz1]; exact h.1) (fun j u hj => by rw [add_plain]; exact h4 j u hj) ⟨a, ao, none⟩ m c N (by rw [hz1, hN]) hsr (by omega) (by omega) (by rw [hz2]; exact growslice_fits (by omega) hr)
      exact ⟨_, _, hr', grown cap, ⟨_, _, rfl⟩, fun W0 h0 _ => belnew _ W0 h0⟩
/-- 'append' in a walk -/
theorem wpList_appR {P : Program} {sz by_ base : Nat} {w : World} {v z : Value} {n : Nat} {R N : List Value} {ops : Array Oper} {rest : List Oper} {o : Oper} {a : Act} {Q : Exit → Act → World → Prop} (t e : TypeId) (hgd : o.guard = none) (s x : Operand)
    (ho : o.op = .call { callee := .builtin .append, args := #[s, x], argTypes := #[t, t] }) (ht : P.underlying t = some (.slice e)) (hinf : (P.info? e).map (fun i => (i.zero, i.size, i.bytes)) = some (some z, sz, by_)) (hzc : z.cells.size = sz)
    (hv : a.eval s = v) (b ao m c : Nat) (hx : a.eval x = .slice (some ⟨b, ao, none⟩) m c) (h : OwnR sz base w v n R) (hN : N.length = m * sz) (hs : Rw w b ao N) (h1 : ∀ u ∈ N, u.oneCell' = true) (hm : 0 < m) (hb : base ≤ w.heap.size) (hml : n + m ≤ maxLen) (hr : (n + m) * by_ ≤ 140737488355328)
    (hK : ∀ v' w', OwnR sz base w' v' (n + m) (R ++ N) → (∃ g cap, v' = .slice (some ⟨g, 0, none⟩) (n + m) cap) → (∀ W0, Bel W0 w → W0.heap.size ≤ base → Bel W0 w') → wpList P ops Q rest (a.put o.dst v') w') : wpList P ops Q (o :: rest) a w := by
  obtain ⟨v', w', hrun, h1', h2, h3⟩ := run_appR t o.type e ht hinf hzc b ao m c h hN hs h1 hm hb hml hr
  refine wpList_plain hgd fun K hK' => ?_
  unfold Oper.wp
  simp [execOp, ho, resolve, invoke, builtin, hv, hx, hrun, Result.andThen]
  exact hK' _ _ (hK v' w' h1' h2 h3)
end Go.Proofs.Ytoofbfjlgablkaa
