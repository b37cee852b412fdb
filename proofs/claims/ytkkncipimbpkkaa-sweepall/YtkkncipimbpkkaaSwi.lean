/-
  Plain facts on floats, more: rounding to the nearest rung, sums and products of finite floats, signs turned. No program is named here.
-/
import Derived.Test.YtkkncipimbpkkaaSwh
import Derived.Test.YtkkncipimbpkkaaApps
namespace Go.Proofs.Ytkkncipimbpkkaa
open Ieee Go.RowKit Go.WideShapes
set_option linter.unusedSimpArgs false
set_option linter.unusedVariables false

/-- as run_appR, with what stays: every other block -/
theorem run_appT {P : Program} {sz by_ base : Nat} {w : World} {v z : Value} {n : Nat} {R N : List Value} (t ty e : TypeId) (ht : P.underlying t = some (.slice e)) (hinf : (P.info? e).map (fun i => (i.zero, i.size, i.bytes)) = some (some z, sz, by_)) (hzc : z.cells.size = sz)
    (a ao m c : Nat) (h : OwnR sz base w v n R) (hN : N.length = m * sz) (hs : Rw w a ao N) (h1 : ∀ u ∈ N, u.oneCell' = true) (hm : 0 < m) (hb : base ≤ w.heap.size) (hml : n + m ≤ maxLen) (hr : (n + m) * by_ ≤ 140737488355328) :
    ∃ v' w', (Builtin.append_ #[t, t] ty #[v, .slice (some ⟨a, ao, none⟩) m c]).run P w = .ok v' w' ∧ OwnR sz base w' v' (n + m) (R ++ N) ∧ (∃ g cap, v' = .slice (some ⟨g, 0, none⟩) (n + m) cap ∧ (w.heap.size ≤ g ∨ ∃ cp, v = .slice (some ⟨g, 0, none⟩) n cp)) ∧ (∀ W0, Bel W0 w → W0.heap.size ≤ base → Bel W0 w') ∧ OtherB v n w w' ∧ (∀ B, B ≤ base → Below B w w') ∧ (∀ gg cp, v = .slice (some ⟨gg, 0, none⟩) n cp → Rw w' gg 0 R) ∧ ∀ c o, w'.frozen? ⟨c, o, none⟩ = w.frozen? ⟨c, o, none⟩ := by
  obtain ⟨i0, hi, hz0, hz1, hz2⟩ := info_parts hinf
  have hsr : ∀ j u, N[j]? = some u → w.cell? ((⟨a, ao, none⟩ : Addr).add j) = some u := fun j u hj => by rw [add_plain]; exact hs j u hj
  have hmx : maxLen ≤ 9223372036854775807 := by unfold maxLen; decide
  have zs : ∀ k, (Builtin.zeroCells z.cells k).size = k * sz := fun k => by rw [size_zeroCells, hzc]
  have hRN : (R ++ N).length = (n + m) * sz := by rw [List.length_append, h.1, hN, Nat.add_mul]
  have grown : ∀ old, OwnR sz base (w.drew.alloc (.cells (R.toArray ++ N.toArray ++ Builtin.zeroCells z.cells (grownCap w (n + m) old e - (n + m))) e)) (.slice (some ⟨w.heap.size, 0, none⟩) (n + m) (grownCap w (n + m) old e)) (n + m) (R ++ N) := by
    intro old
    have hge := grownCap_ge w (n + m) old e
    have hcm := grownCap_le_maxLen w (n + m) old e hml
    refine ownR_new (w := w.drew) hRN hb hge hcm ?_ (fun j u hj => ?_)
    · simp only [Array.size_append, List.size_toArray, zs]
      rw [h.1, hN, ← Nat.add_mul, ← Nat.add_mul]
      congr 1
      omega
    · have hjl : j < (R ++ N).length := by
        rcases Nat.lt_or_ge j (R ++ N).length with h' | h'
        · exact h'
        · rw [List.getElem?_eq_none h'] at hj; cases hj
      rw [Array.getElem?_append_left (by simpa using hjl), show R.toArray ++ N.toArray = (R ++ N).toArray by simp, List.getElem?_toArray]
      exact hj
  have belnew : ∀ cs W0, Bel W0 w → Bel W0 (w.drew.alloc (.cells cs e)) := fun cs W0 h0 => bl_alloc (bl_drew h0) _ _
  have frznew : ∀ cs c o, (w.drew.alloc (.cells cs e)).frozen? ⟨c, o, none⟩ = w.frozen? ⟨c, o, none⟩ := fun cs c o => (bl_alloc (bl_drew (bl_refl w)) cs e).2 _
  have lownew : ∀ cs B, B ≤ base → Below B w (w.drew.alloc (.cells cs e)) := fun cs B hB => (Below.refl B w).drew.alloc (Nat.le_trans hB hb) _
  have othnew : ∀ cs, OtherB v n w (w.drew.alloc (.cells cs e)) := fun cs => ⟨fun c o hc _ => (bcell (bl_alloc (bl_drew (bl_refl w)) cs e)).1 c o hc, (bl_alloc (bl_drew (bl_refl w)) cs e).size⟩
  rcases h.2 with ⟨rfl, rfl⟩ | ⟨g, cap, rfl, h1', h2, h3, h4, h5, h6⟩
  · have hR0 : R = [] := by have := h.1; simpa using this
    subst hR0
    have hr' := run_append_nil (P := P) w t ty e i0 z ht hi hz0 ⟨a, ao, none⟩ m c N (by rw [hz1, hN]) hsr hm (by omega) (by rw [hz2]; simp at hr; omega)
    have hg := grown 0
    simp only [Nat.zero_add, List.nil_append] at hg ⊢
    refine ⟨_, _, hr', ?_, ⟨_, _, rfl, .inl (Nat.le_refl _)⟩, fun W0 h0 _ => belnew _ W0 h0, othnew _, lownew _, fun gg cp e => (by cases e), frznew _⟩
    simpa using hg
  · by_cases hroom : n + m ≤ cap
    · have hx : ∀ j, j < N.length → (w.cell? ⟨g, n * sz + j, none⟩).isSome = true := fun j hj => h5 _ (by
        rw [hN] at hj
        have : (n + m) * sz ≤ cap * sz := Nat.mul_le_mul_right _ hroom
        rw [Nat.add_mul] at this
        omega)
      have hf1 := run_firstCells_some (P := P) w sz m ⟨a, ao, none⟩ m c N hN hsr
      have hst := run_storeCells_cells (P := P) g (n * sz) N 0 w (by simpa using hx) (fun j _ => h6 _) h1
      simp only [Nat.add_zero] at hst
      refine ⟨_, w.setCells g (n * sz) N, ?_, ⟨hRN, .inr ⟨g, cap, rfl, h1', hroom, h3, ?_, fun j hj => some_setsR _ _ _ (h5 j hj), fun o => (World.frozen?_setCells g _ _ _ _).trans (h6 o)⟩⟩, ⟨_, _, rfl, .inr ⟨_, rfl⟩⟩, fun W0 h0 hw => bel_sets _ _ h0 (by omega), ⟨fun c o hc hne => World.cell?_setCells_out g _ _ _ ⟨c, o, none⟩ (fun e _ => absurd e (hne g cap rfl)), Nat.le_of_eq (size_sets g N (n * sz) w).symm⟩, fun B hB => low_sets N _ _ (by omega), fun gg cp e => ?_, fun c o => World.frozen?_setCells g _ _ _ _⟩
      · simp [Builtin.append_, run_underlying ht, sizeOf, typeInfo, hi, hz1, Builtin.lenOf, hroom, hf1, add_plain, hst]
      · intro j u hj
        rw [Nat.zero_add]
        by_cases hjn : j < R.length
        · rw [List.getElem?_append_left hjn] at hj
          rw [World.cell?_setCells_out g _ _ _ ⟨g, j, none⟩ (fun _ _ => .inl (by show j < n * sz; rw [← h.1]; exact hjn))]
          have := h4 j u hj
          rwa [Nat.zero_add] at this
        · obtain ⟨q, rfl⟩ : ∃ q, j = R.length + q := ⟨j - R.length, by omega⟩
          rw [List.getElem?_append_right (by omega), Nat.add_sub_cancel_left] at hj
          have hq : q < N.length := by
            rcases Nat.lt_or_ge q N.length with h' | h'
            · exact h'
            · rw [List.getElem?_eq_none h'] at hj; cases hj
          rw [h.1, World.cell?_setCells_in g _ _ w hx q hq]
          rw [List.getElem?_eq_getElem hq] at hj
          exact hj
      · injection e with e1 _ _
        injection e1 with e1
        injection e1 with e1 _ _
        subst e1
        intro j u hj
        rw [Nat.zero_add]
        have hjn : j < R.length := by
          rcases Nat.lt_or_ge j R.length with h' | h'
          · exact h'
          · rw [List.getElem?_eq_none h'] at hj; cases hj
        rw [World.cell?_setCells_out g _ _ _ ⟨g, j, none⟩ (fun _ _ => .inl (by show j < n * sz; rw [← h.1]; exact hjn))]
        have := h4 j u hj
        rwa [Nat.zero_add] at this
    · have hr' := run_append_grow (P := P) w t ty e i0 z ht hi hz0 ⟨g, 0, none⟩ n cap R (by rw [hz1]; exact h.1) (fun j u hj => by rw [add_plain]; exact h4 j u hj) ⟨a, ao, none⟩ m c N (by rw [hz1, hN]) hsr (by omega) (by omega) (by rw [hz2]; exact growslice_fits (by omega) hr)
      exact ⟨_, _, hr', grown cap, ⟨_, _, rfl, .inl (Nat.le_refl _)⟩, fun W0 h0 _ => belnew _ W0 h0, othnew _, lownew _, (fun gg cp e => by
        injection e with e1 _ _
        injection e1 with e1
        injection e1 with e1 _ _
        subst e1
        exact h4.bel (bl_alloc (bl_drew (bl_refl w)) _ _)), frznew _⟩
/-- 'append' in a walk -/
theorem wpList_appT {P : Program} {sz by_ base : Nat} {w : World} {v z : Value} {n : Nat} {R N : List Value} {ops : Array Oper} {rest : List Oper} {o : Oper} {a : Act} {Q : Exit → Act → World → Prop} (t e : TypeId) (hgd : o.guard = none) (s x : Operand)
    (ho : o.op = .call { callee := .builtin .append, args := #[s, x], argTypes := #[t, t] }) (ht : P.underlying t = some (.slice e)) (hinf : (P.info? e).map (fun i => (i.zero, i.size, i.bytes)) = some (some z, sz, by_)) (hzc : z.cells.size = sz)
    (hv : a.eval s = v) (b ao m c : Nat) (hx : a.eval x = .slice (some ⟨b, ao, none⟩) m c) (h : OwnR sz base w v n R) (hN : N.length = m * sz) (hs : Rw w b ao N) (h1 : ∀ u ∈ N, u.oneCell' = true) (hm : 0 < m) (hb : base ≤ w.heap.size) (hml : n + m ≤ maxLen) (hr : (n + m) * by_ ≤ 140737488355328)
    (hK : ∀ v' w', OwnR sz base w' v' (n + m) (R ++ N) → (∃ g cap, v' = .slice (some ⟨g, 0, none⟩) (n + m) cap ∧ (w.heap.size ≤ g ∨ ∃ cp, v = .slice (some ⟨g, 0, none⟩) n cp)) → (∀ W0, Bel W0 w → W0.heap.size ≤ base → Bel W0 w') → OtherB v n w w' → (∀ B, B ≤ base → Below B w w') → (∀ gg cp, v = .slice (some ⟨gg, 0, none⟩) n cp → Rw w' gg 0 R) → (∀ c o, w'.frozen? ⟨c, o, none⟩ = w.frozen? ⟨c, o, none⟩) → wpList P ops Q rest (a.put o.dst v') w') : wpList P ops Q (o :: rest) a w := by
  obtain ⟨v', w', hrun, h1', h2, h3, h4, h5, h6, h7⟩ := run_appT t o.type e ht hinf hzc b ao m c h hN hs h1 hm hb hml hr
  refine wpList_plain hgd fun K hK' => ?_
  unfold Oper.wp
  simp [execOp, ho, resolve, invoke, builtin, hv, hx, hrun, Result.andThen]
  exact hK' _ _ (hK v' w' h1' h2 h3 h4 h5 h6 h7)
end Go.Proofs.Ytkkncipimbpkkaa
namespace Go.Proofs.Ytkkncipimbpkkaa
open Ieee Go.RowKit Go.Sort Go.WideShapes Go.Shelf Go.Lib
set_option linter.unusedSimpArgs false
set_option linter.unusedVariables false

/-! ### two rows of a call's own, written into and grown side by side -/
theorem own_setK {sz base n : Nat} {w : World} {g cap i : Nat} {R : List Value} {v : Value} (h : OwnR sz base w (.slice (some ⟨g, 0, none⟩) n cap) n R) (hi : i < n * sz) : OwnR sz base (w.setCell ⟨g, i, none⟩ v) (.slice (some ⟨g, 0, none⟩) n cap) n (R.set i v) := by
  obtain ⟨h1, h2, h3, h4, h5, h6⟩ := own_parts h
  have hl := h.1
  have hcap : n * sz ≤ cap * sz := Nat.mul_le_mul_right _ h2
  refine ⟨by rw [List.length_set]; exact hl, .inr ⟨g, cap, rfl, h1, h2, h3, fun j u hj => ?_, fun j hj => ?_, fun o => (World.frozen?_setCell _ _ _ _).trans (h6 o)⟩⟩
  · rw [Nat.zero_add]
    by_cases e : i = j
    · subst e
      rw [List.getElem?_set_self (by omega)] at hj
      simp only [Option.some.injEq] at hj
      subst hj
      obtain ⟨u0, hu0⟩ := Option.isSome_iff_exists.1 (h5 i (by omega))
      exact World.cell?_setCell_same _ _ _ hu0
    · rw [List.getElem?_set_ne e] at hj
      rw [World.cell?_setCell_other _ _ _ _ (by intro e'; injection e' with _ e2 _; exact e e2)]
      have := h4 j u hj
      rwa [Nat.zero_add] at this
  · obtain ⟨u, hu⟩ := Option.isSome_iff_exists.1 (h5 j hj)
    by_cases e : i = j
    · subst e; rw [World.cell?_setCell_same _ _ _ hu]; rfl
    · rw [World.cell?_setCell_other _ _ _ _ (by intro e'; injection e' with _ e2 _; exact e e2)]; exact h5 j hj
/-- a row whose block is as it was -/
theorem own_as {sz base n : Nat} {w w' : World} {v : Value} {R : List Value} (h : OwnR sz base w v n R) (hc : ∀ gg cp, v = .slice (some ⟨gg, 0, none⟩) n cp → ∀ o u, w.cell? ⟨gg, o, none⟩ = some u → w'.cell? ⟨gg, o, none⟩ = some u) (hf : ∀ c o, w'.frozen? ⟨c, o, none⟩ = w.frozen? ⟨c, o, none⟩) : OwnR sz base w' v n R := by
  refine ⟨h.1, ?_⟩
  rcases h.2 with h | ⟨k, cap, e, h1, h2, h3, h4, h5, h6⟩
  · exact .inl h
  · refine .inr ⟨k, cap, e, h1, h2, h3, fun j u hj => hc k cap e _ _ (h4 j u hj), fun j hj => ?_, fun o => (hf _ _).trans (h6 o)⟩
    obtain ⟨u, hu⟩ := Option.isSome_iff_exists.1 (h5 j hj)
    rw [hc k cap e _ _ hu]; rfl
theorem set_as {w : World} {g i : Nat} {v : Value} {c o : Nat} {u : Value} (hc : c ≠ g) (h : w.cell? ⟨c, o, none⟩ = some u) : (w.setCell ⟨g, i, none⟩ v).cell? ⟨c, o, none⟩ = some u := (World.cell?_setCell_other _ _ _ _ (by intro e'; injection e' with e1 _ _; exact hc e1.symm)).trans h
/-- the first k pairs are (c, 0), (c, 1), .. -/
def Fil (c : Int) (k : Nat) (R : List Value) : Prop := ∀ i, i < k → R[i * 2]? = some (.int .i64 c) ∧ R[i * 2 + 1]? = some (.int .i64 (i : Int))
theorem Fil.step {c : Int} {k n : Nat} {R : List Value} (h : Fil c k R) (hl : R.length = n * 2) (hk : k < n) : Fil c (k + 1) ((R.set (k * 2) (.int .i64 c)).set (k * 2 + 1) (.int .i64 (k : Int))) := by
  intro i hi
  rcases Nat.lt_or_ge i k with h' | h'
  · rw [List.getElem?_set_ne (by omega), List.getElem?_set_ne (by omega), List.getElem?_set_ne (by omega), List.getElem?_set_ne (by omega)]
    exact h i h'
  · have : i = k := by omega
    subst this
    rw [List.getElem?_set_ne (by omega), List.getElem?_set_self (by omega), List.getElem?_set_self (by rw [List.length_set]; omega)]
    exact ⟨rfl, rfl⟩
def tl2 (c : Int) (t : Nat) : List Value := (List.range t).flatMap fun i : Nat => [.int .i64 c, .int .i64 (i : Int)]
theorem tl2_succ (c : Int) (t : Nat) : tl2 c (t + 1) = tl2 c t ++ [.int .i64 c, .int .i64 (t : Int)] := by unfold tl2; rw [List.range_succ, List.flatMap_append]; rfl
theorem tl2_len (c : Int) : ∀ t, (tl2 c t).length = t * 2
  | 0 => rfl
  | t + 1 => by rw [tl2_succ, List.length_append, tl2_len c t]; simp only [List.length_cons, List.length_nil]; omega
theorem tl2_get (c : Int) : ∀ t i, i < t → (tl2 c t)[i * 2]? = some (.int .i64 c) ∧ (tl2 c t)[i * 2 + 1]? = some (.int .i64 (i : Int))
  | 0, i, h => by omega
  | t + 1, i, h => by
    rw [tl2_succ]
    rcases Nat.lt_or_ge i t with h' | h'
    · rw [List.getElem?_append_left (by rw [tl2_len]; omega), List.getElem?_append_left (by rw [tl2_len]; omega)]
      exact tl2_get c t i h'
    · have : i = t := by omega
      subst this
      rw [List.getElem?_append_right (by rw [tl2_len]; omega), List.getElem?_append_right (by rw [tl2_len]; omega), tl2_len, Nat.sub_self, Nat.add_sub_cancel_left]
      exact ⟨rfl, rfl⟩
theorem app_get {R : List Value} {c : Int} {n t i : Nat} (hl : R.length = n * 2) (hi : i < t) : (R ++ tl2 c t)[(n + i) * 2]? = some (.int .i64 c) ∧ (R ++ tl2 c t)[(n + i) * 2 + 1]? = some (.int .i64 (i : Int)) := by
  rw [List.getElem?_append_right (by omega), List.getElem?_append_right (by omega), hl, show (n + i) * 2 - n * 2 = i * 2 by omega, show (n + i) * 2 + 1 - n * 2 = i * 2 + 1 by omega]
  exact tl2_get c t i hi
end Go.Proofs.Ytkkncipimbpkkaa
