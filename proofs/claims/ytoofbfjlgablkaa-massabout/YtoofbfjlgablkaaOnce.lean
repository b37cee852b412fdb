/-
  Plain facts on floats, more: rounding to the nearest rung, sums and products of finite floats, signs turned. No program is named here.
-/
import Derived.Test.YtoofbfjlgablkaaMulti
namespace Go.Proofs.Ytoofbfjlgablkaa
open Ieee Go.RowKit
set_option linter.unusedSimpArgs false
set_option linter.unusedVariables false

/-! ### A region that draws its order and stores once, into a block that was there (a function's result): by what each operation gives -/
def retB (ops : Array Oper) (t sz : Nat) : Bool := Region.noSelect ops && (List.range ops.size).all (fun i => (match ops[i]? with | some o => o.guard.isNone | none => false) &&
    (if i == t then (dstO ops i).isNone else match dstO ops i with | some d => decide (d < sz) && !(looksO ops i).contains d | none => false) &&
    (List.range ops.size).all (fun j => i == j || (dstO ops i != dstO ops j && (match dstO ops j with | some d => !(looksO ops i).contains d || bnd ops i j | none => true)))) &&
  (List.range ops.size).all (fun i => match ops[i]? with | some o => o.after.all (fun e => decide (e.on < i)) | none => true)
theorem upon_carry0 {P : Program} {o : Oper} {A a : Act} {N : World → Prop} {K : Act → World → Prop} {Q : Exit → Act → World → Prop} {r : Result Next} (hd : o.dst = none)
    (h : o.upon P A (fun a' w' => a' = A ∧ N w') (fun _ _ _ => False) r) (hK : ∀ w', N w' → K a w') : o.upon P a K Q r := by
  have val : ∀ u w', (A.put o.dst u = A ∧ N w') → K (a.put o.dst u) w' := by
    rintro u w' ⟨_, hn⟩
    rw [hd]
    exact hK w' hn
  cases r with
  | ok n w' =>
    cases n <;> simp only [Oper.upon] at h ⊢
    case value u => exact val u w' h
    case skip => exact val undef w' h
    case defer x =>
      obtain ⟨e, _⟩ := h
      exfalso
      have := congrArg (fun x => x.defers.length) e
      simp [Act.put, hd] at this
    case enter f args =>
      refine Calls.mono h (fun e w'' he => ?_)
      cases e with
      | returned v => exact val v w'' he
      | panicked c => exact he.elim
      | outgrown => obtain ⟨_, _, hx⟩ := he; exact hx.elim
    case row f args => exact Rows.mono h (fun v w'' he => val v w'' he)
    all_goals exact h.elim
  | halt x w' => cases x <;> simp only [Oper.upon] at h ⊢
/-- what is there: as it was, or with the one thing stored -/
def Once (w : World) (st : Value → World → World) (R : Value → Prop) (W : World) : Prop := Bel w W ∨ ∃ v W0, R v ∧ Bel w W0 ∧ Bel (st v W0) W
theorem wp_region_ret {P : Program} {id : Nat} {Q : Exit → Act → World → Prop} {a0 : Act} {w : World} {l : List Oper} (n t d : Nat) (hnl : l.length = n) (Rel : Nat → Value → Prop) (st : Value → World → World) (A : (Nat → Value) → Act) (hm : P.follows .mixedOrders = true) (hB : retB l.toArray t a0.tmps.size = true) (hbd : bnd l.toArray t d = true) (hdl : d < n) (htl : t < n)
    (hA : ∀ s, putL l.toArray a0 (fun _ => true) s n = A s)
    (hst : ∀ o, l[t]? = some o → ∀ s : Nat → Value, (∀ j, j < n → bnd l.toArray t j = true → Rel j (s j)) → ∀ W, Bel w W → ∀ K : Act → World → Prop, Veil (K (A s) (st (s d) W)) → Oper.wp P o (A s) W K (fun _ _ _ => False))
    (hq : ∀ i o, i < n → i ≠ t → l[i]? = some o → ∀ s : Nat → Value, (∀ j, j < n → j ≠ t → bnd l.toArray i j = true → Rel j (s j)) → ∀ W, Once w st (Rel d) W → ∀ K : Act → World → Prop, Veil (∀ v W', Rel i v → Bel W W' → K ((A s).put o.dst v) W') →
      Oper.wp P o (A s) W K (fun _ _ _ => False))
    (ht : ∀ s : Nat → Value, (∀ j, j < n → j ≠ t → Rel j (s j)) → ∀ W0 W, Bel w W0 → Bel (st (s d) W0) W → Q .normal (A s) W) :
    (Code.region id l.toArray true).wp P Q a0 w := by
  subst hnl
  have hz : l.toArray.size = l.length := by simp
  simp only [retB, Bool.and_eq_true, decide_eq_true_eq, List.all_eq_true, List.mem_range, Bool.or_eq_true] at hB
  obtain ⟨⟨hns, hpre⟩, hdown⟩ := hB
  rw [hz] at hpre hdown
  have hgl : ∀ i : Nat, l.toArray[i]? = l[i]? := fun i => by simp
  have hdt : d ≠ t := by
    rintro rfl
    obtain ⟨e, he, _, h2⟩ := (bnd_of (by rw [hgl, List.getElem?_eq_getElem htl])).1 hbd
    have h1 := hdown d htl
    rw [hgl, List.getElem?_eq_getElem htl] at h1
    simp only [Array.all_eq_true_iff_forall_mem, decide_eq_true_eq] at h1
    have := h1 e he
    omega
  let I : Array Bool → Act → World → Prop := fun lis a W =>
    lis.size = l.length ∧ shutB l.toArray lis ∧
    ∃ s : Nat → Value, a = putL l.toArray a0 (fun i => lis.getD i false) s l.length ∧ (∀ j, j < l.length → j ≠ t → lis.getD j false = true → Rel j (s j)) ∧
      (if lis.getD t false = true then ∃ W0, Bel w W0 ∧ Bel (st (s d) W0) W else Bel w W)
  refine wp_region_any hm (wpAny_inv I ?_ ?_ _ _ _ _ (by simp) ?_)
  · rintro lis a W i ⟨hsz, hsh, s, rfl, hrel, hw⟩ hi
    obtain ⟨hun, o, ho, hall⟩ := mem_ready.1 hi
    have ho' : l[i]? = some o := by rw [← hgl]; exact ho
    have hil : i < l.length := by
      rcases Nat.lt_or_ge i l.length with h' | h'
      · exact h'
      · rw [List.getElem?_eq_none h'] at ho'; cases ho'
    have hun' : lis.getD i false = false := by simpa [hsz, hil] using hun
    have hdep : ∀ j, bnd l.toArray i j = true → lis.getD j false = true := fun j hj => by
      obtain ⟨e, he, hb, rfl⟩ := (bnd_of ho).1 hj
      exact hall e he hb
    have hsh' := shut_set hsh hdep (by rw [hsz]; exact hil)
    have hp := hpre i hil
    simp only [ho] at hp
    obtain ⟨⟨hg, hd⟩, hrow⟩ := hp
    have hdo : dstO l.toArray i = o.dst := by simp [dstO, ho']
    have hg' : o.guard = none := by simpa using hg
    have hwn : Region.wanted o (yielded l.toArray (putL l.toArray a0 (fun i => lis.getD i false) s l.length).tmps) = true := by simp [Region.wanted, hg']
    have hLn : ∀ j, j ≠ i → (lis.setIfInBounds i true).getD j false = lis.getD j false := fun j hj => getD_set_ne false (fun e => hj e.symm)
    have hLi : (lis.setIfInBounds i true).getD i false = true := getD_set_self (by rw [hsz]; exact hil) false
    have hdis : ∀ j, j < l.length → j ≠ i → dstO l.toArray i ≠ dstO l.toArray j ∨ dstO l.toArray j = none := by
      intro j hj hne
      rcases hrow j hj with h1 | h1
      · simp at h1; omega
      · left; simpa using h1.1
    have hself : ∀ d', o.dst = some d' → i ≠ t → d' ∉ looksO l.toArray i := by
      intro d' h1 h2
      rw [if_neg (by simpa using h2), hdo, h1] at hd
      simp only [Bool.and_eq_true, decide_eq_true_eq, Bool.not_eq_true', List.contains_eq_mem, decide_eq_false_iff_not] at hd
      exact hd.2
    unfold wpOp
    rw [ho]
    simp only [hwn, if_true]
    left
    have hex : execOp (putL l.toArray a0 (fun i => lis.getD i false) s l.length).eval o = execOp (putL l.toArray a0 (fun _ => true) s l.length).eval o := by
      apply execOp_congr o (fun cs b => Region.noSelect_spec hns i o cs b ho)
      intro x hx
      apply putL_eval
      intro j hj hlj d' hd' hxd
      subst hxd
      have hlk : d' ∈ looksO l.toArray i := by unfold looksO; rw [ho]; exact List.mem_append_left _ (List.mem_filterMap.2 ⟨.tmp d', by simpa using hx, rfl⟩)
      by_cases e : i = j
      · subst e
        rw [hdo] at hd'
        by_cases ht' : i = t
        · subst ht'
          simp only [beq_self_eq_true, if_true] at hd
          rw [hdo, hd'] at hd
          cases hd
        · exact hself d' hd' ht' hlk
      · rcases hrow j hj with h1 | h1
        · simp at h1; exact e h1
        · have h2 := h1.2
          rw [hd'] at h2
          simp only [Bool.or_eq_true, Bool.not_eq_true', List.contains_eq_mem, decide_eq_false_iff_not] at h2
          rcases h2 with h2 | h2
          · exact h2 hlk
          · have := hdep j h2
            simp only [hlj] at this
            cases this
    by_cases ht' : i = t
    · subst ht'
      simp only [beq_self_eq_true, if_true] at hd
      have hdn : o.dst = none := by rw [hdo] at hd; simpa using hd
      rw [if_neg (by rw [hun']; decide)] at hw
      have hb : ∀ j, j < l.length → bnd l.toArray i j = true → Rel j (s j) := fun j hj hb => hrel j hj (by
        rintro rfl
        have := hdep j hb
        rw [hun'] at this
        cases this) (hdep j hb)
      have h1 := hst o ho' s hb W hw (fun a' W' => a' = A s ∧ W' = st (s d) W) ⟨rfl, rfl⟩
      unfold Oper.wp at h1 ⊢
      rw [hex, hA]
      refine upon_carry0 hdn h1 ?_
      rintro W' rfl
      refine ⟨by simpa using hsz, hsh', s, ?_, fun j hj hne hl => hrel j hj hne (by rwa [hLn j hne] at hl), ?_⟩
      · have e1 : ∀ k, putL l.toArray a0 (fun j => lis.getD j false) s k = putL l.toArray a0 (fun j => (lis.setIfInBounds i true).getD j false) s k := by
          intro k
          induction k with
          | zero => rfl
          | succ k ih =>
            unfold putL
            by_cases e : k = i
            · subst e
              rw [if_pos hLi, if_neg (by rw [hun']; decide), hdo, hdn, ← ih]
              rfl
            · rw [hLn k e, ih]
        exact e1 _
      · rw [if_pos hLi]
        exact ⟨W, hw, bl_refl _⟩
    · have hdd : ∃ d', o.dst = some d' := by
        rw [if_neg (by simpa using ht')] at hd
        cases hx : o.dst with
        | none => rw [hdo, hx] at hd; simp at hd
        | some d' => exact ⟨d', rfl⟩
      obtain ⟨d', hdd⟩ := hdd
      have hds : d' < a0.tmps.size := by
        rw [if_neg (by simpa using ht'), hdo, hdd] at hd
        simp only [Bool.and_eq_true, decide_eq_true_eq] at hd
        exact hd.1
      have hput : ∀ v, (putL l.toArray a0 (fun i => lis.getD i false) s l.length).put o.dst v = putL l.toArray a0 (fun j => (lis.setIfInBounds i true).getD j false) (updS s i v) l.length := fun v => by
        rw [← hdo]
        exact putL_put (L := fun i => lis.getD i false) (L' := fun j => (lis.setIfInBounds i true).getD j false) hun' hLi hLn l.length hil hdis
      have hon : Once w st (Rel d) W := by
        by_cases e : lis.getD t false = true
        · rw [if_pos e] at hw
          obtain ⟨W0, h1, h2⟩ := hw
          exact .inr ⟨s d, W0, hrel d hdl hdt (hsh t d e hbd), h1, h2⟩
        · rw [if_neg e] at hw
          exact .inl hw
      have hb' : ∀ j, j < l.length → j ≠ t → bnd l.toArray i j = true → Rel j (s j) := fun j hj hne h => hrel j hj hne (hdep j h)
      · have h1 := hq i o hil ht' ho' s hb' W hon (fun a' W' => ∃ v, a' = (A s).put (some d') v ∧ Rel i v ∧ Bel W W') (fun v W' hv hb => ⟨v, by rw [hdd], hv, hb⟩)
        unfold Oper.wp at h1 ⊢
        rw [hex, hA]
        refine upon_carry hdd (by rw [← hA, (putL_size _).1]; exact hds) h1 ?_
        rintro v W' ⟨hv, hbW⟩
        refine ⟨by simpa using hsz, hsh', _, hput v, ?_, ?_⟩
        · intro j hj hne hl
          by_cases e : j = i
          · subst e; simpa [updS] using hv
          · rw [hLn j e] at hl
            simpa [updS, e] using hrel j hj hne hl
        · rw [hLn t (fun e => ht' e.symm)]
          by_cases e : lis.getD t false = true
          · rw [if_pos e] at hw ⊢
            obtain ⟨W0, h1, h2⟩ := hw
            have hdi : d ≠ i := by
              rintro rfl
              have := hsh t d e hbd
              rw [hun'] at this
              cases this
            exact ⟨W0, h1, by simpa [updS, hdi] using bl_trans h2 hbW⟩
          · rw [if_neg e] at hw ⊢
            exact bl_trans hw hbW
  · rintro lis a W ⟨hsz, hsh, s, rfl, hrel, hw⟩ hr0
    have hallL : ∀ j, j < l.length → lis.getD j false = true := by
      intro j
      induction j using Nat.strongRecOn with
      | _ j ih =>
        intro hj
        cases hc : lis.getD j false with
        | true => rfl
        | false =>
          exfalso
          have : j ∈ Region.ready .any l.toArray lis := by
            refine mem_ready.2 ⟨by simpa [hsz, hj] using hc, l[j], by simp [hj], fun e he _ => ?_⟩
            have h1 := hdown j hj
            rw [hgl, List.getElem?_eq_getElem hj] at h1
            simp only [Array.all_eq_true_iff_forall_mem, decide_eq_true_eq] at h1
            have h2 := h1 e he
            exact ih e.on h2 (by omega)
          rw [hr0] at this
          cases this
    have hT : putL l.toArray a0 (fun j => lis.getD j false) s l.length = A s := by
      rw [← hA]
      exact putL_congr _ (fun j hj => ⟨hallL j hj, rfl⟩)
    rw [if_pos (hallL t htl)] at hw
    obtain ⟨W0, h1, h2⟩ := hw
    rw [hT]
    exact ht s (fun j hj hne => hrel j hj hne (hallL j hj)) W0 W h1 h2
  · refine ⟨by simp, ?_, fun _ => undef, ?_, ?_, ?_⟩
    · intro k j hk; rw [rep_false] at hk; cases hk
    · have : ∀ k, putL l.toArray a0 (fun i => (Array.replicate l.toArray.size false).getD i false) (fun _ => undef) k = a0 := by
        intro k
        induction k with
        | zero => rfl
        | succ k ih => unfold putL; rw [if_neg (by rw [rep_false]; decide), ih]
      exact (this _).symm
    · intro j _ _ h; rw [rep_false] at h; cases h
    · rw [if_neg (by rw [rep_false]; decide)]
      exact bl_drew (bl_refl w)
def cellAt (v : Value) (k : Nat) : Value := match v with | .agg c => c.getD k undef | v => v
def put4 (R : Nat) (v : Value) (W : World) : World := (((W.setCell ⟨R, 0, none⟩ (cellAt v 0)).setCell ⟨R, 1, none⟩ (cellAt v 1)).setCell ⟨R, 2, none⟩ (cellAt v 2)).setCell ⟨R, 3, none⟩ (cellAt v 3)
def put1 (R k : Nat) (v : Value) (W : World) : World := W.setCell ⟨R, k, none⟩ v
theorem put4_far {R : Nat} {v : Value} {W : World} {a : Addr} (h : a.block ≠ R) : (put4 R v W).cell? a = W.cell? a := by
  have f : ∀ (W : World) (k : Nat) (v : Value), (W.setCell ⟨R, k, none⟩ v).cell? a = W.cell? a := fun W k v => by
    apply World.cell?_setCell_other
    rintro rfl
    exact h rfl
  unfold put4
  rw [f, f, f, f]
theorem put4_at {R : Nat} {v p0 p1 p2 p3 : Value} {W : World} (h0 : W.cell? ⟨R, 0, none⟩ = some p0) (h1 : W.cell? ⟨R, 1, none⟩ = some p1) (h2 : W.cell? ⟨R, 2, none⟩ = some p2) (h3 : W.cell? ⟨R, 3, none⟩ = some p3) :
    (put4 R v W).cell? ⟨R, 0, none⟩ = some (cellAt v 0) ∧ (put4 R v W).cell? ⟨R, 1, none⟩ = some (cellAt v 1) ∧ (put4 R v W).cell? ⟨R, 2, none⟩ = some (cellAt v 2) ∧ (put4 R v W).cell? ⟨R, 3, none⟩ = some (cellAt v 3) := by
  obtain ⟨W', rfl, a, b, c, d, _⟩ := put4_all (W := W) (n := R) (p := cellAt v 0) (q := cellAt v 1) (r := cellAt v 2) (s := cellAt v 3) h0 h1 h2 h3
  exact ⟨a, b, c, d⟩
theorem put1_far {R k : Nat} {v : Value} {W : World} {a : Addr} (h : a.block ≠ R ∨ a.off ≠ k) : (put1 R k v W).cell? a = W.cell? a := by
  unfold put1
  apply World.cell?_setCell_other
  rintro rfl
  rcases h with h | h <;> exact h rfl
theorem put4_bel {w0 W : World} {R : Nat} {v : Value} (h : Bel w0 W) (hR : w0.heap.size ≤ R) : Bel w0 (put4 R v W) := bl_set (bl_set (bl_set (bl_set h hR) hR) hR) hR
theorem put1_bel {w0 W : World} {R k : Nat} {v : Value} (h : Bel w0 W) (hR : w0.heap.size ≤ R) : Bel w0 (put1 R k v W) := bl_set h hR
theorem once_keep4 {w W : World} {R : Nat} {Rl : Value → Prop} {a : Addr} {v : Value} (h : Once w (put4 R) Rl W) (hz : w.cell? a = some v) (hne : a.block ≠ R) : W.cell? a = some v := by
  have key : ∀ {p q : World}, Bel p q → p.cell? a = some v → q.cell? a = some v := fun hb hc => (hb.1.cell (World.block_lt_of_cell? _ _ hc)).trans hc
  rcases h with h | ⟨u, W0, _, h1, h2⟩
  · exact key h hz
  · exact key h2 ((put4_far hne).trans (key h1 hz))
theorem once_keep1 {w W : World} {R k : Nat} {Rl : Value → Prop} {a : Addr} {v : Value} (h : Once w (put1 R k) Rl W) (hz : w.cell? a = some v) (hne : a.block ≠ R ∨ a.off ≠ k) : W.cell? a = some v := by
  have key : ∀ {p q : World}, Bel p q → p.cell? a = some v → q.cell? a = some v := fun hb hc => (hb.1.cell (World.block_lt_of_cell? _ _ hc)).trans hc
  rcases h with h | ⟨u, W0, _, h1, h2⟩
  · exact key h hz
  · exact key h2 ((put1_far hne).trans (key h1 hz))
theorem once_bel4 {w0 w W : World} {R : Nat} {Rl : Value → Prop} (h : Once w (put4 R) Rl W) (hb : Bel w0 w) (hR : w0.heap.size ≤ R) : Bel w0 W := by
  rcases h with h | ⟨u, W0, _, h1, h2⟩
  · exact bl_trans hb h
  · exact bl_trans (put4_bel (bl_trans hb h1) hR) h2
theorem once_bel1 {w0 w W : World} {R k : Nat} {Rl : Value → Prop} (h : Once w (put1 R k) Rl W) (hb : Bel w0 w) (hR : w0.heap.size ≤ R) : Bel w0 W := by
  rcases h with h | ⟨u, W0, _, h1, h2⟩
  · exact bl_trans hb h
  · exact bl_trans (put1_bel (bl_trans hb h1) hR) h2
end Go.Proofs.Ytoofbfjlgablkaa
