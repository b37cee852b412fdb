/-
  Plain facts on floats, more: rounding to the nearest rung, sums and products of finite floats, signs turned. No program is named here.
-/
import Derived.Test.YtcdnhkjedmmhpaaMulti
namespace Go.Proofs.Ytcdnhkjedmmhpaa
open Ieee Go.RowKit
set_option linter.unusedSimpArgs false
set_option linter.unusedVariables false

/-! ### A region that draws its order and stores once, into a block that was there (a function's result): by what each operation gives -/
def retB (ops : Array Oper) (t sz : Nat) : Bool := Region.noSelect ops && (List.range ops.size).all (fun i => (match ops[i]? with | some o => o.guard.isNone | none => false) &&
    (if i == t then (dstO ops i).isNone else match dstO ops i with | some d => decide (d < sz) && !(looksO ops i).contains d | none => false) &&
    (List.range ops.size).all (fun j => i == j || (dstO ops i != dstO ops j && (match dstO ops j with | some d => !(looksO ops i).contains d || bnd ops i j | none => true)))) &&
  (List.range ops.size).all (fun i => match ops[i]? with | some o => o.after.all (fun e => decide (e.on < i)) | none => true)
theorem upon_carry0 {P : Program} {o : Oper} {A a : Act} {N : World → Prop} {K : Act → World → Prop} {Q : Exit → Act → World → Prop} {r : Result Next} (hd : o.dst = none)
    (h : o.upon P A (fun a' w' => a' = A ∧ N w') (fun _ _ _ => False) r) (hK : ∀ w', N w' → K a w') : o.upon P a K Q r := by
  have val : ∀ u w', (A.put o.dst u = A ∧ N w') → K (a.put o.dst u) w' := by
    rintro u w' ⟨_, hn⟩
    rw [hd]
    exact hK w' hn
  cases r with
  | ok n w' =>
    cases n <;> simp only [Oper.upon] at h ⊢
    case value u => exact val u w' h
    case skip => exact val undef w' h
    case defer x =>
      obtain ⟨e, _⟩ := h
      exfalso
      have := congrArg (fun x => x.defers.length) e
      simp [Act.put, hd] at this
    case enter f args =>
      refine Calls.mono h (fun e w'' he => ?_)
      cases e with
      | returned v => exact val v w'' he
      | panicked c => exact he.elim
      | outgrown => obtain ⟨_, _, hx⟩ := he; exact hx.elim
    case row f args => exact Rows.mono h (fun v w'' he => val v w'' he)
    all_goals exact h.elim
  | halt x w' => cases x <;> simp only [Oper.upon] at h ⊢
/-- what is there: as it was, or with the one thing stored -/
def Once (w : World) (st : Value → World → World) (R : Value → Prop) (W : World) : Prop := Bel w W ∨ ∃ v W0, R v ∧ Bel w W0 ∧ Bel (st v W0) W
theorem wp_region_ret {P : Program} {id : Nat} {Q : Exit → Act → World → Prop} {a0 : Act} {w : World} {l : List Oper} (n t d : Nat) (hnl : l.length = n) (Rel : Nat → Value → Prop) (st : Value → World → World) (A : (Nat → Value) → Act) (hm : P.follows .mixedOrders = true) (hB : retB l.toArray t a0.tmps.size = true) (hbd : bnd l.toArray t d = true) (hdl : d < n) (htl : t < n)
    (hA : ∀ s, putL l.toArray a0 (fun _ => true) s n = A s)
    (hst : ∀ o, l[t]? = some o → ∀ s : Nat → Value, (∀ j, j < n → bnd l.toArray t j = true → Rel j (s j)) → ∀ W, Bel w W → ∀ K : Act → World → Prop, Veil (K (A s) (st (s d) W)) → Oper.wp P o (A s) W K (fun _ _ _ => False))
    (hq : ∀ i o, i < n → i ≠ t → l[i]? = some o → ∀ s : Nat → Value, (∀ j, j < n → j ≠ t → bnd l.toArray i j = true → Rel j (s j)) → ∀ W, Once w st (Rel d) W → ∀ K : Act → World → Prop, Veil (∀ v W', Rel i v → Bel W W' → K ((A s).put o.dst v) W') →
      Oper.wp P o (A s) W K (fun _ _ _ => False))
    (ht : ∀ s : Nat → Value, (∀ j, j < n → j ≠ t → Rel j (s j)) → ∀ W0 W, Bel w W0 → Bel (st (s d) W0) W → Q .normal (A s) W) :
    (Code.region id l.toArray true).wp P Q a0 w := by
  subst hnl
  have hz : l.toArray.size = l.length := by simp
  simp only [retB, Bool.and_eq_true, decide_eq_true_eq, List.all_eq_true, List.mem_range, Bool.or_eq_true] at hB
  obtain ⟨⟨hns, hpre⟩, hdown⟩ := hB
  rw [hz] at hpre hdown
  have hgl : ∀ i : Nat, l.toArray[i]? = l[i]? := fun i => by simp
  have hdt : d ≠ t := by
    rintro rfl
    obtain ⟨e, he, _, h2⟩ := (bnd_of (by rw [hgl, List.getElem?_eq_getElem htl])).1 hbd
    have h1 := hdown d htl
    rw [hgl, List.getElem?_eq_getElem htl] at h1
    simp only [Array.all_eq_true_iff_forall_mem, decide_eq_true_eq] at h1
    have := h1 e he
    omega
  let I : Array Bool → Act → World → Prop := fun lis a W =>
    lis.size = l.length ∧ shutB l.toArray lis ∧
    ∃ s : Nat → Value, a = putL l.toArray a0 (fun i => lis.getD i false) s l.length ∧ (∀ j, j < l.length → j ≠ t → lis.getD j false = true → Rel j (s j)) ∧
      (if lis.getD t false = true then ∃ W0, Bel w W0 ∧ Bel (st (s d) W0) W else Bel w W)
  refine wp_region_any hm (wpAny_inv I ?_ ?_ _ _ _ _ (by simp) ?_)
  · rintro lis a W i ⟨hsz, hsh, s, rfl, hrel, hw⟩ hi
    obtain ⟨hun, o, ho, hall⟩ := mem_ready.1 hi
    have ho' : l[i]? = some o := by rw [← hgl]; exact ho
    have hil : i < l.length := by
      rcases Nat.lt_or_ge i l.length with h' | h'
      · exact h'
      · rw [List.getElem?_eq_none h'] at ho'; cases ho'
    have hun' : lis.getD i false = false := by simpa [hsz, hil] using hun
    have hdep : ∀ j, bnd l.toArray i j = true → lis.getD j false = true := fun j hj => by
      obtain ⟨e, he, hb, rfl⟩ := (bnd_of ho).1 hj
      exact hall e he hb
    have hsh' := shut_set hsh hdep (by rw [hsz]; exact hil)
    have hp := hpre i hil
    simp only [ho] at hp
    obtain ⟨⟨hg, hd⟩, hrow⟩ := hp
    have hdo : dstO l.toArray i = o.dst := by simp [dstO, ho']
    have hg' : o.guard = none := by simpa using hg
    have hwn : Region.wanted o (yielded l.toArray (putL l.toArray a0 (fun i => lis.getD i false) s l.length).tmps) = true := by simp [Region.wanted, hg']
    have hLn : ∀ j, j ≠ i → (lis.setIfInBounds i true).getD j false = lis.getD j false := fun j hj => getD_set_ne false (fun e => hj e.symm)
    have hLi : (lis.setIfInBounds i true).getD i false = true := getD_set_self (by rw [hsz]; exact hil) false
    have hdis : ∀ j, j < l.length → j ≠ i → dstO l.toArray i ≠ dstO l.toArray j ∨ dstO l.toArray j = none := by
      intro j hj hne
      rcases hrow j hj with h1 | h1
      · simp at h1; omega
      · left; simpa using h1.1
    have hself : ∀ d', o.dst = some d' → i ≠ t → d' ∉ looksO l.toArray i := by
      intro d' h1 h2
      rw [if_neg (by simpa using h2), hdo, h1] at hd
      simp only [Bool.and_eq_true, decide_eq_true_eq, Bool.not_eq_true', List.contains_eq_mem, decide_eq_false_iff_not] at hd
      exact hd.2
    unfold wpOp
    rw [ho]
    simp only [hwn, if_true]
    left
    have hex : execOp (putL l.toArray a0 (fun i => lis.getD i false) s l.length).eval o = execOp (putL l.toArray a0 (fun _ => true) s l.length).eval o := by
      apply execOp_congr o (fun cs b => Region.noSelect_spec hns i o cs b ho)
      intro x hx
      apply putL_eval
      intro j hj hlj d' hd' hxd
      subst hxd
      have hlk : d' ∈ looksO l.toArray i := by unfold looksO; rw [ho]; exact List.mem_append_left _ (List.mem_filterMap.2 ⟨.tmp d', by simpa using hx, rfl⟩)
      by_cases e : i = j
      · subst e
        rw [hdo] at hd'
        by_cases ht' : i = t
        · subst ht'
          simp only [beq_self_eq_true, if_true] at hd
          rw [hdo, hd'] at hd
          cases hd
        · exact hself d' hd' ht' hlk
      · rcases hrow j hj with h1 | h1
        · simp at h1; exact e h1
        · have h2 := h1.2
          rw [hd'] at h2
          simp only [Bool.or_eq_true, Bool.not_eq_true', List.contains_eq_mem, decide_eq_false_iff_not] at h2
          rcases h2 with h2 | h2
          · exact h2 hlk
          · have := hdep j h2
            simp only [hlj] at this
            cases this
    by_cases ht' : i = t
    · subst ht'
      simp only [beq_self_eq_true, if_true] at hd
      have hdn : o.dst = none := by rw [hdo] at hd; simpa using hd
      rw [if_neg (by rw [hun']; decide)] at hw
      have hb : ∀ j, j < l.length → bnd l.toArray i j = true → Rel j (s j) := fun j hj hb => hrel j hj (by
        rintro rfl
        have := hdep j hb
        rw [hun'] at this
        cases this) (hdep j hb)
      have h1 := hst o ho' s hb W hw (fun a' W' => a' = A s ∧ W' = st (s d) W) ⟨rfl, rfl⟩
      unfold Oper.wp at h1 ⊢
      rw [hex, hA]
      refine upon_carry0 hdn h1 ?_
      rintro W' rfl
      refine ⟨by simpa using hsz, hsh', s, ?_, fun j hj hne hl => hrel j hj hne (by rwa [hLn j hne] at hl), ?_⟩
      · have e1 : ∀ k, putL l.toArray a0 (fun j => lis.getD j false) s k = putL l.toArray a0 (fun j => (lis.setIfInBounds i true).getD j false) s k := by
          intro k
          induction k with
          | zero => rfl
          | succ k ih =>
            unfold putL
            by_cases e : k = i
            · subst e
              rw [if_pos hLi, if_neg (by rw [hun']; decide), hdo, hdn, ← ih]
              rfl
            · rw [hLn k e, ih]
        exact e1 _
      · rw [if_pos hLi]
        exact ⟨W, hw, bl_refl _⟩
    · have hdd : ∃ d', o.dst = some d' := by
        rw [if_neg (by simpa using ht')] at hd
        cases hx : o.dst with
        | none => rw [hdo, hx] at hd; simp at hd
        | some d' => exact ⟨d', rfl⟩
      obtain ⟨d', hdd⟩ := hdd
      have hds : d' < a0.tmps.size := by
        rw [if_neg (by simpa using ht'), hdo, hdd] at hd
        simp only [Bool.and_eq_true, decide_eq_true_eq] at hd
        exact hd.1
      have hput : ∀ v, (putL l.toArray a0 (fun i => lis.getD i false) s l.length).put o.dst v = putL l.toArray a0 (fun j => (lis.setIfInBounds i true).getD j false) (updS s i v) l.length := fun v => by
        rw [← hdo]
        exact putL_put (L := fun i => lis.getD i false) (L' := fun j => (lis.setIfInBounds i true).getD j false) hun' hLi hLn l.length hil hdis
      have hon : Once w st (Rel d) W := by
        by_cases e : lis.getD t false = true
        · rw [if_pos e] at hw
          obtain ⟨W0, h1, h2⟩ := hw
          exact .inr ⟨s d, W0, hrel d hdl hdt (hsh t d e hbd), h1, h2⟩
        · rw [if_neg e] at hw
          exact .inl hw
      have hb' : ∀ j, j < l.length → j ≠ t → bnd l.toArray i j = true → Rel j (s j) := fun j hj hne h => hrel j hj hne (hdep j h)
      · have h1 := hq i o hil ht' ho' s hb' W hon (fun a' W' => ∃ v, a' = (A s).put (some d') v ∧ Rel i v ∧ Bel W W') (fun v W' hv hb => ⟨v, by rw [hdd], hv, hb⟩)
        unfold Oper.wp at h1 ⊢
        rw [hex, hA]
        refine upon_carry hdd (by rw [← hA, (putL_size _).1]; exact hds) h1 ?_
        rintro v W' ⟨hv, hbW⟩
        refine ⟨by simpa using hsz, hsh', _, hput v, ?_, ?_⟩
        · intro j hj hne hl
          by_cases e : j = i
          · subst e; simpa [updS] using hv
          · rw [hLn j e] at hl
            simpa [updS, e] using hrel j hj hne hl
        · rw [hLn t (fun e => ht' e.symm)]
          by_cases e : lis.getD t false = true
          · rw [if_pos e] at hw ⊢
            obtain ⟨W0, h1, h2⟩ := hw
            have hdi : d ≠ i := by
              rintro rfl
              have := hsh t d e hbd
              rw [hun'] at this
              cases this
            exact ⟨W0, h1, by simpa [updS, hdi] using bl_trans h2 hbW⟩
          · rw [if_neg e] at hw ⊢
            exact bl_trans hw hbW
  · rintro lis a W ⟨hsz, hsh, s, rfl, hrel, hw⟩ hr0
    have hallL : ∀ j, j < l.length → lis.getD j false = true := by
      intro j
      induction j using Nat.strongRecOn with
      | _ j ih =>
        intro hj
        cases hc : lis.getD j false with
        | true => rfl
        | false =>
          exfalso
          have : j ∈ Region.ready .any l.toArray lis := by
            refine mem_ready.2 ⟨by simpa [hsz, hj] using hc, l[j], by simp [hj], fun e he _ => ?_⟩
            have h1 := hdown j hj
            rw [hgl, List.getElem?_eq_getElem hj] at h1
            simp only [Array.all_eq_true_iff_forall_mem, decide_eq_true_eq] at h1
            have h2 := h1 e he
            exact ih e.on h2 (by omega)
          rw [hr0] at this
          cases this
    have hT : putL l.toArray a0 (fun j => lis.getD j false) s l.length = A s := by
      rw [← hA]
      exact putL_congr _ (fun j hj => ⟨hallL j hj, rfl⟩)
    rw [if_pos (hallL t htl)] at hw
    obtain ⟨W0, h1, h2⟩ := hw
    rw [hT]
    exact ht s (fun j hj hne => hrel j hj hne (hallL j hj)) W0 W h1 h2
  · refine ⟨by simp, ?_, fun _ => undef, ?_, ?_, ?_⟩
    · intro k j hk; rw [rep_false] at hk; cases hk
    · have : ∀ k, putL l.toArray a0 (fun i => (Array.replicate l.toArray.size false).getD i false) (fun _ => undef) k = a0 := by
        intro k
        induction k with
        | zero => rfl
        | succ k ih => unfold putL; rw [if_neg (by rw [rep_false]; decide), ih]
      exact (this _).symm
    · intro j _ _ h; rw [rep_false] at h; cases h
    · rw [if_neg (by rw [rep_false]; decide)]
      exact bl_drew (bl_refl w)
def cellAt (v : Value) (k : Nat) : Value := match v with | .agg c => c.getD k undef | v => v
def put4 (R : Nat) (v : Value) (W : World) : World := (((W.setCell ⟨R, 0, none⟩ (cellAt v 0)).setCell ⟨R, 1, none⟩ (cellAt v 1)).setCell ⟨R, 2, none⟩ (cellAt v 2)).setCell ⟨R, 3, none⟩ (cellAt v 3)
def put1 (R k : Nat) (v : Value) (W : World) : World := W.setCell ⟨R, k, none⟩ v
theorem put4_far {R : Nat} {v : Value} {W : World} {a : Addr} (h : a.block ≠ R) : (put4 R v W).cell? a = W.cell? a := by
  have f : ∀ (W : World) (k : Nat) (v : Value), (W.setCell ⟨R, k, none⟩ v).cell? a = W.cell? a := fun W k v => by
    apply World.cell?_setCell_other
    rintro rfl
    exact h rfl
  unfold put4
  rw [f, f, f, f]
theorem put4_at {R : Nat} {v p0 p1 p2 p3 : Value} {W : World} (h0 : W.cell? ⟨R, 0, none⟩ = some p0) (h1 : W.cell? ⟨R, 1, none⟩ = some p1) (h2 : W.cell? ⟨R, 2, none⟩ = some p2) (h3 : W.cell? ⟨R, 3, none⟩ = some p3) :
    (put4 R v W).cell? ⟨R, 0, none⟩ = some (cellAt v 0) ∧ (put4 R v W).cell? ⟨R, 1, none⟩ = some (cellAt v 1) ∧ (put4 R v W).cell? ⟨R, 2, none⟩ = some (cellAt v 2) ∧ (put4 R v W).cell? ⟨R, 3, none⟩ = some (cellAt v 3) := by
  obtain ⟨W', rfl, a, b, c, d, _⟩ := put4_all (W := W) (n := R) (p := cellAt v 0) (q := cellAt v 1) (r := cellAt v 2) (s := cellAt v 3) h0 h1 h2 h3
  exact ⟨a, b, c, d⟩
theorem put1_far {R k : Nat} {v : Value} {W : World} {a : Addr} (h : a.block ≠ R ∨ a.off ≠ k) : (put1 R k v W).cell? a = W.cell? a := by
  unfold put1
  apply World.cell?_setCell_other
  rintro rfl
  rcases h with h | h <;> exact h rfl
theorem put4_bel {w0 W : World} {R : Nat} {v : Value} (h : Bel w0 W) (hR : w0.heap.size ≤ R) : Bel w0 (put4 R v W) := bl_set (bl_set (bl_set (bl_set h hR) hR) hR) hR
theorem put1_bel {w0 W : World} {R k : Nat} {v : Value} (h : Bel w0 W) (hR : w0.heap.size ≤ R) : Bel w0 (put1 R k v W) := bl_set h hR
theorem once_keep4 {w W : World} {R : Nat} {Rl : Value → Prop} {a : Addr} {v : Value} (h : Once w (put4 R) Rl W) (hz : w.cell? a = some v) (hne : a.block ≠ R) : W.cell? a = some v := by
  have key : ∀ {p q : World}, Bel p q → p.cell? a = some v → q.cell? a = some v := fun hb hc => (hb.1.cell (World.block_lt_of_cell? _ _ hc)).trans hc
  rcases h with h | ⟨u, W0, _, h1, h2⟩
  · exact key h hz
  · exact key h2 ((put4_far hne).trans (key h1 hz))
theorem once_keep1 {w W : World} {R k : Nat} {Rl : Value → Prop} {a : Addr} {v : Value} (h : Once w (put1 R k) Rl W) (hz : w.cell? a = some v) (hne : a.block ≠ R ∨ a.off ≠ k) : W.cell? a = some v := by
  have key : ∀ {p q : World}, Bel p q → p.cell? a = some v → q.cell? a = some v := fun hb hc => (hb.1.cell (World.block_lt_of_cell? _ _ hc)).trans hc
  rcases h with h | ⟨u, W0, _, h1, h2⟩
  · exact key h hz
  · exact key h2 ((put1_far hne).trans (key h1 hz))
theorem once_bel4 {w0 w W : World} {R : Nat} {Rl : Value → Prop} (h : Once w (put4 R) Rl W) (hb : Bel w0 w) (hR : w0.heap.size ≤ R) : Bel w0 W := by
  rcases h with h | ⟨u, W0, _, h1, h2⟩
  · exact bl_trans hb h
  · exact bl_trans (put4_bel (bl_trans hb h1) hR) h2
theorem once_bel1 {w0 w W : World} {R k : Nat} {Rl : Value → Prop} (h : Once w (put1 R k) Rl W) (hb : Bel w0 w) (hR : w0.heap.size ≤ R) : Bel w0 W := by
  rcases h with h | ⟨u, W0, _, h1, h2⟩
  · exact bl_trans hb h
  · exact bl_trans (put1_bel (bl_trans hb h1) hR) h2
end Go.Proofs.Ytcdnhkjedmmhpaa
namespace Go.Proofs.Ytcdnhkjedmmhpaa
open Ieee Go.RowKit
set_option linter.unusedSimpArgs false
set_option linter.unusedVariables false

/-! ### A store of n cells into one block, as one world -/
def putN (R : Nat) : Nat → Value → World → World
  | 0, _, W => W
  | k + 1, v, W => (putN R k v W).setCell ⟨R, k, none⟩ (cellAt v k)
theorem putN_far {R : Nat} {v : Value} {W : World} {a : Addr} : ∀ n, a.block ≠ R → (putN R n v W).cell? a = W.cell? a := by
  intro n
  induction n with
  | zero => intro _; rfl
  | succ n ih =>
    intro h
    refine Eq.trans ?_ (ih h)
    apply World.cell?_setCell_other
    rintro rfl
    exact h rfl
theorem putN_bel {w0 W : World} {R : Nat} {v : Value} (h : Bel w0 W) (hR : w0.heap.size ≤ R) : ∀ n, Bel w0 (putN R n v W) := by
  intro n
  induction n with
  | zero => exact h
  | succ n ih => exact bl_set ih hR
theorem putN_off {R i : Nat} {v : Value} {W : World} : ∀ n, n ≤ i → (putN R n v W).cell? ⟨R, i, none⟩ = W.cell? ⟨R, i, none⟩ := by
  intro n
  induction n with
  | zero => intro _; rfl
  | succ n ih =>
    intro h
    refine Eq.trans ?_ (ih (by omega))
    apply World.cell?_setCell_other
    intro e
    injection e
    omega
theorem putN_at {R : Nat} {v : Value} {W : World} : ∀ n, (∀ i, i < n → (W.cell? ⟨R, i, none⟩).isSome = true) → ∀ i, i < n → (putN R n v W).cell? ⟨R, i, none⟩ = some (cellAt v i) := by
  intro n
  induction n with
  | zero => intro _ i hi; omega
  | succ n ih =>
    intro h i hi
    by_cases e : i = n
    · subst e
      obtain ⟨u, hu⟩ := Option.isSome_iff_exists.1 (h i (by omega))
      exact World.cell?_setCell_same _ _ _ ((putN_off i (Nat.le_refl _)).trans hu)
    · refine Eq.trans ?_ (ih (fun j hj => h j (by omega)) i (by omega))
      apply World.cell?_setCell_other
      intro e'
      injection e'
      omega
theorem putN2_eq {R : Nat} {v0 v1 : Value} {W : World} : putN R 2 (.agg #[v0, v1]) W = ((W.setCell ⟨R, 0, none⟩ v0).setCell ⟨R, 1, none⟩ v1) := by simp [putN, cellAt, Array.getD]
theorem putN3_eq {R : Nat} {v0 v1 v2 : Value} {W : World} : putN R 3 (.agg #[v0, v1, v2]) W = (((W.setCell ⟨R, 0, none⟩ v0).setCell ⟨R, 1, none⟩ v1).setCell ⟨R, 2, none⟩ v2) := by simp [putN, cellAt, Array.getD]
theorem putN4_eq {R : Nat} {v0 v1 v2 v3 : Value} {W : World} : putN R 4 (.agg #[v0, v1, v2, v3]) W = ((((W.setCell ⟨R, 0, none⟩ v0).setCell ⟨R, 1, none⟩ v1).setCell ⟨R, 2, none⟩ v2).setCell ⟨R, 3, none⟩ v3) := by simp [putN, cellAt, Array.getD]
theorem putN5_eq {R : Nat} {v0 v1 v2 v3 v4 : Value} {W : World} : putN R 5 (.agg #[v0, v1, v2, v3, v4]) W = (((((W.setCell ⟨R, 0, none⟩ v0).setCell ⟨R, 1, none⟩ v1).setCell ⟨R, 2, none⟩ v2).setCell ⟨R, 3, none⟩ v3).setCell ⟨R, 4, none⟩ v4) := by simp [putN, cellAt, Array.getD]
theorem putN6_eq {R : Nat} {v0 v1 v2 v3 v4 v5 : Value} {W : World} : putN R 6 (.agg #[v0, v1, v2, v3, v4, v5]) W = ((((((W.setCell ⟨R, 0, none⟩ v0).setCell ⟨R, 1, none⟩ v1).setCell ⟨R, 2, none⟩ v2).setCell ⟨R, 3, none⟩ v3).setCell ⟨R, 4, none⟩ v4).setCell ⟨R, 5, none⟩ v5) := by simp [putN, cellAt, Array.getD]
theorem once_keepN {w W : World} {R n : Nat} {Rl : Value → Prop} {a : Addr} {v : Value} (h : Once w (putN R n) Rl W) (hz : w.cell? a = some v) (hne : a.block ≠ R) : W.cell? a = some v := by
  have key : ∀ {p q : World}, Bel p q → p.cell? a = some v → q.cell? a = some v := fun hb hc => (hb.1.cell (World.block_lt_of_cell? _ _ hc)).trans hc
  rcases h with h | ⟨u, W0, _, h1, h2⟩
  · exact key h hz
  · exact key h2 ((putN_far n hne).trans (key h1 hz))
theorem once_belN {w0 w W : World} {R n : Nat} {Rl : Value → Prop} (h : Once w (putN R n) Rl W) (hb : Bel w0 w) (hR : w0.heap.size ≤ R) : Bel w0 W := by
  rcases h with h | ⟨u, W0, _, h1, h2⟩
  · exact bl_trans hb h
  · exact bl_trans (putN_bel (bl_trans hb h1) hR n) h2
end Go.Proofs.Ytcdnhkjedmmhpaa
namespace Go.Proofs.Ytcdnhkjedmmhpaa
open Ieee Go.RowKit
set_option linter.unusedSimpArgs false
set_option linter.unusedVariables false

/-! ### A region that draws its order, lays blocks and stores into them (a, e := F(..) with structs among the results): by what each operation gives.
al: the operations that lay a block, with its cells and its type; st: the stores: (operation, the operation that laid the block, the operation whose value is stored) -/
def alO (al : List (Nat × Array Value × TypeId)) (i : Nat) : Option (Array Value × TypeId) := (al.find? (fun x => x.1 == i)).map (·.2)
def tsO (st : List (Nat × Nat × Nat)) (t : Nat) : Option (Nat × Nat) := (st.find? (fun x => x.1 == t)).map (·.2)
def saO (st : List (Nat × Nat × Nat)) (a : Nat) : Option (Nat × Nat) := (st.find? (fun x => x.2.1 == a)).map (fun x => (x.1, x.2.2))
def newB (ops : Array Oper) (al : List Nat) (st : List (Nat × Nat × Nat)) (sz : Nat) : Bool := Region.noSelect ops && (List.range ops.size).all (fun i => (match ops[i]? with | some o => o.guard.isNone | none => false) &&
    (if (tsO st i).isSome then (dstO ops i).isNone else match dstO ops i with | some d => decide (d < sz) && !(looksO ops i).contains d | none => false) &&
    (List.range ops.size).all (fun j => i == j || ((dstO ops i != dstO ops j || (dstO ops j).isNone) && (match dstO ops j with | some d => !(looksO ops i).contains d || bnd ops i j | none => true)))) &&
  (List.range ops.size).all (fun i => match ops[i]? with | some o => o.after.all (fun e => !Region.binds .any e || decide (e.on < i)) | none => true) &&
  (List.range ops.size).all (fun t => match tsO st t with | some (a, d) => bnd ops t a && bnd ops t d && decide (a < ops.size) && decide (d < ops.size) && al.contains a && !al.contains d && !al.contains t && (tsO st a).isNone && (tsO st d).isNone && saO st a == some (t, d) | none => true) &&
  (List.range ops.size).all (fun a => match saO st a with | some (t, d) => tsO st t == some (a, d) && decide (t < ops.size) | none => true)
/-- the block that an operation laid, and what lies in it now -/
def NewJ (w : World) (n : Nat) (al : List (Nat × Array Value × TypeId)) (st : List (Nat × Nat × Nat)) (L : Nat → Bool) (s : Nat → Value) (W : World) : Prop :=
  (∀ i c ty, i < n → alO al i = some (c, ty) → L i = true → ∃ b, s i = .pointer (some ⟨b, 0, none⟩) ∧ w.heap.size ≤ b ∧ b < W.heap.size ∧
    ∀ k, k < c.size → W.cell? ⟨b, k, none⟩ = some (match saO st i with | some (t, d) => if L t = true then cellAt (s d) k else c.getD k undef | none => c.getD k undef)) ∧
  ∀ i j, i < n → j < n → i ≠ j → (alO al i).isSome = true → (alO al j).isSome = true → L i = true → L j = true → s i ≠ s j
theorem putN_size {R : Nat} {v : Value} {W : World} : ∀ n, (putN R n v W).heap.size = W.heap.size := by
  intro n
  induction n with
  | zero => rfl
  | succ n ih => simp only [putN, World.size_setCell]; exact ih
theorem bel_cell {W W' : World} {b k : Nat} {v : Value} (h : Bel W W') (hc : W.cell? ⟨b, k, none⟩ = some v) : W'.cell? ⟨b, k, none⟩ = some v := (h.1.cell (World.block_lt_of_cell? _ _ hc)).trans hc
theorem wp_region_new {P : Program} {id : Nat} {Q : Exit → Act → World → Prop} {a0 : Act} {w : World} {l : List Oper} (n : Nat) (hnl : l.length = n) (Rel : Nat → Value → Prop) (al : List (Nat × Array Value × TypeId)) (st : List (Nat × Nat × Nat)) (A : (Nat → Value) → Act) (hm : P.follows .mixedOrders = true)
    (hB : newB l.toArray (al.map (·.1)) st a0.tmps.size = true) (hA : ∀ s, putL l.toArray a0 (fun _ => true) s n = A s)
    (ha : ∀ i o c ty, i < n → l[i]? = some o → alO al i = some (c, ty) → ∀ (B : Act) (W : World) (K : Act → World → Prop), Veil (K (B.put o.dst (.pointer (some ⟨W.heap.size, 0, none⟩))) (W.alloc (.cells c ty))) → Oper.wp P o B W K (fun _ _ _ => False))
    (hst : ∀ t o a d c ty, t < n → l[t]? = some o → tsO st t = some (a, d) → alO al a = some (c, ty) → ∀ s : Nat → Value, (∀ j, j < n → alO al j = none → tsO st j = none → bnd l.toArray t j = true → Rel j (s j)) → ∀ (W : World) (b : Nat), s a = .pointer (some ⟨b, 0, none⟩) → (∀ k, k < c.size → (W.cell? ⟨b, k, none⟩).isSome = true) → (∀ o, W.frozen? ⟨b, o, none⟩ = false) → ∀ K : Act → World → Prop, Veil (K (A s) (putN b c.size (s d) W)) → Oper.wp P o (A s) W K (fun _ _ _ => False))
    (hq : ∀ i o, i < n → alO al i = none → tsO st i = none → l[i]? = some o → ∀ s : Nat → Value, (∀ j, j < n → alO al j = none → tsO st j = none → bnd l.toArray i j = true → Rel j (s j)) → ∀ W, Bel w W → ∀ K : Act → World → Prop, Veil (∀ v W', Rel i v → Bel W W' → K ((A s).put o.dst v) W') → Oper.wp P o (A s) W K (fun _ _ _ => False))
    (ht : ∀ s : Nat → Value, (∀ j, j < n → alO al j = none → tsO st j = none → Rel j (s j)) → ∀ W, Bel w W → NewJ w n al st (fun _ => true) s W → Q .normal (A s) W) :
    (Code.region id l.toArray true).wp P Q a0 w := by
  subst hnl
  have hz : l.toArray.size = l.length := by simp
  simp only [newB, Bool.and_eq_true, decide_eq_true_eq, List.all_eq_true, List.mem_range, Bool.or_eq_true] at hB
  obtain ⟨⟨⟨⟨hns, hpre⟩, hdown⟩, hts⟩, hsa⟩ := hB
  rw [hz] at hpre hdown hts hsa
  have hgl : ∀ i : Nat, l.toArray[i]? = l[i]? := fun i => by simp
  have halN : ∀ i, (al.map (·.1)).contains i = true ↔ (alO al i).isSome = true := by
    intro i
    unfold alO
    rw [Option.isSome_map, List.find?_isSome, List.contains_eq_mem, decide_eq_true_eq, List.mem_map]
    constructor
    · rintro ⟨x, hx, rfl⟩; exact ⟨x, hx, by simp⟩
    · rintro ⟨x, hx, hxi⟩; exact ⟨x, hx, by simpa using hxi⟩
  have tsF : ∀ t a d, t < l.length → tsO st t = some (a, d) → bnd l.toArray t a = true ∧ bnd l.toArray t d = true ∧ a < l.length ∧ d < l.length ∧ (alO al a).isSome = true ∧ alO al d = none ∧ alO al t = none ∧ tsO st a = none ∧ tsO st d = none ∧ saO st a = some (t, d) := by
    intro t a d ht' h
    have h1 := hts t ht'
    simp only [h] at h1
    simp only [Bool.and_eq_true, decide_eq_true_eq, Bool.not_eq_true', hz] at h1
    obtain ⟨⟨⟨⟨⟨⟨⟨⟨⟨g1, g2⟩, g3⟩, g4⟩, g5⟩, g6⟩, g0⟩, g7⟩, g8⟩, g9⟩ := h1
    have nal : ∀ x, (al.map (·.1)).contains x = false → alO al x = none := fun x g => by
      cases e : alO al x with
      | none => rfl
      | some y =>
        have := (halN x).2 (by rw [e]; rfl)
        rw [this] at g
        cases g
    exact ⟨g1, g2, g3, g4, (halN a).1 g5, nal d g6, nal t g0, by simpa using g7, by simpa using g8, by simpa using g9⟩
  have saF : ∀ a t d, a < l.length → saO st a = some (t, d) → tsO st t = some (a, d) ∧ t < l.length := by
    intro a t d ha' h
    have h1 := hsa a ha'
    simp only [h] at h1
    simp only [Bool.and_eq_true, decide_eq_true_eq, hz, beq_iff_eq] at h1
    exact h1
  let I : Array Bool → Act → World → Prop := fun lis a W =>
    lis.size = l.length ∧ shutB l.toArray lis ∧
    ∃ s : Nat → Value, a = putL l.toArray a0 (fun i => lis.getD i false) s l.length ∧ (∀ j, j < l.length → alO al j = none → tsO st j = none → lis.getD j false = true → Rel j (s j)) ∧ Bel w W ∧ NewJ w l.length al st (fun i => lis.getD i false) s W
  refine wp_region_any hm (wpAny_inv I ?_ ?_ _ _ _ _ (by simp) ?_)
  · rintro lis a W i ⟨hsz, hsh, s, rfl, hrel, hw, hJ⟩ hi
    obtain ⟨hun, o, ho, hall⟩ := mem_ready.1 hi
    have ho' : l[i]? = some o := by rw [← hgl]; exact ho
    have hil : i < l.length := by
      rcases Nat.lt_or_ge i l.length with h' | h'
      · exact h'
      · rw [List.getElem?_eq_none h'] at ho'; cases ho'
    have hun' : lis.getD i false = false := by simpa [hsz, hil] using hun
    have hdep : ∀ j, bnd l.toArray i j = true → lis.getD j false = true := fun j hj => by
      obtain ⟨e, he, hb, rfl⟩ := (bnd_of ho).1 hj
      exact hall e he hb
    have hsh' := shut_set hsh hdep (by rw [hsz]; exact hil)
    have hp := hpre i hil
    simp only [ho] at hp
    obtain ⟨⟨hg, hd⟩, hrow⟩ := hp
    have hdo : dstO l.toArray i = o.dst := by simp [dstO, ho']
    have hg' : o.guard = none := by simpa using hg
    have hwn : Region.wanted o (yielded l.toArray (putL l.toArray a0 (fun i => lis.getD i false) s l.length).tmps) = true := by simp [Region.wanted, hg']
    have hLn : ∀ j, j ≠ i → (lis.setIfInBounds i true).getD j false = lis.getD j false := fun j hj => getD_set_ne false (fun e => hj e.symm)
    have hLi : (lis.setIfInBounds i true).getD i false = true := getD_set_self (by rw [hsz]; exact hil) false
    have hdis : ∀ j, j < l.length → j ≠ i → dstO l.toArray i ≠ dstO l.toArray j ∨ dstO l.toArray j = none := by
      intro j hj hne
      rcases hrow j hj with h1 | h1
      · simp at h1; omega
      · rcases h1.1 with h2 | h2
        · left; simpa using h2
        · right; simpa using h2
    -- what waits for i has not come
    have hlate : ∀ t, bnd l.toArray t i = true → lis.getD t false = false := by
      intro t hb
      cases e : lis.getD t false with
      | false => rfl
      | true =>
        have := hsh t i e hb
        rw [hun'] at this
        cases this
    unfold wpOp
    rw [ho]
    simp only [hwn, if_true]
    left
    have hex : execOp (putL l.toArray a0 (fun i => lis.getD i false) s l.length).eval o = execOp (putL l.toArray a0 (fun _ => true) s l.length).eval o := by
      apply execOp_congr o (fun cs b => Region.noSelect_spec hns i o cs b ho)
      intro x hx
      apply putL_eval
      intro j hj hlj d' hd' hxd
      subst hxd
      have hlk : d' ∈ looksO l.toArray i := by unfold looksO; rw [ho]; exact List.mem_append_left _ (List.mem_filterMap.2 ⟨.tmp d', by simpa using hx, rfl⟩)
      by_cases e : i = j
      · subst e
        rw [hdo] at hd'
        by_cases ht' : (tsO st i).isSome = true
        · rw [if_pos ht', hdo, hd'] at hd
          cases hd
        · rw [if_neg ht', hdo, hd'] at hd
          simp only [Bool.and_eq_true, decide_eq_true_eq, Bool.not_eq_true', List.contains_eq_mem, decide_eq_false_iff_not] at hd
          exact hd.2 hlk
      · rcases hrow j hj with h1 | h1
        · simp at h1; exact e h1
        · have h2 := h1.2
          rw [hd'] at h2
          simp only [Bool.or_eq_true, Bool.not_eq_true', List.contains_eq_mem, decide_eq_false_iff_not] at h2
          rcases h2 with h2 | h2
          · exact h2 hlk
          · have := hdep j h2
            simp only [hlj] at this
            cases this
    have hb : ∀ j, j < l.length → alO al j = none → tsO st j = none → bnd l.toArray i j = true → Rel j (s j) := fun j hj h1 h2 hb => hrel j hj h1 h2 (hdep j hb)
    cases hti : tsO st i with
    | some ad =>
      obtain ⟨a, d⟩ := ad
      obtain ⟨q1, q2, q3, q4, q5, q6, q0, q7, q8, q9⟩ := tsF i a d hil hti
      obtain ⟨⟨c, ty⟩, hac⟩ := Option.isSome_iff_exists.1 q5
      rw [hti] at hd
      simp only [Option.isSome_some, if_true] at hd
      have hdn : o.dst = none := by rw [hdo] at hd; simpa using hd
      obtain ⟨b, e1, e2, e3, e4⟩ := hJ.1 a c ty q3 hac (hdep a q1)
      have hfz : ∀ o, W.frozen? ⟨b, o, none⟩ = false := fun o => (hw.2 _).trans (by simp [World.frozen?, e2])
      have h1 := hst i o a d c ty hil ho' hti hac s hb W b e1 (fun k hk => by rw [e4 k hk]; rfl) hfz (fun a' W' => a' = A s ∧ W' = putN b c.size (s d) W) ⟨rfl, rfl⟩
      unfold Oper.wp at h1 ⊢
      rw [hex, hA]
      refine upon_carry0 hdn h1 ?_
      rintro W' rfl
      refine ⟨by simpa using hsz, hsh', s, ?_, fun j hj n1 n2 hl => hrel j hj n1 n2 ?_, putN_bel hw e2 _, ?_, ?_⟩
      · have e1 : ∀ k, putL l.toArray a0 (fun j => lis.getD j false) s k = putL l.toArray a0 (fun j => (lis.setIfInBounds i true).getD j false) s k := by
          intro k
          induction k with
          | zero => rfl
          | succ k ih =>
            unfold putL
            by_cases e : k = i
            · subst e
              rw [if_pos hLi, if_neg (by rw [hun']; decide), hdo, hdn, ← ih]
              rfl
            · rw [hLn k e, ih]
        exact e1 _
      · rwa [hLn j (by rintro rfl; rw [hti] at n2; cases n2)] at hl
      · intro i' c' ty' hi' hal hL'
        have hne : i' ≠ i := by rintro rfl; rw [q0] at hal; cases hal
        simp only [hLn i' hne] at hL'
        obtain ⟨b', f1, f2, f3, f4⟩ := hJ.1 i' c' ty' hi' hal hL'
        refine ⟨b', f1, f2, by rw [putN_size]; exact f3, fun k hk => ?_⟩
        by_cases ea : i' = a
        · subst ea
          rw [hac] at hal
          cases hal
          rw [e1] at f1
          cases f1
          rw [q9]
          simp only [hLi, if_true]
          exact putN_at c.size (fun k hk => by rw [e4 k hk]; rfl) k hk
        · have hbb : b' ≠ b := by
            rintro rfl
            exact hJ.2 i' a hi' q3 ea (by rw [hal]; rfl) (by rw [hac]; rfl) hL' (hdep a q1) (by rw [f1, e1])
          rw [putN_far c.size (by exact hbb), f4 k hk]
          cases hs' : saO st i' with
          | none => rfl
          | some td =>
            obtain ⟨t', d'⟩ := td
            obtain ⟨g1, g2⟩ := saF i' t' d' hi' hs'
            have hti' : t' ≠ i := by
              rintro rfl
              rw [hti] at g1
              cases g1
              exact ea rfl
            simp only [hLn t' hti']
      · intro i' j' hi' hj' hne h1 h2 l1 l2
        have k1 : i' ≠ i := by rintro rfl; rw [q0] at h1; cases h1
        have k2 : j' ≠ i := by rintro rfl; rw [q0] at h2; cases h2
        simp only [hLn _ k1] at l1
        simp only [hLn _ k2] at l2
        exact hJ.2 i' j' hi' hj' hne h1 h2 l1 l2
    | none =>
      have hdd : ∃ d', o.dst = some d' := by
        rw [hti, if_neg (by simp)] at hd
        cases hx : o.dst with
        | none => rw [hdo, hx] at hd; simp at hd
        | some d' => exact ⟨d', rfl⟩
      obtain ⟨d', hdd⟩ := hdd
      have hds : d' < a0.tmps.size := by
        rw [hti, if_neg (by simp), hdo, hdd] at hd
        simp only [Bool.and_eq_true, decide_eq_true_eq] at hd
        exact hd.1
      have hput : ∀ v, (putL l.toArray a0 (fun i => lis.getD i false) s l.length).put o.dst v = putL l.toArray a0 (fun j => (lis.setIfInBounds i true).getD j false) (updS s i v) l.length := fun v => by
        rw [← hdo]
        exact putL_put (L := fun i => lis.getD i false) (L' := fun j => (lis.setIfInBounds i true).getD j false) hun' hLi hLn l.length hil hdis
      have htn : ∀ t x, tsO st t = some x → t ≠ i := by
        rintro t x h1 rfl
        rw [hti] at h1
        cases h1
      cases hai : alO al i with
      | some cty =>
        obtain ⟨c, ty⟩ := cty
        have h1 := ha i o c ty hil ho' hai (A s) W (fun a' W' => ∃ v, a' = (A s).put (some d') v ∧ v = .pointer (some ⟨W.heap.size, 0, none⟩) ∧ W' = W.alloc (.cells c ty)) ⟨_, by rw [hdd], rfl, rfl⟩
        unfold Oper.wp at h1 ⊢
        rw [hex, hA]
        refine upon_carry hdd (by rw [← hA, (putL_size _).1]; exact hds) h1 ?_
        rintro v W' ⟨rfl, rfl⟩
        have hwz := hw.size
        have bA : Bel W (W.alloc (.cells c ty)) := bl_alloc (bl_refl W) _ _
        refine ⟨by simpa using hsz, hsh', _, hput _, ?_, bl_alloc hw _ _, ?_, ?_⟩
        · intro j hj n1 n2 hl
          have e : j ≠ i := by rintro rfl; rw [hai] at n1; cases n1
          rw [hLn j e] at hl
          simpa [updS, e] using hrel j hj n1 n2 hl
        · intro i' c' ty' hi' hal hL'
          by_cases e : i' = i
          · subst e
            rw [hai] at hal
            cases hal
            refine ⟨W.heap.size, by simp [updS], hwz, by rw [World.size_alloc]; exact Nat.lt_succ_self _, fun k hk => ?_⟩
            rw [World.cell?_alloc_new, Array.getElem?_eq_getElem hk]
            have eg : c.getD k undef = c[k] := by simp [Array.getD, hk]
            cases hs' : saO st i' with
            | none => simp only [eg]
            | some td =>
              obtain ⟨t', d''⟩ := td
              obtain ⟨g1, g2⟩ := saF i' t' d'' hi' hs'
              have hti' := htn t' _ g1
              have hb' := (tsF t' i' d'' g2 g1).1
              simp only [hLn t' hti', hlate t' hb', Bool.false_eq_true, if_false, eg]
          · simp only [hLn i' e] at hL'
            obtain ⟨b', f1, f2, f3, f4⟩ := hJ.1 i' c' ty' hi' hal hL'
            refine ⟨b', by simpa [updS, e] using f1, f2, by rw [World.size_alloc]; omega, fun k hk => ?_⟩
            rw [bel_cell bA (f4 k hk)]
            cases hs' : saO st i' with
            | none => rfl
            | some td =>
              obtain ⟨t', d''⟩ := td
              obtain ⟨g1, g2⟩ := saF i' t' d'' hi' hs'
              have hti' := htn t' _ g1
              obtain ⟨_, _, _, _, _, z6, _⟩ := tsF t' i' d'' g2 g1
              have hdi : d'' ≠ i := by rintro rfl; rw [hai] at z6; cases z6
              simp only [hLn t' hti', updS, if_neg hdi]
        · intro i' j' hi' hj' hne h1 h2 l1 l2
          have key : ∀ x, x < l.length → x ≠ i → (alO al x).isSome = true → lis.getD x false = true → s x ≠ .pointer (some ⟨W.heap.size, 0, none⟩) := by
            intro x hx hxi hxa hxl hxe
            obtain ⟨⟨c2, t2⟩, hc2⟩ := Option.isSome_iff_exists.1 hxa
            obtain ⟨b', f1, f2, f3, f4⟩ := hJ.1 x c2 t2 hx hc2 hxl
            rw [f1] at hxe
            injection hxe with hxe
            injection hxe with hxe
            injection hxe with hxe
            omega
          by_cases k1 : i' = i
          · have k2 : j' ≠ i := fun h => hne (k1.trans h.symm)
            simp only [hLn _ k2] at l2
            have := key j' hj' k2 h2 l2
            subst k1
            simp only [updS, if_true, if_neg k2]
            exact fun h => this h.symm
          · by_cases k2 : j' = i
            · simp only [hLn _ k1] at l1
              have := key i' hi' k1 h1 l1
              subst k2
              simp only [updS, if_true, if_neg k1]
              exact this
            · simp only [hLn _ k1] at l1
              simp only [hLn _ k2] at l2
              simp only [updS, if_neg k1, if_neg k2]
              exact hJ.2 i' j' hi' hj' hne h1 h2 l1 l2
      | none =>
        have h1 := hq i o hil hai hti ho' s hb W hw (fun a' W' => ∃ v, a' = (A s).put (some d') v ∧ Rel i v ∧ Bel W W') (fun v W' hv hb => ⟨v, by rw [hdd], hv, hb⟩)
        unfold Oper.wp at h1 ⊢
        rw [hex, hA]
        refine upon_carry hdd (by rw [← hA, (putL_size _).1]; exact hds) h1 ?_
        rintro v W' ⟨hv, hbW⟩
        have hni : ∀ x, (alO al x).isSome = true → x ≠ i := by rintro x hx rfl; rw [hai] at hx; cases hx
        refine ⟨by simpa using hsz, hsh', _, hput v, ?_, bl_trans hw hbW, ?_, ?_⟩
        · intro j hj n1 n2 hl
          by_cases e : j = i
          · subst e; simpa [updS] using hv
          · rw [hLn j e] at hl
            simpa [updS, e] using hrel j hj n1 n2 hl
        · intro i' c' ty' hi' hal hL'
          have e := hni i' (by rw [hal]; rfl)
          simp only [hLn i' e] at hL'
          obtain ⟨b', f1, f2, f3, f4⟩ := hJ.1 i' c' ty' hi' hal hL'
          refine ⟨b', by simpa [updS, e] using f1, f2, Nat.lt_of_lt_of_le f3 hbW.size, fun k hk => ?_⟩
          rw [bel_cell hbW (f4 k hk)]
          cases hs' : saO st i' with
          | none => rfl
          | some td =>
            obtain ⟨t', d''⟩ := td
            obtain ⟨g1, g2⟩ := saF i' t' d'' hi' hs'
            have hti' := htn t' _ g1
            simp only [hLn t' hti']
            by_cases hl : lis.getD t' false = true
            · have hdi : d'' ≠ i := by
                rintro rfl
                have := hsh t' d'' hl (tsF t' i' d'' g2 g1).2.1
                rw [hun'] at this
                cases this
              simp only [updS, if_neg hdi]
            · rw [if_neg hl, if_neg hl]
        · intro i' j' hi' hj' hne h1 h2 l1 l2
          have k1 := hni i' h1
          have k2 := hni j' h2
          simp only [hLn _ k1] at l1
          simp only [hLn _ k2] at l2
          simp only [updS, if_neg k1, if_neg k2]
          exact hJ.2 i' j' hi' hj' hne h1 h2 l1 l2
  · rintro lis a W ⟨hsz, hsh, s, rfl, hrel, hw, hJ⟩ hr0
    have hallL : ∀ j, j < l.length → lis.getD j false = true := by
      intro j
      induction j using Nat.strongRecOn with
      | _ j ih =>
        intro hj
        cases hc : lis.getD j false with
        | true => rfl
        | false =>
          exfalso
          have : j ∈ Region.ready .any l.toArray lis := by
            refine mem_ready.2 ⟨by simpa [hsz, hj] using hc, l[j], by simp [hj], fun e he hbe => ?_⟩
            have h1 := hdown j hj
            rw [hgl, List.getElem?_eq_getElem hj] at h1
            simp only [Array.all_eq_true_iff_forall_mem, Bool.or_eq_true, Bool.not_eq_true', decide_eq_true_eq] at h1
            have h2 : e.on < j := by
              rcases h1 e he with h2 | h2
              · rw [hbe] at h2; cases h2
              · exact h2
            exact ih e.on h2 (by omega)
          rw [hr0] at this
          cases this
    have hT : putL l.toArray a0 (fun j => lis.getD j false) s l.length = A s := by
      rw [← hA]
      exact putL_congr _ (fun j hj => ⟨hallL j hj, rfl⟩)
    rw [hT]
    refine ht s (fun j hj n1 n2 => hrel j hj n1 n2 (hallL j hj)) W hw ⟨fun i c ty hi hal _ => ?_, fun i j hi hj hne h1 h2 _ _ => hJ.2 i j hi hj hne h1 h2 (hallL i hi) (hallL j hj)⟩
    obtain ⟨b', f1, f2, f3, f4⟩ := hJ.1 i c ty hi hal (hallL i hi)
    refine ⟨b', f1, f2, f3, fun k hk => ?_⟩
    rw [f4 k hk]
    cases hs' : saO st i with
    | none => rfl
    | some td =>
      obtain ⟨t', d''⟩ := td
      obtain ⟨g1, g2⟩ := saF i t' d'' hi hs'
      simp only [hallL t' g2]
  · refine ⟨by simp, ?_, fun _ => undef, ?_, ?_, bl_drew (bl_refl w), ?_, ?_⟩
    · intro k j hk; rw [rep_false] at hk; cases hk
    · have : ∀ k, putL l.toArray a0 (fun i => (Array.replicate l.toArray.size false).getD i false) (fun _ => undef) k = a0 := by
        intro k
        induction k with
        | zero => rfl
        | succ k ih => unfold putL; rw [if_neg (by rw [rep_false]; decide), ih]
      exact (this _).symm
    · intro j _ _ _ h; rw [rep_false] at h; cases h
    · intro i c ty _ _ h
      simp only [rep_false] at h
      cases h
    · intro i j _ _ _ _ _ h
      simp only [rep_false] at h
      cases h
end Go.Proofs.Ytcdnhkjedmmhpaa
namespace Go.Proofs.Ytcdnhkjedmmhpaa
open Ieee Go.RowKit
set_option linter.unusedSimpArgs false
set_option linter.unusedVariables false

/-! ### A region that draws its order and only lays new blocks (slices built of what came before, calls that answer with new lists): what each operation gives may speak of the memory, as long as new blocks do not turn it -/
def monB (ops : Array Oper) (sz : Nat) : Bool := Region.noSelect ops && (List.range ops.size).all (fun i => (match ops[i]? with | some o => o.guard.isNone | none => false) &&
    (match dstO ops i with | some d => decide (d < sz) && !(looksO ops i).contains d | none => false) &&
    (List.range ops.size).all (fun j => i == j || (dstO ops i != dstO ops j && (match dstO ops j with | some d => !(looksO ops i).contains d || bnd ops i j | none => true)))) &&
  (List.range ops.size).all (fun i => match ops[i]? with | some o => o.after.all (fun e => !Region.binds .any e || decide (e.on < i)) | none => true)
theorem wp_region_monoN {P : Program} {id : Nat} {Q : Exit → Act → World → Prop} {a0 : Act} {w : World} {l : List Oper} (n : Nat) (hnl : l.length = n) (Rel : Nat → World → Value → Prop) (N : World → World → Prop) (hN0 : N w w.drew) (hNt : ∀ a b c, N a b → N b c → N a c) (A : (Nat → Value) → Act) (hm : P.follows .mixedOrders = true)
    (hB : monB l.toArray a0.tmps.size = true) (hA : ∀ s, putL l.toArray a0 (fun _ => true) s n = A s)
    (hmo : ∀ i W W' v, i < n → N w W → N W W' → Rel i W v → Rel i W' v)
    (hq : ∀ i o, i < n → l[i]? = some o → ∀ (s : Nat → Value) (W : World), (∀ j, j < n → bnd l.toArray i j = true → Rel j W (s j)) → N w W → ∀ K : Act → World → Prop, Veil (∀ v W', Rel i W' v → N W W' → K ((A s).put o.dst v) W') → Oper.wp P o (A s) W K (fun _ _ _ => False))
    (ht : ∀ (s : Nat → Value) (W : World), (∀ j, j < n → Rel j W (s j)) → N w W → Q .normal (A s) W) :
    (Code.region id l.toArray true).wp P Q a0 w := by
  subst hnl
  have hz : l.toArray.size = l.length := by simp
  simp only [monB, Bool.and_eq_true, decide_eq_true_eq, List.all_eq_true, List.mem_range, Bool.or_eq_true] at hB
  obtain ⟨⟨hns, hpre⟩, hdown⟩ := hB
  rw [hz] at hpre hdown
  have hgl : ∀ i : Nat, l.toArray[i]? = l[i]? := fun i => by simp
  let I : Array Bool → Act → World → Prop := fun lis a W =>
    lis.size = l.length ∧ shutB l.toArray lis ∧
    ∃ s : Nat → Value, a = putL l.toArray a0 (fun i => lis.getD i false) s l.length ∧ (∀ j, j < l.length → lis.getD j false = true → Rel j W (s j)) ∧ N w W
  refine wp_region_any hm (wpAny_inv I ?_ ?_ _ _ _ _ (by simp) ?_)
  · rintro lis a W i ⟨hsz, hsh, s, rfl, hrel, hw⟩ hi
    obtain ⟨hun, o, ho, hall⟩ := mem_ready.1 hi
    have ho' : l[i]? = some o := by rw [← hgl]; exact ho
    have hil : i < l.length := by
      rcases Nat.lt_or_ge i l.length with h' | h'
      · exact h'
      · rw [List.getElem?_eq_none h'] at ho'; cases ho'
    have hun' : lis.getD i false = false := by simpa [hsz, hil] using hun
    have hdep : ∀ j, bnd l.toArray i j = true → lis.getD j false = true := fun j hj => by
      obtain ⟨e, he, hb, rfl⟩ := (bnd_of ho).1 hj
      exact hall e he hb
    have hsh' := shut_set hsh hdep (by rw [hsz]; exact hil)
    have hp := hpre i hil
    simp only [ho] at hp
    obtain ⟨⟨hg, hd⟩, hrow⟩ := hp
    have hdo : dstO l.toArray i = o.dst := by simp [dstO, ho']
    have hg' : o.guard = none := by simpa using hg
    have hwn : Region.wanted o (yielded l.toArray (putL l.toArray a0 (fun i => lis.getD i false) s l.length).tmps) = true := by simp [Region.wanted, hg']
    have hLn : ∀ j, j ≠ i → (lis.setIfInBounds i true).getD j false = lis.getD j false := fun j hj => getD_set_ne false (fun e => hj e.symm)
    have hLi : (lis.setIfInBounds i true).getD i false = true := getD_set_self (by rw [hsz]; exact hil) false
    have hdis : ∀ j, j < l.length → j ≠ i → dstO l.toArray i ≠ dstO l.toArray j ∨ dstO l.toArray j = none := by
      intro j hj hne
      rcases hrow j hj with h1 | h1
      · simp at h1; omega
      · left; simpa using h1.1
    unfold wpOp
    rw [ho]
    simp only [hwn, if_true]
    left
    have hex : execOp (putL l.toArray a0 (fun i => lis.getD i false) s l.length).eval o = execOp (putL l.toArray a0 (fun _ => true) s l.length).eval o := by
      apply execOp_congr o (fun cs b => Region.noSelect_spec hns i o cs b ho)
      intro x hx
      apply putL_eval
      intro j hj hlj d' hd' hxd
      subst hxd
      have hlk : d' ∈ looksO l.toArray i := by unfold looksO; rw [ho]; exact List.mem_append_left _ (List.mem_filterMap.2 ⟨.tmp d', by simpa using hx, rfl⟩)
      by_cases e : i = j
      · subst e
        rw [hdo] at hd'
        rw [hdo, hd'] at hd
        simp only [Bool.and_eq_true, decide_eq_true_eq, Bool.not_eq_true', List.contains_eq_mem, decide_eq_false_iff_not] at hd
        exact hd.2 hlk
      · rcases hrow j hj with h1 | h1
        · simp at h1; exact e h1
        · have h2 := h1.2
          rw [hd'] at h2
          simp only [Bool.or_eq_true, Bool.not_eq_true', List.contains_eq_mem, decide_eq_false_iff_not] at h2
          rcases h2 with h2 | h2
          · exact h2 hlk
          · have := hdep j h2
            simp only [hlj] at this
            cases this
    have hdd : ∃ d', o.dst = some d' := by
      cases hx : o.dst with
      | none => rw [hdo, hx] at hd; simp at hd
      | some d' => exact ⟨d', rfl⟩
    obtain ⟨d', hdd⟩ := hdd
    have hds : d' < a0.tmps.size := by
      rw [hdo, hdd] at hd
      simp only [Bool.and_eq_true, decide_eq_true_eq] at hd
      exact hd.1
    have hput : ∀ v, (putL l.toArray a0 (fun i => lis.getD i false) s l.length).put o.dst v = putL l.toArray a0 (fun j => (lis.setIfInBounds i true).getD j false) (updS s i v) l.length := fun v => by
      rw [← hdo]
      exact putL_put (L := fun i => lis.getD i false) (L' := fun j => (lis.setIfInBounds i true).getD j false) hun' hLi hLn l.length hil hdis
    have h1 := hq i o hil ho' s W (fun j hj hb => hrel j hj (hdep j hb)) hw (fun a' W' => ∃ v, a' = (A s).put (some d') v ∧ Rel i W' v ∧ N W W') (fun v W' hv hb => ⟨v, by rw [hdd], hv, hb⟩)
    unfold Oper.wp at h1 ⊢
    rw [hex, hA]
    refine upon_carry hdd (by rw [← hA, (putL_size _).1]; exact hds) h1 ?_
    rintro v W' ⟨hv, hbW⟩
    refine ⟨by simpa using hsz, hsh', _, hput v, ?_, hNt _ _ _ hw hbW⟩
    intro j hj hl
    by_cases e : j = i
    · subst e; simpa [updS] using hv
    · rw [hLn j e] at hl
      simpa [updS, e] using hmo j W W' (s j) hj hw hbW (hrel j hj hl)
  · rintro lis a W ⟨hsz, hsh, s, rfl, hrel, hw⟩ hr0
    have hallL : ∀ j, j < l.length → lis.getD j false = true := by
      intro j
      induction j using Nat.strongRecOn with
      | _ j ih =>
        intro hj
        cases hc : lis.getD j false with
        | true => rfl
        | false =>
          exfalso
          have : j ∈ Region.ready .any l.toArray lis := by
            refine mem_ready.2 ⟨by simpa [hsz, hj] using hc, l[j], by simp [hj], fun e he hbe => ?_⟩
            have h1 := hdown j hj
            rw [hgl, List.getElem?_eq_getElem hj] at h1
            simp only [Array.all_eq_true_iff_forall_mem, Bool.or_eq_true, Bool.not_eq_true', decide_eq_true_eq] at h1
            have h2 : e.on < j := by
              rcases h1 e he with h2 | h2
              · rw [hbe] at h2; cases h2
              · exact h2
            exact ih e.on h2 (by omega)
          rw [hr0] at this
          cases this
    have hT : putL l.toArray a0 (fun j => lis.getD j false) s l.length = A s := by
      rw [← hA]
      exact putL_congr _ (fun j hj => ⟨hallL j hj, rfl⟩)
    rw [hT]
    exact ht s W (fun j hj => hrel j hj (hallL j hj)) hw
  · refine ⟨by simp, ?_, fun _ => undef, ?_, ?_, hN0⟩
    · intro k j hk; rw [rep_false] at hk; cases hk
    · have : ∀ k, putL l.toArray a0 (fun i => (Array.replicate l.toArray.size false).getD i false) (fun _ => undef) k = a0 := by
        intro k
        induction k with
        | zero => rfl
        | succ k ih => unfold putL; rw [if_neg (by rw [rep_false]; decide), ih]
      exact (this _).symm
    · intro j _ h; rw [rep_false] at h; cases h
theorem wp_region_mono {P : Program} {id : Nat} {Q : Exit → Act → World → Prop} {a0 : Act} {w : World} {l : List Oper} (n : Nat) (hnl : l.length = n) (Rel : Nat → World → Value → Prop) (A : (Nat → Value) → Act) (hm : P.follows .mixedOrders = true)
    (hB : monB l.toArray a0.tmps.size = true) (hA : ∀ s, putL l.toArray a0 (fun _ => true) s n = A s)
    (hmo : ∀ i W W' v, i < n → Bel W W' → Rel i W v → Rel i W' v)
    (hq : ∀ i o, i < n → l[i]? = some o → ∀ (s : Nat → Value) (W : World), (∀ j, j < n → bnd l.toArray i j = true → Rel j W (s j)) → Bel w W → ∀ K : Act → World → Prop, Veil (∀ v W', Rel i W' v → Bel W W' → K ((A s).put o.dst v) W') → Oper.wp P o (A s) W K (fun _ _ _ => False))
    (ht : ∀ (s : Nat → Value) (W : World), (∀ j, j < n → Rel j W (s j)) → Bel w W → Q .normal (A s) W) :
    (Code.region id l.toArray true).wp P Q a0 w :=
  wp_region_monoN n hnl Rel Bel (bl_drew (bl_refl w)) (fun _ _ _ => bl_trans) A hm hB hA (fun i W W' v hi _ hb h => hmo i W W' v hi hb h) hq ht
end Go.Proofs.Ytcdnhkjedmmhpaa
