/-
  Plain facts on floats, more: rounding to the nearest rung, sums and products of finite floats, signs turned. No program is named here.
-/
import Derived.Test.YtoofbfjlgablkaaOnce
namespace Go.Proofs.Ytoofbfjlgablkaa
open Ieee Go.RowKit
set_option linter.unusedSimpArgs false
set_option linter.unusedVariables false

/-! ### The same; what the store waits for comes ahead of it -/
theorem wp_region_ret2 {P : Program} {id : Nat} {Q : Exit → Act → World → Prop} {a0 : Act} {w : World} {l : List Oper} (n t d : Nat) (hnl : l.length = n) (Rel : Nat → Value → Prop) (st : Value → World → World) (A : (Nat → Value) → Act) (hm : P.follows .mixedOrders = true) (hB : retB l.toArray t a0.tmps.size = true) (hbd : bnd l.toArray t d = true) (hdl : d < n) (htl : t < n)
    (hA : ∀ s, putL l.toArray a0 (fun _ => true) s n = A s)
    (hst : ∀ o, l[t]? = some o → ∀ s : Nat → Value, (∀ j, j < n → bnd l.toArray t j = true → Rel j (s j)) → ∀ W, Bel w W → ∀ K : Act → World → Prop, Veil (K (A s) (st (s d) W)) → Oper.wp P o (A s) W K (fun _ _ _ => False))
    (hq : ∀ i o, i < n → i ≠ t → l[i]? = some o → ∀ s : Nat → Value, (∀ j, j < n → j ≠ t → bnd l.toArray i j = true → Rel j (s j)) → ∀ W, Once w st (Rel d) W → (rch l.toArray n t i = true → Bel w W) → ∀ K : Act → World → Prop, Veil (∀ v W', Rel i v → Bel W W' → K ((A s).put o.dst v) W') →
      Oper.wp P o (A s) W K (fun _ _ _ => False))
    (ht : ∀ s : Nat → Value, (∀ j, j < n → j ≠ t → Rel j (s j)) → ∀ W0 W, Bel w W0 → Bel (st (s d) W0) W → Q .normal (A s) W) :
    (Code.region id l.toArray true).wp P Q a0 w := by
  subst hnl
  have hz : l.toArray.size = l.length := by simp
  simp only [retB, Bool.and_eq_true, decide_eq_true_eq, List.all_eq_true, List.mem_range, Bool.or_eq_true] at hB
  obtain ⟨⟨hns, hpre⟩, hdown⟩ := hB
  rw [hz] at hpre hdown
  have hgl : ∀ i : Nat, l.toArray[i]? = l[i]? := fun i => by simp
  have hdt : d ≠ t := by
    rintro rfl
    obtain ⟨e, he, _, h2⟩ := (bnd_of (by rw [hgl, List.getElem?_eq_getElem htl])).1 hbd
    have h1 := hdown d htl
    rw [hgl, List.getElem?_eq_getElem htl] at h1
    simp only [Array.all_eq_true_iff_forall_mem, decide_eq_true_eq] at h1
    have := h1 e he
    omega
  let I : Array Bool → Act → World → Prop := fun lis a W =>
    lis.size = l.length ∧ shutB l.toArray lis ∧
    ∃ s : Nat → Value, a = putL l.toArray a0 (fun i => lis.getD i false) s l.length ∧ (∀ j, j < l.length → j ≠ t → lis.getD j false = true → Rel j (s j)) ∧
      (if lis.getD t false = true then ∃ W0, Bel w W0 ∧ Bel (st (s d) W0) W else Bel w W)
  refine wp_region_any hm (wpAny_inv I ?_ ?_ _ _ _ _ (by simp) ?_)
  · rintro lis a W i ⟨hsz, hsh, s, rfl, hrel, hw⟩ hi
    obtain ⟨hun, o, ho, hall⟩ := mem_ready.1 hi
    have ho' : l[i]? = some o := by rw [← hgl]; exact ho
    have hil : i < l.length := by
      rcases Nat.lt_or_ge i l.length with h' | h'
      · exact h'
      · rw [List.getElem?_eq_none h'] at ho'; cases ho'
    have hun' : lis.getD i false = false := by simpa [hsz, hil] using hun
    have hdep : ∀ j, bnd l.toArray i j = true → lis.getD j false = true := fun j hj => by
      obtain ⟨e, he, hb, rfl⟩ := (bnd_of ho).1 hj
      exact hall e he hb
    have hsh' := shut_set hsh hdep (by rw [hsz]; exact hil)
    have hp := hpre i hil
    simp only [ho] at hp
    obtain ⟨⟨hg, hd⟩, hrow⟩ := hp
    have hdo : dstO l.toArray i = o.dst := by simp [dstO, ho']
    have hg' : o.guard = none := by simpa using hg
    have hwn : Region.wanted o (yielded l.toArray (putL l.toArray a0 (fun i => lis.getD i false) s l.length).tmps) = true := by simp [Region.wanted, hg']
    have hLn : ∀ j, j ≠ i → (lis.setIfInBounds i true).getD j false = lis.getD j false := fun j hj => getD_set_ne false (fun e => hj e.symm)
    have hLi : (lis.setIfInBounds i true).getD i false = true := getD_set_self (by rw [hsz]; exact hil) false
    have hdis : ∀ j, j < l.length → j ≠ i → dstO l.toArray i ≠ dstO l.toArray j ∨ dstO l.toArray j = none := by
      intro j hj hne
      rcases hrow j hj with h1 | h1
      · simp at h1; omega
      · left; simpa using h1.1
    have hself : ∀ d', o.dst = some d' → i ≠ t → d' ∉ looksO l.toArray i := by
      intro d' h1 h2
      rw [if_neg (by simpa using h2), hdo, h1] at hd
      simp only [Bool.and_eq_true, decide_eq_true_eq, Bool.not_eq_true', List.contains_eq_mem, decide_eq_false_iff_not] at hd
      exact hd.2
    unfold wpOp
    rw [ho]
    simp only [hwn, if_true]
    left
    have hex : execOp (putL l.toArray a0 (fun i => lis.getD i false) s l.length).eval o = execOp (putL l.toArray a0 (fun _ => true) s l.length).eval o := by
      apply execOp_congr o (fun cs b => Region.noSelect_spec hns i o cs b ho)
      intro x hx
      apply putL_eval
      intro j hj hlj d' hd' hxd
      subst hxd
      have hlk : d' ∈ looksO l.toArray i := by unfold looksO; rw [ho]; exact List.mem_append_left _ (List.mem_filterMap.2 ⟨.tmp d', by simpa using hx, rfl⟩)
      by_cases e : i = j
      · subst e
        rw [hdo] at hd'
        by_cases ht' : i = t
        · subst ht'
          simp only [beq_self_eq_true, if_true] at hd
          rw [hdo, hd'] at hd
          cases hd
        · exact hself d' hd' ht' hlk
      · rcases hrow j hj with h1 | h1
        · simp at h1; exact e h1
        · have h2 := h1.2
          rw [hd'] at h2
          simp only [Bool.or_eq_true, Bool.not_eq_true', List.contains_eq_mem, decide_eq_false_iff_not] at h2
          rcases h2 with h2 | h2
          · exact h2 hlk
          · have := hdep j h2
            simp only [hlj] at this
            cases this
    by_cases ht' : i = t
    · subst ht'
      simp only [beq_self_eq_true, if_true] at hd
      have hdn : o.dst = none := by rw [hdo] at hd; simpa using hd
      rw [if_neg (by rw [hun']; decide)] at hw
      have hb : ∀ j, j < l.length → bnd l.toArray i j = true → Rel j (s j) := fun j hj hb => hrel j hj (by
        rintro rfl
        have := hdep j hb
        rw [hun'] at this
        cases this) (hdep j hb)
      have h1 := hst o ho' s hb W hw (fun a' W' => a' = A s ∧ W' = st (s d) W) ⟨rfl, rfl⟩
      unfold Oper.wp at h1 ⊢
      rw [hex, hA]
      refine upon_carry0 hdn h1 ?_
      rintro W' rfl
      refine ⟨by simpa using hsz, hsh', s, ?_, fun j hj hne hl => hrel j hj hne (by rwa [hLn j hne] at hl), ?_⟩
      · have e1 : ∀ k, putL l.toArray a0 (fun j => lis.getD j false) s k = putL l.toArray a0 (fun j => (lis.setIfInBounds i true).getD j false) s k := by
          intro k
          induction k with
          | zero => rfl
          | succ k ih =>
            unfold putL
            by_cases e : k = i
            · subst e
              rw [if_pos hLi, if_neg (by rw [hun']; decide), hdo, hdn, ← ih]
              rfl
            · rw [hLn k e, ih]
        exact e1 _
      · rw [if_pos hLi]
        exact ⟨W, hw, bl_refl _⟩
    · have hdd : ∃ d', o.dst = some d' := by
        rw [if_neg (by simpa using ht')] at hd
        cases hx : o.dst with
        | none => rw [hdo, hx] at hd; simp at hd
        | some d' => exact ⟨d', rfl⟩
      obtain ⟨d', hdd⟩ := hdd
      have hds : d' < a0.tmps.size := by
        rw [if_neg (by simpa using ht'), hdo, hdd] at hd
        simp only [Bool.and_eq_true, decide_eq_true_eq] at hd
        exact hd.1
      have hput : ∀ v, (putL l.toArray a0 (fun i => lis.getD i false) s l.length).put o.dst v = putL l.toArray a0 (fun j => (lis.setIfInBounds i true).getD j false) (updS s i v) l.length := fun v => by
        rw [← hdo]
        exact putL_put (L := fun i => lis.getD i false) (L' := fun j => (lis.setIfInBounds i true).getD j false) hun' hLi hLn l.length hil hdis
      have hon : Once w st (Rel d) W := by
        by_cases e : lis.getD t false = true
        · rw [if_pos e] at hw
          obtain ⟨W0, h1, h2⟩ := hw
          exact .inr ⟨s d, W0, hrel d hdl hdt (hsh t d e hbd), h1, h2⟩
        · rw [if_neg e] at hw
          exact .inl hw
      have hb' : ∀ j, j < l.length → j ≠ t → bnd l.toArray i j = true → Rel j (s j) := fun j hj hne h => hrel j hj hne (hdep j h)
      · have hbf : rch l.toArray l.length t i = true → Bel w W := fun hr => by
          by_cases e : lis.getD t false = true
          · have := rch_listed hsh _ t i (fun q hq => hsh t q e hq) hr
            rw [hun'] at this
            cases this
          · rw [if_neg e] at hw
            exact hw
        have h1 := hq i o hil ht' ho' s hb' W hon hbf (fun a' W' => ∃ v, a' = (A s).put (some d') v ∧ Rel i v ∧ Bel W W') (fun v W' hv hb => ⟨v, by rw [hdd], hv, hb⟩)
        unfold Oper.wp at h1 ⊢
        rw [hex, hA]
        refine upon_carry hdd (by rw [← hA, (putL_size _).1]; exact hds) h1 ?_
        rintro v W' ⟨hv, hbW⟩
        refine ⟨by simpa using hsz, hsh', _, hput v, ?_, ?_⟩
        · intro j hj hne hl
          by_cases e : j = i
          · subst e; simpa [updS] using hv
          · rw [hLn j e] at hl
            simpa [updS, e] using hrel j hj hne hl
        · rw [hLn t (fun e => ht' e.symm)]
          by_cases e : lis.getD t false = true
          · rw [if_pos e] at hw ⊢
            obtain ⟨W0, h1, h2⟩ := hw
            have hdi : d ≠ i := by
              rintro rfl
              have := hsh t d e hbd
              rw [hun'] at this
              cases this
            exact ⟨W0, h1, by simpa [updS, hdi] using bl_trans h2 hbW⟩
          · rw [if_neg e] at hw ⊢
            exact bl_trans hw hbW
  · rintro lis a W ⟨hsz, hsh, s, rfl, hrel, hw⟩ hr0
    have hallL : ∀ j, j < l.length → lis.getD j false = true := by
      intro j
      induction j using Nat.strongRecOn with
      | _ j ih =>
        intro hj
        cases hc : lis.getD j false with
        | true => rfl
        | false =>
          exfalso
          have : j ∈ Region.ready .any l.toArray lis := by
            refine mem_ready.2 ⟨by simpa [hsz, hj] using hc, l[j], by simp [hj], fun e he _ => ?_⟩
            have h1 := hdown j hj
            rw [hgl, List.getElem?_eq_getElem hj] at h1
            simp only [Array.all_eq_true_iff_forall_mem, decide_eq_true_eq] at h1
            have h2 := h1 e he
            exact ih e.on h2 (by omega)
          rw [hr0] at this
          cases this
    have hT : putL l.toArray a0 (fun j => lis.getD j false) s l.length = A s := by
      rw [← hA]
      exact putL_congr _ (fun j hj => ⟨hallL j hj, rfl⟩)
    rw [if_pos (hallL t htl)] at hw
    obtain ⟨W0, h1, h2⟩ := hw
    rw [hT]
    exact ht s (fun j hj hne => hrel j hj hne (hallL j hj)) W0 W h1 h2
  · refine ⟨by simp, ?_, fun _ => undef, ?_, ?_, ?_⟩
    · intro k j hk; rw [rep_false] at hk; cases hk
    · have : ∀ k, putL l.toArray a0 (fun i => (Array.replicate l.toArray.size false).getD i false) (fun _ => undef) k = a0 := by
        intro k
        induction k with
        | zero => rfl
        | succ k ih => unfold putL; rw [if_neg (by rw [rep_false]; decide), ih]
      exact (this _).symm
    · intro j _ _ h; rw [rep_false] at h; cases h
    · rw [if_neg (by rw [rep_false]; decide)]
      exact bl_drew (bl_refl w)
end Go.Proofs.Ytoofbfjlgablkaa
