/-
  Plain facts on floats, more: rounding to the nearest rung, sums and products of finite floats, signs turned. No program is named here.
-/
import Derived.Test.YtcdnhkjedmmhpaaOnc5
namespace Go.Proofs.Ytcdnhkjedmmhpaa
open Ieee Go.RowKit
set_option linter.unusedSimpArgs false
set_option linter.unusedVariables false

/-! ### The same, with operations behind that wait for all ahead of them (an append, a store into what was there) -/
def monTB (ops : Array Oper) (m sz : Nat) : Bool := Region.noSelect ops && decide (m ≤ ops.size) && (List.range m).all (fun i => (match ops[i]? with | some o => o.guard.isNone | none => false) && (match dstO ops i with | some d => decide (d < sz) && !(looksO ops i).contains d | none => false) &&
    (List.range m).all (fun j => i == j || (dstO ops i != dstO ops j && (match dstO ops j with | some d => !(looksO ops i).contains d || bnd ops i j | none => true)))) &&
  (List.range ops.size).all (fun k => decide (k < m) || (List.range k).all (fun j => rch ops ops.size k j)) &&
  (List.range ops.size).all (fun i => match ops[i]? with | some o => o.after.all (fun e => !Region.binds .any e || decide (e.on < i)) | none => true)
theorem wp_region_monoT {P : Program} {id : Nat} {Q : Exit → Act → World → Prop} {a0 : Act} {w : World} {l : List Oper} (m : Nat) (Rel : Nat → World → Value → Prop) (A : (Nat → Value) → Act) (hm : P.follows .mixedOrders = true) (hB : monTB l.toArray m a0.tmps.size = true)
    (hA : ∀ s, putL l.toArray a0 (fun _ => true) s m = A s)
    (hmo : ∀ i W W' v, i < m → Bel W W' → Rel i W v → Rel i W' v)
    (hq0 : ∀ i o, i < m → l[i]? = some o → ∀ (s : Nat → Value) (W : World), (∀ j, j < m → bnd l.toArray i j = true → Rel j W (s j)) → Bel w W → ∀ K : Act → World → Prop, Veil (∀ v W', Rel i W' v → Bel W W' → K ((A s).put o.dst v) W') → Oper.wp P o (A s) W K (fun _ _ _ => False))
    (tl : List Nat) (htl : List.range' m (l.length - m) = tl) (ht0 : ∀ (s : Nat → Value) (W : World), (∀ j, j < m → Rel j W (s j)) → Bel w W → wpOps P l.toArray Q tl (A s) W) :
    (Code.region id l.toArray true).wp P Q a0 w := by
  subst htl
  have hq : ∀ i o, i < m → l[i]? = some o → ∀ (s : Nat → Value) (W : World), (∀ j, j < m → bnd l.toArray i j = true → Rel j W (s j)) → Bel w W → ∀ K : Act → World → Prop, (∀ v W', Rel i W' v → Bel W W' → K ((putL l.toArray a0 (fun _ => true) s m).put o.dst v) W') → Oper.wp P o (putL l.toArray a0 (fun _ => true) s m) W K (fun _ _ _ => False) := fun i o h1 h2 s W h3 h4 K h5 => by rw [hA] at h5 ⊢; exact hq0 i o h1 h2 s W h3 h4 K h5
  have ht : ∀ (s : Nat → Value) (W : World), (∀ j, j < m → Rel j W (s j)) → Bel w W → wpOps P l.toArray Q (List.range' m (l.length - m)) (putL l.toArray a0 (fun _ => true) s m) W := fun s W h1 h2 => by rw [hA]; exact ht0 s W h1 h2
  have hz : l.toArray.size = l.length := by simp
  simp only [monTB, Bool.and_eq_true, decide_eq_true_eq, List.all_eq_true, List.mem_range, Bool.or_eq_true] at hB
  obtain ⟨⟨⟨⟨hns, hms⟩, hpre⟩, htail⟩, hdown⟩ := hB
  rw [hz] at hms
  have hgl : ∀ i : Nat, l.toArray[i]? = l[i]? := fun i => by simp
  let I : Array Bool → Act → World → Prop := fun lis a W =>
    lis.size = l.length ∧ shutB l.toArray lis ∧
    ((∃ s : Nat → Value, (∀ k, m ≤ k → k < l.length → lis.getD k false = false) ∧ a = putL l.toArray a0 (fun i => lis.getD i false) s m ∧ (∀ j, j < m → lis.getD j false = true → Rel j W (s j)) ∧ Bel w W) ∨
     (∃ k, m ≤ k ∧ k ≤ l.length ∧ (∀ j, j < l.length → (lis.getD j false = true ↔ j < k)) ∧ wpOps P l.toArray Q (List.range' k (l.length - k)) a W))
  have waitsAll : ∀ (lis : Array Bool) k o, lis.size = l.length → shutB l.toArray lis → m ≤ k → l[k]? = some o → (∀ e ∈ o.after, Region.binds .any e = true → lis.getD e.on false = true) → ∀ j, j < k → lis.getD j false = true := by
    intro lis k o hsz hsh hk ho hall j hj
    have hkl : k < l.length := by
      rcases Nat.lt_or_ge k l.length with h' | h'
      · exact h'
      · rw [List.getElem?_eq_none h'] at ho; cases ho
    have := htail k (by rw [hz]; exact hkl)
    rcases this with h1 | h1
    · omega
    · exact rch_listed hsh _ k j (fun i hi => by
        obtain ⟨e, he, hb, rfl⟩ := (bnd_of (by rw [hgl]; exact ho)).1 hi
        exact hall e he hb) (h1 j hj)
  refine wp_region_any hm (wpAny_inv I ?_ ?_ _ _ _ _ (by simp) ?_)
  · rintro lis a W i ⟨hsz, hsh, hI⟩ hi
    obtain ⟨hun, o, ho, hall⟩ := mem_ready.1 hi
    have ho' : l[i]? = some o := by rw [← hgl]; exact ho
    have hil : i < l.length := by
      rcases Nat.lt_or_ge i l.length with h' | h'
      · exact h'
      · rw [List.getElem?_eq_none h'] at ho'; cases ho'
    have hun' : lis.getD i false = false := by simpa [hsz, hil] using hun
    have hdep : ∀ j, bnd l.toArray i j = true → lis.getD j false = true := fun j hj => by
      obtain ⟨e, he, hb, rfl⟩ := (bnd_of ho).1 hj
      exact hall e he hb
    have hsh' := shut_set hsh hdep (by rw [hsz]; exact hil)
    rcases hI with ⟨s, hlate, rfl, hrel, hbel⟩ | ⟨k, hk1, hk2, hk3, hk⟩
    · by_cases him : i < m
      · -- of the first m
        have hp := hpre i him
        simp only [ho] at hp
        obtain ⟨⟨hg, hd⟩, hrow⟩ := hp
        have hdo : dstO l.toArray i = o.dst := by simp [dstO, ho']
        obtain ⟨d, hdd⟩ : ∃ d, o.dst = some d := by
          rw [hdo] at hd
          cases hx : o.dst with
          | none => rw [hx] at hd; simp at hd
          | some d => exact ⟨d, rfl⟩
        have hds : d < a0.tmps.size ∧ d ∉ looksO l.toArray i := by rw [hdo, hdd] at hd; simpa using hd
        have hg' : o.guard = none := by simpa using hg
        have hw : Region.wanted o (yielded l.toArray (putL l.toArray a0 (fun i => lis.getD i false) s m).tmps) = true := by simp [Region.wanted, hg']
        have hLn : ∀ j, j ≠ i → (lis.setIfInBounds i true).getD j false = lis.getD j false := fun j hj => getD_set_ne false (fun e => hj e.symm)
        have hLi : (lis.setIfInBounds i true).getD i false = true := getD_set_self (by rw [hsz]; exact hil) false
        have hdis : ∀ j, j < m → j ≠ i → dstO l.toArray i ≠ dstO l.toArray j ∨ dstO l.toArray j = none := by
          intro j hj hne
          rcases hrow j hj with h1 | h1
          · simp at h1; omega
          · left; simpa using h1.1
        have hput : ∀ v, (putL l.toArray a0 (fun i => lis.getD i false) s m).put o.dst v = putL l.toArray a0 (fun j => (lis.setIfInBounds i true).getD j false) (updS s i v) m := fun v => by
          rw [← hdo]
          exact putL_put (L := fun i => lis.getD i false) (L' := fun j => (lis.setIfInBounds i true).getD j false) hun' hLi hLn m him hdis
        have hlate' : ∀ k, m ≤ k → k < l.length → (lis.setIfInBounds i true).getD k false = false := fun k h1 h2 => by rw [hLn k (by omega)]; exact hlate k h1 h2
        have hrel' : ∀ v W', Rel i W' v → Bel W W' → ∀ j, j < m → (lis.setIfInBounds i true).getD j false = true → Rel j W' (updS s i v j) := by
          intro v W' hv hbW j hj hl
          by_cases e : j = i
          · subst e; simpa [updS] using hv
          · rw [hLn j e] at hl
            simpa [updS, e] using hmo j W W' (s j) hj hbW (hrel j hj hl)
        unfold wpOp
        rw [ho]
        simp only [hw, if_true]
        left
        have hex : execOp (putL l.toArray a0 (fun i => lis.getD i false) s m).eval o = execOp (putL l.toArray a0 (fun _ => true) s m).eval o := by
          apply execOp_congr o (fun cs b => Region.noSelect_spec hns i o cs b ho)
          intro x hx
          apply putL_eval
          intro j hj hlj d' hd' hxd
          subst hxd
          by_cases e : i = j
          · subst e
            rw [hdo, hdd] at hd'
            cases hd'
            exact hds.2 (by unfold looksO; rw [ho]; exact List.mem_append_left _ (List.mem_filterMap.2 ⟨.tmp d, by simpa using hx, rfl⟩))
          · rcases hrow j hj with h1 | h1
            · simp at h1; exact e h1
            · have h2 := h1.2
              rw [hd'] at h2
              have hself : d' ∈ looksO l.toArray i := by unfold looksO; rw [ho]; exact List.mem_append_left _ (List.mem_filterMap.2 ⟨.tmp d', by simpa using hx, rfl⟩)
              simp only [Bool.or_eq_true, Bool.not_eq_true', List.contains_eq_mem, decide_eq_false_iff_not] at h2
              rcases h2 with h2 | h2
              · exact h2 hself
              · have := hdep j h2
                simp only [hlj] at this
                cases this
        have h1 := hq i o him ho' s W (fun j hj hb => hrel j hj (hdep j hb)) hbel (fun a' W' => ∃ v, a' = (putL l.toArray a0 (fun _ => true) s m).put (some d) v ∧ Rel i W' v ∧ Bel W W') (fun v W' hv hb => ⟨v, by rw [hdd], hv, hb⟩)
        unfold Oper.wp at h1 ⊢
        rw [hex]
        refine upon_carry hdd (by rw [(putL_size m).1]; exact hds.1) h1 ?_
        rintro v W' ⟨hv, hb⟩
        exact ⟨by simpa using hsz, hsh', .inl ⟨_, hlate', hput v, hrel' v W' hv hb, bl_trans hbel hb⟩⟩
      · -- the first of what follows
        have hfull := waitsAll lis i o hsz hsh (by omega) ho' hall
        have him' : i = m := by
          rcases Nat.lt_or_ge m i with h' | h'
          · have := hlate m (Nat.le_refl _) (by omega)
            rw [hfull m h'] at this; cases this
          · omega
        subst him'
        have hT : putL l.toArray a0 (fun j => lis.getD j false) s i = putL l.toArray a0 (fun _ => true) s i := putL_congr i (fun j hj => ⟨hfull j hj, rfl⟩)
        have h1 := ht s W (fun j hj => hrel j hj (hfull j hj)) hbel
        rw [← hT, show l.length - i = (l.length - (i + 1)) + 1 by omega, List.range'_succ, wpOps_cons] at h1
        refine wpOp_mono (fun a' W' h' => ⟨by simpa using hsz, hsh', .inr ⟨i + 1, by omega, by omega, fun j hj => ?_, h'⟩⟩) h1
        by_cases e : j = i
        · subst e; exact ⟨fun _ => by omega, fun _ => getD_set_self (by rw [hsz]; exact hil) false⟩
        · rw [getD_set_ne false (fun e' => e e'.symm)]
          constructor
          · intro h2
            rcases Nat.lt_or_ge j i with h' | h'
            · omega
            · have := hlate j (by omega) hj
              rw [h2] at this; cases this
          · intro h2; exact hfull j (by omega)
    · have hki : i = k := by
        have h1 : ¬ i < k := fun h' => by have := (hk3 i hil).2 h'; rw [hun'] at this; cases this
        have h2 := waitsAll lis i o hsz hsh (by omega) ho' hall
        rcases Nat.lt_or_ge k i with h' | h'
        · have := (hk3 k (by omega)).1 (h2 k h'); omega
        · omega
      subst hki
      rw [show l.length - i = (l.length - (i + 1)) + 1 by omega, List.range'_succ, wpOps_cons] at hk
      refine wpOp_mono (fun a' W' h' => ⟨by simpa using hsz, hsh', .inr ⟨i + 1, by omega, by omega, fun j hj => ?_, h'⟩⟩) hk
      by_cases e : j = i
      · subst e; exact ⟨fun _ => by omega, fun _ => getD_set_self (by rw [hsz]; exact hil) false⟩
      · rw [getD_set_ne false (fun e' => e e'.symm), hk3 j hj]
        omega
  · rintro lis a W ⟨hsz, hsh, hI⟩ hr0
    have hallL : ∀ j, j < l.length → lis.getD j false = true := by
      intro j
      induction j using Nat.strongRecOn with
      | _ j ih =>
        intro hj
        cases hc : lis.getD j false with
        | true => rfl
        | false =>
          exfalso
          have : j ∈ Region.ready .any l.toArray lis := by
            refine mem_ready.2 ⟨by simpa [hsz, hj] using hc, l[j], by simp [hj], fun e he hbe => ?_⟩
            have h1 := hdown j (by rw [hz]; exact hj)
            rw [hgl, List.getElem?_eq_getElem hj] at h1
            simp only [Array.all_eq_true_iff_forall_mem, Bool.or_eq_true, Bool.not_eq_true', decide_eq_true_eq] at h1
            have h2 : e.on < j := by
              rcases h1 e he with h2 | h2
              · rw [hbe] at h2; cases h2
              · exact h2
            exact ih e.on h2 (by omega)
          rw [hr0] at this
          cases this
    rcases hI with ⟨s, hlate, rfl, hrel, hbel⟩ | ⟨k, hk1, hk2, hk3, hk⟩
    · have hml : m = l.length := by
        rcases Nat.lt_or_ge m l.length with h' | h'
        · have := hlate m (Nat.le_refl _) h'
          rw [hallL m h'] at this; cases this
        · omega
      subst hml
      have hT : putL l.toArray a0 (fun j => lis.getD j false) s l.length = putL l.toArray a0 (fun _ => true) s l.length := putL_congr _ (fun j hj => ⟨hallL j hj, rfl⟩)
      have h1 := ht s W (fun j hj => hrel j hj (hallL j hj)) hbel
      rw [← hT] at h1
      simpa [wpOps] using h1
    · have hkl : k = l.length := by
        rcases Nat.lt_or_ge k l.length with h' | h'
        · have := (hk3 k h').1 (hallL k h'); omega
        · omega
      subst hkl
      simpa [wpOps] using hk
  · refine ⟨by simp, ?_, .inl ⟨fun _ => undef, ?_, ?_, ?_, bl_drew (bl_refl w)⟩⟩
    · intro k j hk; rw [rep_false] at hk; cases hk
    · intro k _ _; exact rep_false _ _
    · have : ∀ k, putL l.toArray a0 (fun i => (Array.replicate l.toArray.size false).getD i false) (fun _ => undef) k = a0 := by
        intro k
        induction k with
        | zero => rfl
        | succ k ih => unfold putL; rw [if_neg (by rw [rep_false]; decide), ih]
      exact (this m).symm
    · intro j _ h; rw [rep_false] at h; cases h
theorem tail_run {P : Program} {ops : Array Oper} {Q : Exit → Act → World → Prop} {a : Act} {w w' : World} {i : Nat} {o : Oper} {rest : List Nat} {v' : Value} (ho : ops[i]? = some o) (hg : o.guard = none) (hrun : (execOp a.eval o).run P w = .ok (.value v') w')
    (h : wpOps P ops Q rest (a.put o.dst v') w') : wpOps P ops Q (i :: rest) a w := by
  refine tail_step ho (fun K hK => ?_)
  rw [if_pos (by simp [Region.wanted, hg])]
  unfold Oper.wp
  rw [hrun]
  simp only [Oper.upon]
  exact hK.out _ _ h
theorem exec_app {P : Program} {a : Act} {w w' : World} {o : Oper} {s x : Operand} {t t' : TypeId} {v u v' : Value} (hop : o.op = .call { callee := .builtin .append, args := #[s, x], argTypes := #[t, t'] }) (hv : a.eval s = v) (hx : a.eval x = u)
    (hrun : (Builtin.append_ #[t, t'] o.type #[v, u]).run P w = .ok v' w') : (execOp a.eval o).run P w = .ok (.value v') w' := by
  simp [execOp, hop, resolve, invoke, builtin, hv, hx, hrun, Result.andThen]
end Go.Proofs.Ytcdnhkjedmmhpaa
