/-
  Plain facts on floats, more: rounding to the nearest rung, sums and products of finite floats, signs turned. No program is named here.
-/
import Derived.Test.YtfohggiehbplkaaMulti
namespace Go.Proofs.Ytfohggiehbplkaa
open Ieee Go.RowKit
set_option linter.unusedSimpArgs false
set_option linter.unusedVariables false

def retB (ops : Array Oper) (t sz : Nat) : Bool := Region.noSelect ops && (List.range ops.size).all (fun i => (match ops[i]? with | some o => o.guard.isNone | none => false) &&
    (if i == t then (dstO ops i).isNone else match dstO ops i with | some d => decide (d < sz) && !(looksO ops i).contains d | none => false) &&
    (List.range ops.size).all (fun j => i == j || (dstO ops i != dstO ops j && (match dstO ops j with | some d => !(looksO ops i).contains d || bnd ops i j | none => true)))) &&
  (List.range ops.size).all (fun i => match ops[i]? with | some o => o.after.all (fun e => decide (e.on < i)) | none => true)
theorem upon_carry0 {P : Program} {o : Oper} {A a : Act} {N : World → Prop} {K : Act → World → Prop} {Q : Exit → Act → World → Prop} {r : Result Next} (hd : o.dst = none)
    (h : o.upon P A (fun a' w' => a' = A ∧ N w') (fun _ _ _ => False) r) (hK : ∀ w', N w' → K a w') : o.upon P a K Q r := by
  have val : ∀ u w', (A.put o.dst u = A ∧ N w') → K (a.put o.dst u) w' := by
    rintro u w' ⟨_, hn⟩
    rw [hd]
    exact hK w' hn
  cases r with
  | ok n w' =>
    cases n <;> simp only [Oper.upon] at h ⊢
    case value u => exact val u w' h
    case skip => exact val undef w' h
    case defer x =>
      obtain ⟨e, _⟩ := h
      exfalso
      have := congrArg (fun x => x.defers.length) e
      simp [Act.put, hd] at this
    case enter f args =>
      refine Calls.mono h (fun e w'' he => ?_)
      cases e with
      | returned v => exact val v w'' he
      | panicked c => exact he.elim
      | outgrown => obtain ⟨_, _, hx⟩ := he; exact hx.elim
    case row f args => exact Rows.mono h (fun v w'' he => val v w'' he)
    all_goals exact h.elim
  | halt x w' => cases x <;> simp only [Oper.upon] at h ⊢
/-- what is there: as it was, or with the one thing stored -/
def Once (w : World) (st : Value → World → World) (R : Value → Prop) (W : World) : Prop := Bel w W ∨ ∃ v W0, R v ∧ Bel w W0 ∧ Bel (st v W0) W
def cellAt (v : Value) (k : Nat) : Value := match v with | .agg c => c.getD k undef | v => v
def put4 (R : Nat) (v : Value) (W : World) : World := (((W.setCell ⟨R, 0, none⟩ (cellAt v 0)).setCell ⟨R, 1, none⟩ (cellAt v 1)).setCell ⟨R, 2, none⟩ (cellAt v 2)).setCell ⟨R, 3, none⟩ (cellAt v 3)
def put1 (R k : Nat) (v : Value) (W : World) : World := W.setCell ⟨R, k, none⟩ v
theorem put1_far {R k : Nat} {v : Value} {W : World} {a : Addr} (h : a.block ≠ R ∨ a.off ≠ k) : (put1 R k v W).cell? a = W.cell? a := by
  unfold put1
  apply World.cell?_setCell_other
  rintro rfl
  rcases h with h | h <;> exact h rfl
theorem once_keep1 {w W : World} {R k : Nat} {Rl : Value → Prop} {a : Addr} {v : Value} (h : Once w (put1 R k) Rl W) (hz : w.cell? a = some v) (hne : a.block ≠ R ∨ a.off ≠ k) : W.cell? a = some v := by
  have key : ∀ {p q : World}, Bel p q → p.cell? a = some v → q.cell? a = some v := fun hb hc => (hb.1.cell (World.block_lt_of_cell? _ _ hc)).trans hc
  rcases h with h | ⟨u, W0, _, h1, h2⟩
  · exact key h hz
  · exact key h2 ((put1_far hne).trans (key h1 hz))
end Go.Proofs.Ytfohggiehbplkaa
namespace Go.Proofs.Ytfohggiehbplkaa
open Ieee Go.RowKit
set_option linter.unusedSimpArgs false
set_option linter.unusedVariables false

end Go.Proofs.Ytfohggiehbplkaa
namespace Go.Proofs.Ytfohggiehbplkaa
open Ieee Go.RowKit
set_option linter.unusedSimpArgs false
set_option linter.unusedVariables false

/-! ### A region that draws its order, lays blocks and stores into them (a, e := F(..) with structs among the results): by what each operation gives.
al: the operations that lay a block, with its cells and its type; st: the stores: (operation, the operation that laid the block, the operation whose value is stored) -/
end Go.Proofs.Ytfohggiehbplkaa
namespace Go.Proofs.Ytfohggiehbplkaa
open Ieee Go.RowKit
set_option linter.unusedSimpArgs false
set_option linter.unusedVariables false

def monB (ops : Array Oper) (sz : Nat) : Bool := Region.noSelect ops && (List.range ops.size).all (fun i => (match ops[i]? with | some o => o.guard.isNone | none => false) &&
    (match dstO ops i with | some d => decide (d < sz) && !(looksO ops i).contains d | none => false) &&
    (List.range ops.size).all (fun j => i == j || (dstO ops i != dstO ops j && (match dstO ops j with | some d => !(looksO ops i).contains d || bnd ops i j | none => true)))) &&
  (List.range ops.size).all (fun i => match ops[i]? with | some o => o.after.all (fun e => !Region.binds .any e || decide (e.on < i)) | none => true)
theorem wp_region_monoN {P : Program} {id : Nat} {Q : Exit → Act → World → Prop} {a0 : Act} {w : World} {l : List Oper} (n : Nat) (hnl : l.length = n) (Rel : Nat → World → Value → Prop) (N : World → World → Prop) (hN0 : N w w.drew) (hNt : ∀ a b c, N a b → N b c → N a c) (A : (Nat → Value) → Act) (hm : P.follows .mixedOrders = true)
    (hB : monB l.toArray a0.tmps.size = true) (hA : ∀ s, putL l.toArray a0 (fun _ => true) s n = A s)
    (hmo : ∀ i W W' v, i < n → N w W → N W W' → Rel i W v → Rel i W' v)
    (hq : ∀ i o, i < n → l[i]? = some o → ∀ (s : Nat → Value) (W : World), (∀ j, j < n → bnd l.toArray i j = true → Rel j W (s j)) → N w W → ∀ K : Act → World → Prop, Veil (∀ v W', Rel i W' v → N W W' → K ((A s).put o.dst v) W') → Oper.wp P o (A s) W K (fun _ _ _ => False))
    (ht : ∀ (s : Nat → Value) (W : World), (∀ j, j < n → Rel j W (s j)) → N w W → Q .normal (A s) W) :
    (Code.region id l.toArray true).wp P Q a0 w := by
  subst hnl
  have hz : l.toArray.size = l.length := by simp
  simp only [monB, Bool.and_eq_true, decide_eq_true_eq, List.all_eq_true, List.mem_range, Bool.or_eq_true] at hB
  obtain ⟨⟨hns, hpre⟩, hdown⟩ := hB
  rw [hz] at hpre hdown
  have hgl : ∀ i : Nat, l.toArray[i]? = l[i]? := fun i => by simp
  let I : Array Bool → Act → World → Prop := fun lis a W =>
    lis.size = l.length ∧ shutB l.toArray lis ∧
    ∃ s : Nat → Value, a = putL l.toArray a0 (fun i => lis.getD i false) s l.length ∧ (∀ j, j < l.length → lis.getD j false = true → Rel j W (s j)) ∧ N w W
  refine wp_region_any hm (wpAny_inv I ?_ ?_ _ _ _ _ (by simp) ?_)
  · rintro lis a W i ⟨hsz, hsh, s, rfl, hrel, hw⟩ hi
    obtain ⟨hun, o, ho, hall⟩ := mem_ready.1 hi
    have ho' : l[i]? = some o := by rw [← hgl]; exact ho
    have hil : i < l.length := by
      rcases Nat.lt_or_ge i l.length with h' | h'
      · exact h'
      · rw [List.getElem?_eq_none h'] at ho'; cases ho'
    have hun' : lis.getD i false = false := by simpa [hsz, hil] using hun
    have hdep : ∀ j, bnd l.toArray i j = true → lis.getD j false = true := fun j hj => by
      obtain ⟨e, he, hb, rfl⟩ := (bnd_of ho).1 hj
      exact hall e he hb
    have hsh' := shut_set hsh hdep (by rw [hsz]; exact hil)
    have hp := hpre i hil
    simp only [ho] at hp
    obtain ⟨⟨hg, hd⟩, hrow⟩ := hp
    have hdo : dstO l.toArray i = o.dst := by simp [dstO, ho']
    have hg' : o.guard = none := by simpa using hg
    have hwn : Region.wanted o (yielded l.toArray (putL l.toArray a0 (fun i => lis.getD i false) s l.length).tmps) = true := by simp [Region.wanted, hg']
    have hLn : ∀ j, j ≠ i → (lis.setIfInBounds i true).getD j false = lis.getD j false := fun j hj => getD_set_ne false (fun e => hj e.symm)
    have hLi : (lis.setIfInBounds i true).getD i false = true := getD_set_self (by rw [hsz]; exact hil) false
    have hdis : ∀ j, j < l.length → j ≠ i → dstO l.toArray i ≠ dstO l.toArray j ∨ dstO l.toArray j = none := by
      intro j hj hne
      rcases hrow j hj with h1 | h1
      · simp at h1; omega
      · left; simpa using h1.1
    unfold wpOp
    rw [ho]
    simp only [hwn, if_true]
    left
    have hex : execOp (putL l.toArray a0 (fun i => lis.getD i false) s l.length).eval o = execOp (putL l.toArray a0 (fun _ => true) s l.length).eval o := by
      apply execOp_congr o (fun cs b => Region.noSelect_spec hns i o cs b ho)
      intro x hx
      apply putL_eval
      intro j hj hlj d' hd' hxd
      subst hxd
      have hlk : d' ∈ looksO l.toArray i := by unfold looksO; rw [ho]; exact List.mem_append_left _ (List.mem_filterMap.2 ⟨.tmp d', by simpa using hx, rfl⟩)
      by_cases e : i = j
      · subst e
        rw [hdo] at hd'
        rw [hdo, hd'] at hd
        simp only [Bool.and_eq_true, decide_eq_true_eq, Bool.not_eq_true', List.contains_eq_mem, decide_eq_false_iff_not] at hd
        exact hd.2 hlk
      · rcases hrow j hj with h1 | h1
        · simp at h1; exact e h1
        · have h2 := h1.2
          rw [hd'] at h2
          simp only [Bool.or_eq_true, Bool.not_eq_true', List.contains_eq_mem, decide_eq_false_iff_not] at h2
          rcases h2 with h2 | h2
          · exact h2 hlk
          · have := hdep j h2
            simp only [hlj] at this
            cases this
    have hdd : ∃ d', o.dst = some d' := by
      cases hx : o.dst with
      | none => rw [hdo, hx] at hd; simp at hd
      | some d' => exact ⟨d', rfl⟩
    obtain ⟨d', hdd⟩ := hdd
    have hds : d' < a0.tmps.size := by
      rw [hdo, hdd] at hd
      simp only [Bool.and_eq_true, decide_eq_true_eq] at hd
      exact hd.1
    have hput : ∀ v, (putL l.toArray a0 (fun i => lis.getD i false) s l.length).put o.dst v = putL l.toArray a0 (fun j => (lis.setIfInBounds i true).getD j false) (updS s i v) l.length := fun v => by
      rw [← hdo]
      exact putL_put (L := fun i => lis.getD i false) (L' := fun j => (lis.setIfInBounds i true).getD j false) hun' hLi hLn l.length hil hdis
    have h1 := hq i o hil ho' s W (fun j hj hb => hrel j hj (hdep j hb)) hw (fun a' W' => ∃ v, a' = (A s).put (some d') v ∧ Rel i W' v ∧ N W W') (fun v W' hv hb => ⟨v, by rw [hdd], hv, hb⟩)
    unfold Oper.wp at h1 ⊢
    rw [hex, hA]
    refine upon_carry hdd (by rw [← hA, (putL_size _).1]; exact hds) h1 ?_
    rintro v W' ⟨hv, hbW⟩
    refine ⟨by simpa using hsz, hsh', _, hput v, ?_, hNt _ _ _ hw hbW⟩
    intro j hj hl
    by_cases e : j = i
    · subst e; simpa [updS] using hv
    · rw [hLn j e] at hl
      simpa [updS, e] using hmo j W W' (s j) hj hw hbW (hrel j hj hl)
  · rintro lis a W ⟨hsz, hsh, s, rfl, hrel, hw⟩ hr0
    have hallL : ∀ j, j < l.length → lis.getD j false = true := by
      intro j
      induction j using Nat.strongRecOn with
      | _ j ih =>
        intro hj
        cases hc : lis.getD j false with
        | true => rfl
        | false =>
          exfalso
          have : j ∈ Region.ready .any l.toArray lis := by
            refine mem_ready.2 ⟨by simpa [hsz, hj] using hc, l[j], by simp [hj], fun e he hbe => ?_⟩
            have h1 := hdown j hj
            rw [hgl, List.getElem?_eq_getElem hj] at h1
            simp only [Array.all_eq_true_iff_forall_mem, Bool.or_eq_true, Bool.not_eq_true', decide_eq_true_eq] at h1
            have h2 : e.on < j := by
              rcases h1 e he with h2 | h2
              · rw [hbe] at h2; cases h2
              · exact h2
            exact ih e.on h2 (by omega)
          rw [hr0] at this
          cases this
    have hT : putL l.toArray a0 (fun j => lis.getD j false) s l.length = A s := by
      rw [← hA]
      exact putL_congr _ (fun j hj => ⟨hallL j hj, rfl⟩)
    rw [hT]
    exact ht s W (fun j hj => hrel j hj (hallL j hj)) hw
  · refine ⟨by simp, ?_, fun _ => undef, ?_, ?_, hN0⟩
    · intro k j hk; rw [rep_false] at hk; cases hk
    · have : ∀ k, putL l.toArray a0 (fun i => (Array.replicate l.toArray.size false).getD i false) (fun _ => undef) k = a0 := by
        intro k
        induction k with
        | zero => rfl
        | succ k ih => unfold putL; rw [if_neg (by rw [rep_false]; decide), ih]
      exact (this _).symm
    · intro j _ h; rw [rep_false] at h; cases h
theorem wp_region_mono {P : Program} {id : Nat} {Q : Exit → Act → World → Prop} {a0 : Act} {w : World} {l : List Oper} (n : Nat) (hnl : l.length = n) (Rel : Nat → World → Value → Prop) (A : (Nat → Value) → Act) (hm : P.follows .mixedOrders = true)
    (hB : monB l.toArray a0.tmps.size = true) (hA : ∀ s, putL l.toArray a0 (fun _ => true) s n = A s)
    (hmo : ∀ i W W' v, i < n → Bel W W' → Rel i W v → Rel i W' v)
    (hq : ∀ i o, i < n → l[i]? = some o → ∀ (s : Nat → Value) (W : World), (∀ j, j < n → bnd l.toArray i j = true → Rel j W (s j)) → Bel w W → ∀ K : Act → World → Prop, Veil (∀ v W', Rel i W' v → Bel W W' → K ((A s).put o.dst v) W') → Oper.wp P o (A s) W K (fun _ _ _ => False))
    (ht : ∀ (s : Nat → Value) (W : World), (∀ j, j < n → Rel j W (s j)) → Bel w W → Q .normal (A s) W) :
    (Code.region id l.toArray true).wp P Q a0 w :=
  wp_region_monoN n hnl Rel Bel (bl_drew (bl_refl w)) (fun _ _ _ => bl_trans) A hm hB hA (fun i W W' v hi _ hb h => hmo i W W' v hi hb h) hq ht
end Go.Proofs.Ytfohggiehbplkaa
