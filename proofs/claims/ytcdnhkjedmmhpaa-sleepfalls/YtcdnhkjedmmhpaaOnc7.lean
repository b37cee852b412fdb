/-
  Plain facts on floats, more: rounding to the nearest rung, sums and products of finite floats, signs turned. No program is named here.
-/
import Derived.Test.YtcdnhkjedmmhpaaOnc5
import Derived.OrdersIn
import Derived.RangeFuncCalls
import Derived.TacticsIn
namespace Go.Proofs.Ytcdnhkjedmmhpaa
open Ieee Go.RowKit
set_option linter.unusedSimpArgs false
set_option linter.unusedVariables false

/-! ### A region that draws its order, by what is held when such and such operations are done; in a function, and in the round of a loop over a function -/
def invB (ops : Array Oper) (sz : Nat) : Bool := Region.noSelect ops && (List.range ops.size).all (fun i => (match ops[i]? with | some o => o.guard.isNone && (match o.op with | .defer _ => false | _ => true) | none => false) &&
    (match dstO ops i with | some d => decide (d < sz) && !(looksO ops i).contains d | none => true) &&
    (List.range ops.size).all (fun j => i == j || ((dstO ops i != dstO ops j || (dstO ops j).isNone) && (match dstO ops j with | some d => !(looksO ops i).contains d || bnd ops i j | none => true)))) &&
  (List.range ops.size).all (fun i => match ops[i]? with | some o => o.after.all (fun e => !Region.binds .any e || decide (e.on < i)) | none => true)
theorem upon_weak {P : Program} {o : Oper} {a : Act} {K K' : Act → World → Prop} {Q : Exit → Act → World → Prop} {r : Result Next} (h : ∀ a w, K a w → K' a w) (hh : o.upon P a K Q r) : o.upon P a K' Q r := by
  cases r with
  | ok n w' =>
    cases n <;> simp only [Oper.upon] at hh ⊢ <;>
      first
        | exact h _ _ hh
        | exact Calls.mono hh (fun e w'' he => by cases e <;> first | exact h _ _ he | exact he)
        | exact Rows.mono hh (fun _ _ he => h _ _ he)
  | halt x w' => cases x <;> simp only [Oper.upon] at hh ⊢ <;> exact hh
def updL (L : Nat → Bool) (i : Nat) : Nat → Bool := fun j => if j = i then true else L j
theorem rch_up {ops : Array Oper} {L : Nat → Bool} (hs : ∀ k j, k < ops.size → L k = true → bnd ops k j = true → L j = true) : ∀ (f k j : Nat), k < ops.size → L k = true → rch ops f k j = true → L j = true
  | 0, _, _, _, _, h => by simp [rch] at h
  | f + 1, k, j, hk, hl, h => by
    simp only [rch, Bool.or_eq_true, List.any_eq_true, List.mem_range, Bool.and_eq_true] at h
    rcases h with h | ⟨i, hi, h1, h2⟩
    · exact hs k j hk hl h
    · exact rch_up hs f i j hi (hs k i hk hl h1) h2
/-- what waits for an operation that is not done is not done -/
theorem not_yet {l : List Oper} {n : Nat} {L : Nat → Bool} (hsh : ∀ k j, k < n → L k = true → bnd l.toArray k j = true → L j = true) {k i : Nat} (hi : L i = false) (hk : k < n) (h : rch l.toArray n k i = true) (hn : l.length = n) : L k = false := by
  cases hl : L k with
  | false => rfl
  | true =>
    have := rch_up (ops := l.toArray) (L := L) (fun k j hk => hsh k j (by simpa [hn] using hk)) n k i (by simpa [hn] using hk) hl h
    rw [hi] at this
    cases this
theorem val_upd {n i : Nat} {L : Nat → Bool} {s : Nat → Value} {v : Value} {VAL : Nat → Value → Prop} (hV : ∀ j, j < n → L j = true → VAL j (s j)) (hi : VAL i v) : ∀ j, j < n → updL L i j = true → VAL j (updS s i v j) := fun j hj hl => by
  by_cases e : j = i
  · subst e; simpa [updS] using hi
  · rw [updL, if_neg e] at hl
    rw [updS, if_neg e]; exact hV j hj hl
theorem inv_any {P : Program} {Q : Exit → Act → World → Prop} {a0 : Act} {w : World} {l : List Oper} (n : Nat) (hnl : l.length = n) (J : (Nat → Bool) → (Nat → Value) → World → Prop) (A : (Nat → Value) → Act)
    (hB : invB l.toArray a0.tmps.size = true) (hA : ∀ s, putL l.toArray a0 (fun _ => true) s n = A s)
    (h0 : J (fun _ => false) (fun _ => undef) w)
    (hq : ∀ i o, i < n → l[i]? = some o → ∀ (L : Nat → Bool) (s : Nat → Value) (W : World), L i = false → (∀ j, bnd l.toArray i j = true → L j = true) → (∀ k j, k < n → L k = true → bnd l.toArray k j = true → L j = true) → J L s W → ∀ K : Act → World → Prop, Veil (∀ v W', J (updL L i) (updS s i v) W' → K ((A s).put o.dst v) W') → Oper.wp P o (A s) W K (fun _ _ _ => False))
    (hJ : ∀ L L' s W, (∀ j, j < n → L j = L' j) → J L s W → J L' s W)
    (ht : ∀ (s : Nat → Value) (W : World), J (fun _ => true) s W → Q .normal (A s) W) :
    wpAny P .any l.toArray Q l.toArray.size (Array.replicate l.toArray.size false) a0 w := by
  subst hnl
  have hz : l.toArray.size = l.length := by simp
  simp only [invB, Bool.and_eq_true, decide_eq_true_eq, List.all_eq_true, List.mem_range, Bool.or_eq_true] at hB
  obtain ⟨⟨hns, hpre⟩, hdown⟩ := hB
  rw [hz] at hpre hdown
  have hgl : ∀ i : Nat, l.toArray[i]? = l[i]? := fun i => by simp
  let I : Array Bool → Act → World → Prop := fun lis a W =>
    lis.size = l.length ∧ shutB l.toArray lis ∧
    ∃ s : Nat → Value, a = putL l.toArray a0 (fun i => lis.getD i false) s l.length ∧ J (fun i => lis.getD i false) s W
  refine wpAny_inv I ?_ ?_ _ _ _ _ (by simp) ?_
  · rintro lis a W i ⟨hsz, hsh, s, rfl, hrel⟩ hi
    obtain ⟨hun, o, ho, hall⟩ := mem_ready.1 hi
    have ho' : l[i]? = some o := by rw [← hgl]; exact ho
    have hil : i < l.length := by
      rcases Nat.lt_or_ge i l.length with h' | h'
      · exact h'
      · rw [List.getElem?_eq_none h'] at ho'; cases ho'
    have hun' : lis.getD i false = false := by simpa [hsz, hil] using hun
    have hdep : ∀ j, bnd l.toArray i j = true → lis.getD j false = true := fun j hj => by
      obtain ⟨e, he, hb, rfl⟩ := (bnd_of ho).1 hj
      exact hall e he hb
    have hsh' := shut_set hsh hdep (by rw [hsz]; exact hil)
    have hp := hpre i hil
    simp only [ho] at hp
    obtain ⟨⟨hgd, hd⟩, hrow⟩ := hp
    rw [Bool.and_eq_true] at hgd
    have hg := hgd.1
    have hdo : dstO l.toArray i = o.dst := by simp [dstO, ho']
    have hg' : o.guard = none := by simpa using hg
    have hwn : Region.wanted o (yielded l.toArray (putL l.toArray a0 (fun i => lis.getD i false) s l.length).tmps) = true := by simp [Region.wanted, hg']
    have hLn : ∀ j, j ≠ i → (lis.setIfInBounds i true).getD j false = lis.getD j false := fun j hj => getD_set_ne false (fun e => hj e.symm)
    have hLi : (lis.setIfInBounds i true).getD i false = true := getD_set_self (by rw [hsz]; exact hil) false
    have hLu : ∀ j, j < l.length → updL (fun i => lis.getD i false) i j = (lis.setIfInBounds i true).getD j false := fun j _ => by
      unfold updL
      by_cases e : j = i
      · subst e; rw [if_pos rfl, hLi]
      · rw [if_neg e, hLn j e]
    have hdis : ∀ j, j < l.length → j ≠ i → dstO l.toArray i ≠ dstO l.toArray j ∨ dstO l.toArray j = none := by
      intro j hj hne
      rcases hrow j hj with h1 | h1
      · simp at h1; omega
      · rcases h1.1 with h2 | h2
        · left; simpa using h2
        · right; simpa using h2
    unfold wpOp
    rw [ho]
    simp only [hwn, if_true]
    left
    have hex : execOp (putL l.toArray a0 (fun i => lis.getD i false) s l.length).eval o = execOp (putL l.toArray a0 (fun _ => true) s l.length).eval o := by
      apply execOp_congr o (fun cs b => Region.noSelect_spec hns i o cs b ho)
      intro x hx
      apply putL_eval
      intro j hj hlj d' hd' hxd
      subst hxd
      have hlk : d' ∈ looksO l.toArray i := by unfold looksO; rw [ho]; exact List.mem_append_left _ (List.mem_filterMap.2 ⟨.tmp d', by simpa using hx, rfl⟩)
      by_cases e : i = j
      · subst e
        rw [hdo] at hd'
        rw [hdo, hd'] at hd
        simp only [Bool.and_eq_true, decide_eq_true_eq, Bool.not_eq_true', List.contains_eq_mem, decide_eq_false_iff_not] at hd
        exact hd.2 hlk
      · rcases hrow j hj with h1 | h1
        · simp at h1; exact e h1
        · have h2 := h1.2
          rw [hd'] at h2
          simp only [Bool.or_eq_true, Bool.not_eq_true', List.contains_eq_mem, decide_eq_false_iff_not] at h2
          rcases h2 with h2 | h2
          · exact h2 hlk
          · have := hdep j h2
            simp only [hlj] at this
            cases this
    have hput : ∀ v, (putL l.toArray a0 (fun i => lis.getD i false) s l.length).put o.dst v = putL l.toArray a0 (fun j => (lis.setIfInBounds i true).getD j false) (updS s i v) l.length := fun v => by
      rw [← hdo]
      exact putL_put (L := fun i => lis.getD i false) (L' := fun j => (lis.setIfInBounds i true).getD j false) hun' hLi hLn l.length hil hdis
    have h1 := hq i o hil ho' (fun i => lis.getD i false) s W hun' hdep (fun k j _ => hsh k j) hrel (fun a' W' => ∃ v, a' = (A s).put o.dst v ∧ J (updL (fun i => lis.getD i false) i) (updS s i v) W') (fun v W' hv => ⟨v, rfl, hv⟩)
    unfold Oper.wp at h1 ⊢
    rw [hex, hA]
    cases hdd : o.dst with
    | some d' =>
      have hds : d' < a0.tmps.size := by
        rw [hdo, hdd] at hd
        simp only [Bool.and_eq_true, decide_eq_true_eq] at hd
        exact hd.1
      rw [hdd] at h1
      refine upon_carry hdd (by rw [← hA, (putL_size _).1]; exact hds) h1 ?_
      rintro v W' hv
      exact ⟨by simpa using hsz, hsh', _, hput v, hJ _ _ _ _ hLu hv⟩
    | none =>
      rw [hdd] at h1
      refine upon_carry0 (A := A s) (N := fun W' => ∃ v, J (updL (fun i => lis.getD i false) i) (updS s i v) W') hdd ?_ ?_
      · refine upon_weak ?_ h1
        rintro a' W' ⟨v, rfl, hv⟩
        exact ⟨rfl, v, hv⟩
      · rintro W' ⟨v, hv⟩
        refine ⟨by simpa using hsz, hsh', updS s i v, ?_, hJ _ _ _ _ hLu hv⟩
        have := hput v
        rw [hdd] at this
        exact this
  · rintro lis a W ⟨hsz, hsh, s, rfl, hrel⟩ hr0
    have hallL : ∀ j, j < l.length → lis.getD j false = true := by
      intro j
      induction j using Nat.strongRecOn with
      | _ j ih =>
        intro hj
        cases hc : lis.getD j false with
        | true => rfl
        | false =>
          exfalso
          have : j ∈ Region.ready .any l.toArray lis := by
            refine mem_ready.2 ⟨by simpa [hsz, hj] using hc, l[j], by simp [hj], fun e he hbe => ?_⟩
            have h1 := hdown j hj
            rw [hgl, List.getElem?_eq_getElem hj] at h1
            simp only [Array.all_eq_true_iff_forall_mem, Bool.or_eq_true, Bool.not_eq_true', decide_eq_true_eq] at h1
            have h2 : e.on < j := by
              rcases h1 e he with h2 | h2
              · rw [hbe] at h2; cases h2
              · exact h2
            exact ih e.on h2 (by omega)
          rw [hr0] at this
          cases this
    have hT : putL l.toArray a0 (fun j => lis.getD j false) s l.length = A s := by
      rw [← hA]
      exact putL_congr _ (fun j hj => ⟨hallL j hj, rfl⟩)
    rw [hT]
    exact ht s W (hJ _ _ _ _ (fun j hj => hallL j hj) hrel)
  · refine ⟨by simp, ?_, fun _ => undef, ?_, hJ _ _ _ _ (fun j _ => (rep_false _ j).symm) h0⟩
    · intro k j hk; rw [rep_false] at hk; cases hk
    · have : ∀ k, putL l.toArray a0 (fun i => (Array.replicate l.toArray.size false).getD i false) (fun _ => undef) k = a0 := by
        intro k
        induction k with
        | zero => rfl
        | succ k ih => unfold putL; rw [if_neg (by rw [rep_false]; decide), ih]
      exact (this _).symm
theorem rowsIn_wide {n : Nat} {P : Program} {row : String} {args : Array Value} {w : World} {R : Value → World → Prop} (h : Rows P row args w R) : RowsIn Fence.wide n P row args w R :=
  fun c cs _ => let ⟨v, w', r, s⟩ := h c cs; ⟨v, w', r, stepsIn_wide.2 s⟩
/-- an operation in a round does what it does anywhere -/
theorem oper_in {P : Program} {o : Oper} {a : Act} {w : World} {K : Act → World → Prop} {Q : Exit → Act → World → Prop} (l n : Nat) (hnd : ∀ c, o.op ≠ .defer c) (h : Oper.wp P o a w K Q) : Oper.wpIn (Fence.wide.inRound l) n P o a w K Q := by
  unfold Oper.wpIn
  refine ⟨fun _ _ => trivial, ?_⟩
  unfold Oper.wp at h
  rw [Fence.inRound_round, Oper.semAt_some l _ _ hnd]
  generalize (execOp a.eval o).run P w = r at *
  have hdep : ∀ m : Nat, (Fence.wide.inRound l).depth.isSome = true → 1 ≤ m := fun m hm => by simp [Fence.wide, Fence.inRound] at hm
  cases r with
  | ok n w' =>
    cases n <;> simp only [Oper.upon, Oper.uponIn] at h ⊢
    case value => exact h
    case skip => exact h
    case defer => exact h
    case enter => exact ⟨hdep _, CallsIn.inRound l (callsIn_wide.2 h)⟩
    case row => exact ⟨hdep _, rowsIn_wide h⟩
    all_goals exact h.elim
  | halt x w' => cases x <;> simp only [Oper.upon, Oper.uponIn] at h ⊢ <;> exact h
theorem any_in {P : Program} {md : Region.Mode} {ops : Array Oper} {Q : Exit → Act → World → Prop} (l n : Nat) (hnd : ∀ (i : Nat) (o : Oper), ops[i]? = some o → ∀ c, o.op ≠ .defer c) (hQ : ¬ LetsOut Q) :
    ∀ (fuel : Nat) (lis : Array Bool) (a : Act) (w : World), wpAny P md ops Q fuel lis a w → wpAnyIn (Fence.wide.inRound l) n P md ops Q fuel lis a w
  | 0, _, _, _, h => h
  | fuel + 1, lis, a, w, h => by
    refine ⟨h.1, fun i hi => ?_⟩
    have h2 := h.2 i hi
    unfold wpOp at h2
    unfold wpOpIn
    cases ho : ops[i]? with
    | none => rw [ho] at h2; exact any_in l n hnd hQ fuel _ _ _ h2
    | some o =>
      rw [ho] at h2
      simp only at h2 ⊢
      split
      · rename_i hw
        rw [if_pos hw] at h2
        rcases h2 with h2 | ⟨_, h2⟩
        · exact Oper.wpIn_mono (fun a w h => any_in l n hnd hQ fuel _ a w h) (oper_in l n (hnd i o ho) h2)
        · exact absurd h2 hQ
      · rename_i hw
        rw [if_neg hw] at h2
        exact ⟨fun _ _ => trivial, any_in l n hnd hQ fuel _ _ _ h2⟩
/-- what is held at the end alone -/
def AtEnd (Q : Exit → Act → World → Prop) : Exit → Act → World → Prop
  | .normal, a, w => Q .normal a w
  | _, _, _ => False
theorem atEnd_imp {Q : Exit → Act → World → Prop} : ∀ e a w, AtEnd Q e a w → Q e a w := fun e a w h => by cases e <;> first | exact h | exact (h : False).elim
theorem invB_defer {l : List Oper} {sz : Nat} (h : invB l.toArray sz = true) : ∀ (i : Nat) (o : Oper), l.toArray[i]? = some o → ∀ c, o.op ≠ .defer c := by
  intro i o ho c hc
  simp only [invB, Bool.and_eq_true, List.all_eq_true, List.mem_range] at h
  have hi : i < l.toArray.size := by
    rcases Nat.lt_or_ge i l.toArray.size with h' | h'
    · exact h'
    · rw [Array.getElem?_eq_none h'] at ho; cases ho
  have := (h.1.2 i hi).1.1
  rw [ho] at this
  simp only [Bool.and_eq_true, hc] at this
  exact absurd this.2 (by decide)
theorem wp_region_inv {P : Program} {id : Nat} {Q : Exit → Act → World → Prop} {a0 : Act} {w : World} {l : List Oper} (n : Nat) (hnl : l.length = n) (J : (Nat → Bool) → (Nat → Value) → World → Prop) (A : (Nat → Value) → Act) (hm : P.follows .mixedOrders = true)
    (hB : invB l.toArray a0.tmps.size = true) (hA : ∀ s, putL l.toArray a0 (fun _ => true) s n = A s)
    (h0 : J (fun _ => false) (fun _ => undef) w.drew)
    (hq : ∀ i o, i < n → l[i]? = some o → ∀ (L : Nat → Bool) (s : Nat → Value) (W : World), L i = false → (∀ j, bnd l.toArray i j = true → L j = true) → (∀ k j, k < n → L k = true → bnd l.toArray k j = true → L j = true) → J L s W → ∀ K : Act → World → Prop, Veil (∀ v W', J (updL L i) (updS s i v) W' → K ((A s).put o.dst v) W') → Oper.wp P o (A s) W K (fun _ _ _ => False))
    (hJ : ∀ L L' s W, (∀ j, j < n → L j = L' j) → J L s W → J L' s W)
    (ht : ∀ (s : Nat → Value) (W : World), J (fun _ => true) s W → Q .normal (A s) W) :
    (Code.region id l.toArray true).wp P Q a0 w :=
  wp_region_any hm (inv_any n hnl J A hB hA h0 hq hJ ht)
theorem wpIn_region_inv {P : Program} {id : Nat} {Q : Exit → Act → World → Prop} {a0 : Act} {w : World} {l : List Oper} (r m : Nat) (n : Nat) (hnl : l.length = n) (J : (Nat → Bool) → (Nat → Value) → World → Prop) (A : (Nat → Value) → Act) (hm : P.follows .mixedOrders = true)
    (hB : invB l.toArray a0.tmps.size = true) (hA : ∀ s, putL l.toArray a0 (fun _ => true) s n = A s)
    (h0 : J (fun _ => false) (fun _ => undef) w.drew)
    (hq : ∀ i o, i < n → l[i]? = some o → ∀ (L : Nat → Bool) (s : Nat → Value) (W : World), L i = false → (∀ j, bnd l.toArray i j = true → L j = true) → (∀ k j, k < n → L k = true → bnd l.toArray k j = true → L j = true) → J L s W → ∀ K : Act → World → Prop, Veil (∀ v W', J (updL L i) (updS s i v) W' → K ((A s).put o.dst v) W') → Oper.wp P o (A s) W K (fun _ _ _ => False))
    (hJ : ∀ L L' s W, (∀ j, j < n → L j = L' j) → J L s W → J L' s W)
    (ht : ∀ (s : Nat → Value) (W : World), J (fun _ => true) s W → Q .normal (A s) W) :
    (Code.region id l.toArray true).wpIn (Fence.wide.inRound r) m P Q a0 w :=
  Code.wpIn_mono atEnd_imp (wpIn_region_any hm (any_in r m (invB_defer hB) (fun ⟨_, _, h⟩ => h) _ _ _ _ (inv_any (Q := AtEnd Q) n hnl J A hB hA h0 hq hJ ht)))
/-- an undrawn region in a round, by what it does anywhere -/
theorem list_in {P : Program} {ops : Array Oper} {Q : Exit → Act → World → Prop} (r n : Nat) (hQ : ¬ LetsOut Q) : ∀ (l : List Oper), (∀ o ∈ l, ∀ c, o.op ≠ .defer c) → ∀ (a : Act) (w : World), wpList P ops Q l a w → wpListIn (Fence.wide.inRound r) n P ops Q l a w
  | [], _, _, _, h => h
  | o :: rest, hnd, a, w, h => by
    unfold wpList at h
    unfold wpListIn
    split
    · rename_i hw
      rw [if_pos hw] at h
      rcases h with h | ⟨_, h⟩
      · exact Oper.wpIn_mono (fun a w h => list_in r n hQ rest (fun o ho => hnd o (List.mem_cons_of_mem _ ho)) a w h) (oper_in r n (hnd o (List.mem_cons_self ..)) h)
      · exact absurd h hQ
    · rename_i hw
      rw [if_neg hw] at h
      exact ⟨fun _ _ => trivial, list_in r n hQ rest (fun o ho => hnd o (List.mem_cons_of_mem _ ho)) _ _ h⟩
theorem wpIn_region_plain {P : Program} {id : Nat} {Q : Exit → Act → World → Prop} {a : Act} {w : World} {l : List Oper} (r n : Nat) (hnd : l.all (fun o => match o.op with | .defer _ => false | _ => true) = true) (h : wpList P l.toArray (AtEnd Q) l a w) : (Code.region id l.toArray false).wpIn (Fence.wide.inRound r) n P Q a w :=
  Code.wpIn_mono atEnd_imp (wpIn_region_lit (list_in r n (fun ⟨_, _, h⟩ => h) l (fun o ho c hc => by
    have := List.all_eq_true.1 hnd o ho
    rw [hc] at this
    cases this) a w h))
end Go.Proofs.Ytcdnhkjedmmhpaa
