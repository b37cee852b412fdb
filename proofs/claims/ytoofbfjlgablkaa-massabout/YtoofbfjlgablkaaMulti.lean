/-
  Plain facts on floats, more: rounding to the nearest rung, sums and products of finite floats, signs turned. No program is named here.
-/
import Derived.Test.YtoofbfjlgablkaaFlt
import Derived.Still
import Derived.RegionTactic
namespace Go.Proofs.Ytoofbfjlgablkaa
open Ieee Go.RowKit
set_option linter.unusedSimpArgs false
set_option linter.unusedVariables false

/-! ### A region that draws its order, by what each operation gives: an invariant of what has come up -/
theorem count_set {l : Array Bool} {i : Nat} (h : l.getD i true = false) : (l.setIfInBounds i true).count false + 1 = l.count false := by
  have hi : i < l.size := by
    rcases Nat.lt_or_ge i l.size with h' | h'
    · exact h'
    · simp [Array.getElem?_eq_none h'] at h
  have hv : l[i] = false := by simpa [hi] using h
  have hp : 0 < l.count false := Array.count_pos_iff.2 (hv ▸ Array.getElem_mem hi)
  rw [Array.setIfInBounds, dif_pos hi, Array.count_set]
  simp [hv]
  omega
theorem ready_none {md : Region.Mode} {ops : Array Oper} {l : Array Bool} (h : l.count false = 0) : Region.ready md ops l = [] := by
  apply List.eq_nil_iff_forall_not_mem.2
  intro i hi
  have := count_set (mem_ready.1 hi).1
  omega
theorem wpAny_inv {P : Program} {md : Region.Mode} {ops : Array Oper} {Q : Exit → Act → World → Prop} (I : Array Bool → Act → World → Prop)
    (step : ∀ l a w i, I l a w → i ∈ Region.ready md ops l → wpOp P ops Q i (fun a' w' => I (l.setIfInBounds i true) a' w') a w)
    (done : ∀ l a w, I l a w → Region.ready md ops l = [] → Q .normal a w) :
    ∀ (fuel : Nat) (l : Array Bool) (a : Act) (w : World), l.count false ≤ fuel → I l a w → wpAny P md ops Q fuel l a w
  | 0, l, a, w, hf, h => ⟨ready_none (by omega), done l a w h (ready_none (by omega))⟩
  | fuel + 1, l, a, w, hf, h => ⟨fun h0 => done l a w h h0, fun i hi => wpOp_mono (fun a' w' h' => wpAny_inv I step done fuel _ a' w' (by have := count_set (mem_ready.1 hi).1; omega) h') (step l a w i h hi)⟩

section
variable (ops : Array Oper)
/-- operation k waits for operation j -/
def bnd (k j : Nat) : Bool := match ops[k]? with | some o => o.after.any (fun e => Region.binds .any e && e.on == j) | none => false
def rch : Nat → Nat → Nat → Bool
  | 0, _, _ => false
  | f + 1, k, j => bnd ops k j || (List.range ops.size).any (fun i => bnd ops k i && rch f i j)
def dstO (i : Nat) : Option Tmp := (ops[i]?).bind (·.dst)
def looksO (i : Nat) : List Tmp := match ops[i]? with | some o => o.looksAt ops | none => []
/-- what is asked of the region itself: of its first m operations none is guarded, each writes a slot of its own, and looks at another one's slot only where it waits for it; what follows these waits for all ahead of it -/
def multiB (m sz : Nat) : Bool := Region.noSelect ops && decide (m ≤ ops.size) && (List.range m).all (fun i => (match ops[i]? with | some o => o.guard.isNone | none => false) && (match dstO ops i with | some d => decide (d < sz) && !(looksO ops i).contains d | none => false) &&
    (List.range m).all (fun j => i == j || (dstO ops i != dstO ops j && (match dstO ops j with | some d => !(looksO ops i).contains d || bnd ops i j | none => true)))) &&
  (List.range ops.size).all (fun k => decide (k < m) || (List.range k).all (fun j => rch ops ops.size k j)) &&
  (List.range ops.size).all (fun i => match ops[i]? with | some o => o.after.all (fun e => decide (e.on < i)) | none => true)
end

theorem bnd_of {ops : Array Oper} {k j : Nat} {o : Oper} (ho : ops[k]? = some o) : bnd ops k j = true ↔ ∃ e ∈ o.after, Region.binds .any e = true ∧ e.on = j := by
  unfold bnd
  rw [ho]
  simp only [Array.any_eq_true, Bool.and_eq_true, beq_iff_eq]
  constructor
  · rintro ⟨i, h, h1, h2⟩
    exact ⟨_, Array.getElem_mem h, h1, h2⟩
  · rintro ⟨e, he, h1, h2⟩
    obtain ⟨i, h, rfl⟩ := Array.mem_iff_getElem.1 he
    exact ⟨i, h, h1, h2⟩
/-- what has come up is shut below -/
def shutB (ops : Array Oper) (l : Array Bool) : Prop := ∀ k j, l.getD k false = true → bnd ops k j = true → l.getD j false = true
theorem rch_listed {ops : Array Oper} {l : Array Bool} (hs : shutB ops l) : ∀ (f k j : Nat), (∀ i, bnd ops k i = true → l.getD i false = true) → rch ops f k j = true → l.getD j false = true
  | 0, _, _, _, h => by simp [rch] at h
  | f + 1, k, j, hk, h => by
    simp only [rch, Bool.or_eq_true, List.any_eq_true, Bool.and_eq_true] at h
    rcases h with h | ⟨i, _, hi, hr⟩
    · exact hk j h
    · exact rch_listed hs f i j (fun t ht => hs i t (hk i hi) ht) hr
theorem getD_two {l : Array Bool} {i : Nat} (h : l.getD i false = false) (hs : i < l.size) : l.getD i true = false := by
  simpa [hs] using h
theorem getD_set_self {l : Array Bool} {i : Nat} (hs : i < l.size) (d : Bool) : (l.setIfInBounds i true).getD i d = true := by
  simp [hs]
theorem shut_set {ops : Array Oper} {l : Array Bool} {i : Nat} (hs : shutB ops l) (hi : ∀ j, bnd ops i j = true → l.getD j false = true) (hi' : i < l.size) : shutB ops (l.setIfInBounds i true) := by
  intro k j hk hb
  by_cases e : i = k
  · subst e
    exact getD_set_true (hi j hb)
  · rw [getD_set_ne false e] at hk
    exact getD_set_true (hs k j hk hb)

/-! ### The frame, with the values of those that have come up -/
def putL (ops : Array Oper) (a0 : Act) (L : Nat → Bool) (s : Nat → Value) : Nat → Act
  | 0 => a0
  | k + 1 => if L k = true then (putL ops a0 L s k).put (dstO ops k) (s k) else putL ops a0 L s k
theorem putL_congr {ops : Array Oper} {a0 : Act} {L L' : Nat → Bool} {s s' : Nat → Value} : ∀ (k : Nat), (∀ j, j < k → L j = L' j ∧ s j = s' j) → putL ops a0 L s k = putL ops a0 L' s' k
  | 0, _ => rfl
  | k + 1, h => by
    unfold putL
    rw [putL_congr k (fun j hj => h j (by omega)), (h k (by omega)).1, (h k (by omega)).2]
theorem putL_size {ops : Array Oper} {a0 : Act} {L : Nat → Bool} {s : Nat → Value} : ∀ (k : Nat), (putL ops a0 L s k).tmps.size = a0.tmps.size ∧ (putL ops a0 L s k).defers = a0.defers
  | 0 => ⟨rfl, rfl⟩
  | k + 1 => by
    have ih := putL_size (ops := ops) (a0 := a0) (L := L) (s := s) k
    unfold putL
    split
    · cases dstO ops k <;> simpa [Act.put] using ih
    · exact ih
def updS (s : Nat → Value) (i : Nat) (v : Value) : Nat → Value := fun j => if j = i then v else s j
theorem putL_put {ops : Array Oper} {a0 : Act} {L L' : Nat → Bool} {s : Nat → Value} {i : Nat} {v : Value} (hL : L i = false) (hL1 : L' i = true) (hL2 : ∀ j, j ≠ i → L' j = L j) : ∀ (k : Nat), i < k → (∀ j, j < k → j ≠ i → dstO ops i ≠ dstO ops j ∨ dstO ops j = none) →
    (putL ops a0 L s k).put (dstO ops i) v = putL ops a0 L' (updS s i v) k
  | 0, h, _ => by omega
  | k + 1, h, hd => by
    by_cases e : i = k
    · subst e
      unfold putL
      rw [if_neg (by simp [hL]), if_pos hL1, putL_congr (L' := L') (s' := updS s i v) i (fun j hj => ⟨(hL2 j (by omega)).symm, by unfold updS; rw [if_neg (by omega)]⟩)]
      simp [updS]
    · have ih := putL_put hL hL1 hL2 (a0 := a0) (s := s) (v := v) k (by omega) (fun j hj => hd j (by omega))
      unfold putL
      rw [hL2 k (by omega)]
      split
      · rw [← ih]
        have hs : updS s i v k = s k := by unfold updS; rw [if_neg (by omega)]
        rw [hs]
        apply Act.put_comm
        intro d hd1 hd2
        rcases hd k (by omega) (by omega) with h1 | h1
        · exact h1 (hd2.trans hd1.symm)
        · rw [h1] at hd1; cases hd1
      · exact ih
theorem eval_put_tmp (a : Act) (d t : Tmp) (v : Value) : (a.put (some d) v).eval (.tmp t) = if d = t ∧ d < a.tmps.size then v else a.eval (.tmp t) := by
  unfold Act.put Act.eval
  by_cases e : d = t
  · subst e
    by_cases h : d < a.tmps.size <;> simp [h]
  · simp [e, Array.getElem?_setIfInBounds_ne e]
theorem putL_eval {ops : Array Oper} {a0 : Act} {L : Nat → Bool} {s : Nat → Value} {x : Operand} : ∀ (k : Nat), (∀ j, j < k → L j = false → ∀ d, dstO ops j = some d → x ≠ .tmp d) →
    (putL ops a0 L s k).eval x = (putL ops a0 (fun _ => true) s k).eval x
  | 0, _ => rfl
  | k + 1, h => by
    have ih := putL_eval (ops := ops) (a0 := a0) (L := L) (s := s) (x := x) k (fun j hj => h j (by omega))
    have z1 := (putL_size (ops := ops) (a0 := a0) (L := L) (s := s) k).1
    have z2 := (putL_size (ops := ops) (a0 := a0) (L := fun _ => true) (s := s) k).1
    unfold putL
    rw [if_pos rfl]
    cases hL : L k
    · rw [if_neg (by simp)]
      rw [ih]
      symm
      apply Act.eval_put
      intro d hd
      exact h k (by omega) hL d hd
    · rw [if_pos rfl]
      cases hd : dstO ops k with
      | none => exact ih
      | some d =>
        cases x with
        | tmp t => rw [eval_put_tmp, eval_put_tmp, z1, z2, ih]
        | _ => rfl

/-! ### What one operation gives, told at the full frame -/
theorem upon_carry {P : Program} {o : Oper} {A a : Act} {d : Tmp} {N : Value → World → Prop} {K : Act → World → Prop} {Q : Exit → Act → World → Prop} {r : Result Next} (hd : o.dst = some d) (hs : d < A.tmps.size)
    (h : o.upon P A (fun a' w' => ∃ v, a' = A.put (some d) v ∧ N v w') (fun _ _ _ => False) r) (hK : ∀ v w', N v w' → K (a.put o.dst v) w') : o.upon P a K Q r := by
  have inj : ∀ u v, A.put (some d) u = A.put (some d) v → u = v := by
    intro u v e
    have := congrArg (fun x => Act.eval x (.tmp d)) e
    simpa [eval_put_tmp, hs] using this
  have val : ∀ u w', (∃ v, A.put o.dst u = A.put (some d) v ∧ N v w') → K (a.put o.dst u) w' := by
    rintro u w' ⟨v, e, hn⟩
    rw [hd] at e
    rw [inj u v e]
    exact hK v w' hn
  cases r with
  | ok n w' =>
    cases n <;> simp only [Oper.upon] at h ⊢
    case value u => exact val u w' h
    case skip => exact val undef w' h
    case defer x =>
      obtain ⟨v, e, _⟩ := h
      exfalso
      have := congrArg (fun x => x.defers.length) e
      simp [Act.put, hd] at this
    case enter f args =>
      refine Calls.mono h (fun e w'' he => ?_)
      cases e with
      | returned v => exact val v w'' he
      | panicked c => exact he.elim
      | outgrown => obtain ⟨_, _, hx⟩ := he; exact hx.elim
    case row f args => exact Rows.mono h (fun v w'' he => val v w'' he)
    all_goals exact h.elim
  | halt x w' => cases x <;> simp only [Oper.upon] at h ⊢

/-! ### Blocks that operations of the region lay -/
def isPtr (W : World) (v : Value) : Prop := ∃ b, W.heap.size ≤ b ∧ v = .pointer (some ⟨b, 0, none⟩)
/-- the blocks that have been laid: each holds what it was laid with, no two are one -/
def laidJ (W0 : World) (m : Nat) (al : Nat → Option Obj) (L : Nat → Bool) (s : Nat → Value) (w : World) : Prop :=
  (∀ i ob, i < m → L i = true → al i = some ob → ∃ b, s i = .pointer (some ⟨b, 0, none⟩) ∧ W0.heap.size ≤ b ∧ w.heap[b]? = some ob) ∧
  (∀ i j, i < m → j < m → i ≠ j → L i = true → L j = true → (al i).isSome → (al j).isSome → s i ≠ s j)
theorem laid_bel {W0 : World} {m : Nat} {al : Nat → Option Obj} {L L' : Nat → Bool} {s s' : Nat → Value} {w w' : World} (h : laidJ W0 m al L s w) (hb : Bel w w') (hL : ∀ i, (al i).isSome → L' i = L i ∧ s' i = s i) : laidJ W0 m al L' s' w' := by
  constructor
  · intro i ob hi hl ha
    have e := hL i (by simp [ha])
    obtain ⟨b, h1, h2, h3⟩ := h.1 i ob hi (e.1 ▸ hl) ha
    refine ⟨b, e.2.trans h1, h2, ?_⟩
    have hlt : b < w.heap.size := by
      rcases Nat.lt_or_ge b w.heap.size with h' | h'
      · exact h'
      · rw [Array.getElem?_eq_none h'] at h3; cases h3
    rw [hb.1.block b hlt]
    exact h3
  · intro i j hi hj hne hl1 hl2 a1 a2
    rw [(hL i a1).2, (hL j a2).2]
    exact h.2 i j hi hj hne ((hL i a1).1 ▸ hl1) ((hL j a2).1 ▸ hl2) a1 a2
theorem laid_new {W0 : World} {m : Nat} {al : Nat → Option Obj} {L L' : Nat → Bool} {s : Nat → Value} {w : World} {k : Nat} {ob : Obj} (h : laidJ W0 m al L s w) (hW : W0.heap.size ≤ w.heap.size) (hk : al k = some ob) (hL : ∀ i, i ≠ k → L' i = L i) :
    laidJ W0 m al L' (updS s k (.pointer (some ⟨w.heap.size, 0, none⟩))) (w.alloc ob) := by
  have old : ∀ i ob', i ≠ k → i < m → L' i = true → al i = some ob' → ∃ b, s i = .pointer (some ⟨b, 0, none⟩) ∧ W0.heap.size ≤ b ∧ w.heap[b]? = some ob' ∧ b < w.heap.size := by
    intro i ob' hne hi hl ha
    obtain ⟨b, h1, h2, h3⟩ := h.1 i ob' hi (hL i hne ▸ hl) ha
    refine ⟨b, h1, h2, h3, ?_⟩
    rcases Nat.lt_or_ge b w.heap.size with h' | h'
    · exact h'
    · rw [Array.getElem?_eq_none h'] at h3; cases h3
  constructor
  · intro i ob' hi hl ha
    by_cases e : i = k
    · subst e
      rw [hk] at ha
      cases ha
      exact ⟨w.heap.size, by simp [updS], hW, by show (w.heap.push ob)[w.heap.size]? = some ob; simp⟩
    · obtain ⟨b, h1, h2, h3, h4⟩ := old i ob' e hi hl ha
      exact ⟨b, by simpa [updS, e] using h1, h2, by rw [Below.heap_alloc _ _ _ h4]; exact h3⟩
  · intro i j hi hj hne hl1 hl2 a1 a2
    obtain ⟨o1, ho1⟩ := Option.isSome_iff_exists.1 a1
    obtain ⟨o2, ho2⟩ := Option.isSome_iff_exists.1 a2
    by_cases e1 : i = k
    · subst e1
      obtain ⟨b, h1, h2, h3, h4⟩ := old j o2 (fun e => hne e.symm) hj hl2 ho2
      intro he
      have hne' : j ≠ i := fun e => hne e.symm
      simp only [updS, if_true, if_neg hne', h1] at he
      injection he with he; injection he with he; injection he with he
      omega
    · by_cases e2 : j = k
      · subst e2
        obtain ⟨b, h1, h2, h3, h4⟩ := old i o1 hne hi hl1 ho1
        intro he
        simp only [updS, if_true, if_neg hne, h1] at he
        injection he with he; injection he with he; injection he with he
        omega
      · simp only [updS, if_neg e1, if_neg e2]
        exact h.2 i j hi hj hne (hL i e1 ▸ hl1) (hL j e2 ▸ hl2) a1 a2

theorem rep_false (n k : Nat) : (Array.replicate n false).getD k false = false := by
  by_cases h : k < n
  · simp [h]
  · simp [h]

/-! ### The law -/
theorem wp_region_multi {P : Program} {id : Nat} {Q : Exit → Act → World → Prop} {a0 : Act} {w : World} {l : List Oper} (m : Nat) (Rel : Nat → Value → Prop) (al : Nat → Option Obj) (hm : P.follows .mixedOrders = true) (hB : multiB l.toArray m a0.tmps.size = true)
    (ha : ∀ i o ob, i < m → l[i]? = some o → al i = some ob → (∀ v, isPtr w v → Rel i v) ∧ (∃ c t, ob = .cells c t) ∧ ∀ (A : Act) (W : World), (execOp A.eval o).run P W = .ok (.value (.pointer (some ⟨W.heap.size, 0, none⟩))) (W.alloc ob))
    (hq : ∀ i o, i < m → l[i]? = some o → al i = none → ∀ s : Nat → Value, (∀ j, j < m → bnd l.toArray i j = true → Rel j (s j)) → ∀ W, Bel w W → ∀ K : Act → World → Prop, (∀ v W', Rel i v → Bel W W' → K ((putL l.toArray a0 (fun _ => true) s m).put o.dst v) W') →
      Oper.wp P o (putL l.toArray a0 (fun _ => true) s m) W K (fun _ _ _ => False))
    (ht : ∀ s : Nat → Value, (∀ j, j < m → Rel j (s j)) → ∀ W, Bel w W → laidJ w m al (fun _ => true) s W → wpOps P l.toArray Q (List.range' m (l.length - m)) (putL l.toArray a0 (fun _ => true) s m) W) :
    (Code.region id l.toArray true).wp P Q a0 w := by
  have hz : l.toArray.size = l.length := by simp
  simp only [multiB, Bool.and_eq_true, decide_eq_true_eq, List.all_eq_true, List.mem_range, Bool.or_eq_true] at hB
  obtain ⟨⟨⟨⟨hns, hms⟩, hpre⟩, htail⟩, hdown⟩ := hB
  rw [hz] at hms
  have hgl : ∀ i : Nat, l.toArray[i]? = l[i]? := fun i => by simp
  let I : Array Bool → Act → World → Prop := fun lis a W =>
    lis.size = l.length ∧ shutB l.toArray lis ∧
    ((∃ s : Nat → Value, (∀ k, m ≤ k → k < l.length → lis.getD k false = false) ∧ a = putL l.toArray a0 (fun i => lis.getD i false) s m ∧ (∀ j, j < m → lis.getD j false = true → Rel j (s j)) ∧ Bel w W ∧ laidJ w m al (fun i => lis.getD i false) s W) ∨
     (∃ k, m ≤ k ∧ k ≤ l.length ∧ (∀ j, j < l.length → (lis.getD j false = true ↔ j < k)) ∧ wpOps P l.toArray Q (List.range' k (l.length - k)) a W))
  have waitsAll : ∀ (lis : Array Bool) k o, lis.size = l.length → shutB l.toArray lis → m ≤ k → l[k]? = some o → (∀ e ∈ o.after, Region.binds .any e = true → lis.getD e.on false = true) → ∀ j, j < k → lis.getD j false = true := by
    intro lis k o hsz hsh hk ho hall j hj
    have hkl : k < l.length := by
      rcases Nat.lt_or_ge k l.length with h' | h'
      · exact h'
      · rw [List.getElem?_eq_none h'] at ho; cases ho
    have := htail k (by rw [hz]; exact hkl)
    rcases this with h1 | h1
    · omega
    · exact rch_listed hsh _ k j (fun i hi => by
        obtain ⟨e, he, hb, rfl⟩ := (bnd_of (by rw [hgl]; exact ho)).1 hi
        exact hall e he hb) (h1 j hj)
  refine wp_region_any hm (wpAny_inv I ?_ ?_ _ _ _ _ (by simp) ?_)
  · rintro lis a W i ⟨hsz, hsh, hI⟩ hi
    obtain ⟨hun, o, ho, hall⟩ := mem_ready.1 hi
    have ho' : l[i]? = some o := by rw [← hgl]; exact ho
    have hil : i < l.length := by
      rcases Nat.lt_or_ge i l.length with h' | h'
      · exact h'
      · rw [List.getElem?_eq_none h'] at ho'; cases ho'
    have hun' : lis.getD i false = false := by simpa [hsz, hil] using hun
    have hdep : ∀ j, bnd l.toArray i j = true → lis.getD j false = true := fun j hj => by
      obtain ⟨e, he, hb, rfl⟩ := (bnd_of ho).1 hj
      exact hall e he hb
    have hsh' := shut_set hsh hdep (by rw [hsz]; exact hil)
    rcases hI with ⟨s, hlate, rfl, hrel, hbel, hlaid⟩ | ⟨k, hk1, hk2, hk3, hk⟩
    · by_cases him : i < m
      · -- of the first m
        have hp := hpre i him
        simp only [ho] at hp
        obtain ⟨⟨hg, hd⟩, hrow⟩ := hp
        have hdo : dstO l.toArray i = o.dst := by simp [dstO, ho']
        obtain ⟨d, hdd⟩ : ∃ d, o.dst = some d := by
          rw [hdo] at hd
          cases hx : o.dst with
          | none => rw [hx] at hd; simp at hd
          | some d => exact ⟨d, rfl⟩
        have hds : d < a0.tmps.size ∧ d ∉ looksO l.toArray i := by rw [hdo, hdd] at hd; simpa using hd
        have hg' : o.guard = none := by simpa using hg
        have hw : Region.wanted o (yielded l.toArray (putL l.toArray a0 (fun i => lis.getD i false) s m).tmps) = true := by simp [Region.wanted, hg']
        have hLn : ∀ j, j ≠ i → (lis.setIfInBounds i true).getD j false = lis.getD j false := fun j hj => getD_set_ne false (fun e => hj e.symm)
        have hLi : (lis.setIfInBounds i true).getD i false = true := getD_set_self (by rw [hsz]; exact hil) false
        have hdis : ∀ j, j < m → j ≠ i → dstO l.toArray i ≠ dstO l.toArray j ∨ dstO l.toArray j = none := by
          intro j hj hne
          rcases hrow j hj with h1 | h1
          · simp at h1; omega
          · left; simpa using h1.1
        have hput : ∀ v, (putL l.toArray a0 (fun i => lis.getD i false) s m).put o.dst v = putL l.toArray a0 (fun j => (lis.setIfInBounds i true).getD j false) (updS s i v) m := fun v => by
          rw [← hdo]
          exact putL_put (L := fun i => lis.getD i false) (L' := fun j => (lis.setIfInBounds i true).getD j false) hun' hLi hLn m him hdis
        have hlate' : ∀ k, m ≤ k → k < l.length → (lis.setIfInBounds i true).getD k false = false := fun k h1 h2 => by rw [hLn k (by omega)]; exact hlate k h1 h2
        have hrel' : ∀ v, Rel i v → ∀ j, j < m → (lis.setIfInBounds i true).getD j false = true → Rel j (updS s i v j) := by
          intro v hv j hj hl
          by_cases e : j = i
          · subst e; simpa [updS] using hv
          · rw [hLn j e] at hl
            simpa [updS, e] using hrel j hj hl
        unfold wpOp
        rw [ho]
        simp only [hw, if_true]
        left
        have hex : execOp (putL l.toArray a0 (fun i => lis.getD i false) s m).eval o = execOp (putL l.toArray a0 (fun _ => true) s m).eval o := by
          apply execOp_congr o (fun cs b => Region.noSelect_spec hns i o cs b ho)
          intro x hx
          apply putL_eval
          intro j hj hlj d' hd' hxd
          subst hxd
          by_cases e : i = j
          · subst e
            rw [hdo, hdd] at hd'
            cases hd'
            exact hds.2 (by unfold looksO; rw [ho]; exact List.mem_append_left _ (List.mem_filterMap.2 ⟨.tmp d, by simpa using hx, rfl⟩))
          · rcases hrow j hj with h1 | h1
            · simp at h1; exact e h1
            · have h2 := h1.2
              rw [hd'] at h2
              have hself : d' ∈ looksO l.toArray i := by unfold looksO; rw [ho]; exact List.mem_append_left _ (List.mem_filterMap.2 ⟨.tmp d', by simpa using hx, rfl⟩)
              simp only [Bool.or_eq_true, Bool.not_eq_true', List.contains_eq_mem, decide_eq_false_iff_not] at h2
              rcases h2 with h2 | h2
              · exact h2 hself
              · have := hdep j h2
                simp only [hlj] at this
                cases this
        cases hal : al i with
        | some ob =>
          obtain ⟨hr, ⟨c, t, rfl⟩, hrun⟩ := ha i o ob him ho' hal
          unfold Oper.wp
          rw [hrun]
          simp only [Oper.upon]
          refine ⟨by simpa using hsz, hsh', .inl ⟨_, hlate', hput _, hrel' _ (hr _ ⟨_, hbel.size, rfl⟩), bl_alloc hbel _ _, laid_new hlaid hbel.size hal (fun j hj => hLn j hj)⟩⟩
        | none =>
          have h1 := hq i o him ho' hal s (fun j hj hb => hrel j hj (hdep j hb)) W hbel (fun a' W' => ∃ v, a' = (putL l.toArray a0 (fun _ => true) s m).put (some d) v ∧ Rel i v ∧ Bel W W') (fun v W' hv hb => ⟨v, by rw [hdd], hv, hb⟩)
          unfold Oper.wp at h1 ⊢
          rw [hex]
          refine upon_carry hdd (by rw [(putL_size m).1]; exact hds.1) h1 ?_
          rintro v W' ⟨hv, hb⟩
          refine ⟨by simpa using hsz, hsh', .inl ⟨_, hlate', hput v, hrel' v hv, bl_trans hbel hb, laid_bel hlaid hb (fun j hj => ?_)⟩⟩
          have hne : j ≠ i := by rintro rfl; rw [hal] at hj; simp at hj
          exact ⟨hLn j hne, by simp [updS, hne]⟩
      · -- the first of what follows
        have hfull := waitsAll lis i o hsz hsh (by omega) ho' hall
        have him' : i = m := by
          rcases Nat.lt_or_ge m i with h' | h'
          · have := hlate m (Nat.le_refl _) (by omega)
            rw [hfull m h'] at this; cases this
          · omega
        subst him'
        have hT : putL l.toArray a0 (fun j => lis.getD j false) s i = putL l.toArray a0 (fun _ => true) s i := putL_congr i (fun j hj => ⟨hfull j hj, rfl⟩)
        have hJ : laidJ w i al (fun _ => true) s W := ⟨fun j ob hj _ h => hlaid.1 j ob hj (hfull j hj) h, fun j k hj hk hne _ _ => hlaid.2 j k hj hk hne (hfull j hj) (hfull k hk)⟩
        have h1 := ht s (fun j hj => hrel j hj (hfull j hj)) W hbel hJ
        rw [← hT, show l.length - i = (l.length - (i + 1)) + 1 by omega, List.range'_succ, wpOps_cons] at h1
        refine wpOp_mono (fun a' W' h' => ⟨by simpa using hsz, hsh', .inr ⟨i + 1, by omega, by omega, fun j hj => ?_, h'⟩⟩) h1
        by_cases e : j = i
        · subst e; exact ⟨fun _ => by omega, fun _ => getD_set_self (by rw [hsz]; exact hil) false⟩
        · rw [getD_set_ne false (fun e' => e e'.symm)]
          constructor
          · intro h2
            rcases Nat.lt_or_ge j i with h' | h'
            · omega
            · have := hlate j (by omega) hj
              rw [h2] at this; cases this
          · intro h2; exact hfull j (by omega)
    · have hki : i = k := by
        have h1 : ¬ i < k := fun h' => by have := (hk3 i hil).2 h'; rw [hun'] at this; cases this
        have h2 := waitsAll lis i o hsz hsh (by omega) ho' hall
        rcases Nat.lt_or_ge k i with h' | h'
        · have := (hk3 k (by omega)).1 (h2 k h'); omega
        · omega
      subst hki
      rw [show l.length - i = (l.length - (i + 1)) + 1 by omega, List.range'_succ, wpOps_cons] at hk
      refine wpOp_mono (fun a' W' h' => ⟨by simpa using hsz, hsh', .inr ⟨i + 1, by omega, by omega, fun j hj => ?_, h'⟩⟩) hk
      by_cases e : j = i
      · subst e; exact ⟨fun _ => by omega, fun _ => getD_set_self (by rw [hsz]; exact hil) false⟩
      · rw [getD_set_ne false (fun e' => e e'.symm), hk3 j hj]
        omega
  · rintro lis a W ⟨hsz, hsh, hI⟩ hr0
    have hallL : ∀ j, j < l.length → lis.getD j false = true := by
      intro j
      induction j using Nat.strongRecOn with
      | _ j ih =>
        intro hj
        cases hc : lis.getD j false with
        | true => rfl
        | false =>
          exfalso
          have : j ∈ Region.ready .any l.toArray lis := by
            refine mem_ready.2 ⟨by simpa [hsz, hj] using hc, l[j], by simp [hj], fun e he _ => ?_⟩
            have h1 := hdown j (by rw [hz]; exact hj)
            rw [hgl, List.getElem?_eq_getElem hj] at h1
            simp only [Array.all_eq_true_iff_forall_mem, decide_eq_true_eq] at h1
            have h2 := h1 e he
            exact ih e.on h2 (by omega)
          rw [hr0] at this
          cases this
    rcases hI with ⟨s, hlate, rfl, hrel, hbel, hlaid⟩ | ⟨k, hk1, hk2, hk3, hk⟩
    · have hml : m = l.length := by
        rcases Nat.lt_or_ge m l.length with h' | h'
        · have := hlate m (Nat.le_refl _) h'
          rw [hallL m h'] at this; cases this
        · omega
      subst hml
      have hT : putL l.toArray a0 (fun j => lis.getD j false) s l.length = putL l.toArray a0 (fun _ => true) s l.length := putL_congr _ (fun j hj => ⟨hallL j hj, rfl⟩)
      have hJ : laidJ w l.length al (fun _ => true) s W := ⟨fun j ob hj _ h => hlaid.1 j ob hj (hallL j hj) h, fun j k hj hk hne _ _ => hlaid.2 j k hj hk hne (hallL j hj) (hallL k hk)⟩
      have h1 := ht s (fun j hj => hrel j hj (hallL j hj)) W hbel hJ
      rw [← hT] at h1
      simpa [wpOps] using h1
    · have hkl : k = l.length := by
        rcases Nat.lt_or_ge k l.length with h' | h'
        · have := (hk3 k h').1 (hallL k h'); omega
        · omega
      subst hkl
      simpa [wpOps] using hk
  · refine ⟨by simp, ?_, .inl ⟨fun _ => undef, ?_, ?_, ?_, bl_drew (bl_refl w), ?_⟩⟩
    · intro k j hk; rw [rep_false] at hk; cases hk
    · intro k _ _; exact rep_false _ _
    · have : ∀ k, putL l.toArray a0 (fun i => (Array.replicate l.toArray.size false).getD i false) (fun _ => undef) k = a0 := by
        intro k
        induction k with
        | zero => rfl
        | succ k ih => unfold putL; rw [if_neg (by rw [rep_false]; decide), ih]
      exact (this m).symm
    · intro j _ h; rw [rep_false] at h; cases h
    · exact ⟨fun i ob _ h => (by simp only [rep_false] at h; cases h), fun i j _ _ _ h => (by simp only [rep_false] at h; cases h)⟩
/-- a hypothesis that no tactic looks into -/
def Veil (p : Prop) : Prop := p
theorem Veil.out {p : Prop} (h : Veil p) : p := h
theorem heap_cell {W : World} {b i : Nat} {c : Array Value} {t : TypeId} {v : Value} (h : W.heap[b]? = some (.cells c t)) (hc : c[i]? = some v) : W.cell? ⟨b, i, none⟩ = some v := by
  simp [World.cell?, h, hc]
theorem heap_frozen {W : World} {b i : Nat} {c : Array Value} {t : TypeId} (h : W.heap[b]? = some (.cells c t)) : W.frozen? ⟨b, i, none⟩ = false := by
  simp [World.frozen?, h]
theorem laid_at {W0 W : World} {m : Nat} {al : Nat → Option Obj} {s : Nat → Value} (h : laidJ W0 m al (fun _ => true) s W) (i : Nat) {ob : Obj} (hi : i < m) (ha : al i = some ob) : ∃ b, s i = .pointer (some ⟨b, 0, none⟩) ∧ W0.heap.size ≤ b ∧ W.heap[b]? = some ob := h.1 i ob hi rfl ha
theorem laid_ne {W0 W : World} {m : Nat} {al : Nat → Option Obj} {s : Nat → Value} (h : laidJ W0 m al (fun _ => true) s W) (i j : Nat) {b c : Nat} (hi : i < m) (hj : j < m) (hne : i ≠ j) (a1 : (al i).isSome = true) (a2 : (al j).isSome = true) (e1 : s i = .pointer (some ⟨b, 0, none⟩)) (e2 : s j = .pointer (some ⟨c, 0, none⟩)) : b ≠ c := by
  rintro rfl
  exact h.2 i j hi hj hne rfl rfl a1 a2 (e1.trans e2.symm)
theorem set_away {W : World} {n o o' : Nat} {v : Value} (h : o ≠ o') : (W.setCell ⟨n, o, none⟩ v).cell? ⟨n, o', none⟩ = W.cell? ⟨n, o', none⟩ := by
  apply World.cell?_setCell_other
  intro e
  injection e with e1 e2 e3
  exact h e2
theorem set_block {W : World} {n b o o' : Nat} {v : Value} (h : b ≠ n) : (W.setCell ⟨n, o, none⟩ v).cell? ⟨b, o', none⟩ = W.cell? ⟨b, o', none⟩ := by
  apply World.cell?_setCell_other
  intro e
  injection e with e1 e2 e3
  exact h e1.symm
theorem set_else {W : World} {n b o o' : Nat} {v : Value} (h : b ≠ n ∨ o ≠ o') : (W.setCell ⟨n, o, none⟩ v).cell? ⟨b, o', none⟩ = W.cell? ⟨b, o', none⟩ := by
  apply World.cell?_setCell_other
  intro e
  injection e with e1 e2 e3
  rcases h with h | h
  · exact h e1.symm
  · exact h e2
theorem put1_all {W : World} {n : Nat} {p p0 : Value} (h0 : W.cell? ⟨n, 0, none⟩ = some p0) : ∃ W', W' = W.setCell ⟨n, 0, none⟩ p ∧ W'.cell? ⟨n, 0, none⟩ = some p ∧ (∀ b o, (b ≠ n ∨ 1 ≤ o) → W'.cell? ⟨b, o, none⟩ = W.cell? ⟨b, o, none⟩) ∧ (∀ w, Bel w W → w.heap.size ≤ n → Bel w W') := by
  refine ⟨_, rfl, ?_, fun b o h => (set_else (by omega)), fun w hb hn => bl_set hb hn⟩
  · exact World.cell?_setCell_same _ _ _ h0
theorem put2_all {W : World} {n : Nat} {p q p0 q0 : Value} (h0 : W.cell? ⟨n, 0, none⟩ = some p0) (h1 : W.cell? ⟨n, 1, none⟩ = some q0) : ∃ W', W' = (W.setCell ⟨n, 0, none⟩ p).setCell ⟨n, 1, none⟩ q ∧ W'.cell? ⟨n, 0, none⟩ = some p ∧ W'.cell? ⟨n, 1, none⟩ = some q ∧ (∀ b o, (b ≠ n ∨ 2 ≤ o) → W'.cell? ⟨b, o, none⟩ = W.cell? ⟨b, o, none⟩) ∧ (∀ w, Bel w W → w.heap.size ≤ n → Bel w W') := by
  refine ⟨_, rfl, ?_, ?_, fun b o h => ((set_else (by omega)).trans (set_else (by omega))), fun w hb hn => bl_set (bl_set hb hn) hn⟩
  · rw [set_away (by decide)]; exact World.cell?_setCell_same _ _ _ h0
  · exact World.cell?_setCell_same _ _ _ ((set_away (by decide)).trans h1)
theorem put3_all {W : World} {n : Nat} {p q r p0 q0 r0 : Value} (h0 : W.cell? ⟨n, 0, none⟩ = some p0) (h1 : W.cell? ⟨n, 1, none⟩ = some q0) (h2 : W.cell? ⟨n, 2, none⟩ = some r0) : ∃ W', W' = ((W.setCell ⟨n, 0, none⟩ p).setCell ⟨n, 1, none⟩ q).setCell ⟨n, 2, none⟩ r ∧ W'.cell? ⟨n, 0, none⟩ = some p ∧ W'.cell? ⟨n, 1, none⟩ = some q ∧ W'.cell? ⟨n, 2, none⟩ = some r ∧ (∀ b o, (b ≠ n ∨ 3 ≤ o) → W'.cell? ⟨b, o, none⟩ = W.cell? ⟨b, o, none⟩) ∧ (∀ w, Bel w W → w.heap.size ≤ n → Bel w W') := by
  refine ⟨_, rfl, ?_, ?_, ?_, fun b o h => ((set_else (by omega)).trans ((set_else (by omega)).trans (set_else (by omega)))), fun w hb hn => bl_set (bl_set (bl_set hb hn) hn) hn⟩
  · rw [set_away (by decide)]; rw [set_away (by decide)]; exact World.cell?_setCell_same _ _ _ h0
  · rw [set_away (by decide)]; exact World.cell?_setCell_same _ _ _ ((set_away (by decide)).trans h1)
  · exact World.cell?_setCell_same _ _ _ ((set_away (by decide)).trans ((set_away (by decide)).trans h2))
theorem put4_all {W : World} {n : Nat} {p q r s p0 q0 r0 s0 : Value} (h0 : W.cell? ⟨n, 0, none⟩ = some p0) (h1 : W.cell? ⟨n, 1, none⟩ = some q0) (h2 : W.cell? ⟨n, 2, none⟩ = some r0) (h3 : W.cell? ⟨n, 3, none⟩ = some s0) : ∃ W', W' = (((W.setCell ⟨n, 0, none⟩ p).setCell ⟨n, 1, none⟩ q).setCell ⟨n, 2, none⟩ r).setCell ⟨n, 3, none⟩ s ∧ W'.cell? ⟨n, 0, none⟩ = some p ∧ W'.cell? ⟨n, 1, none⟩ = some q ∧ W'.cell? ⟨n, 2, none⟩ = some r ∧ W'.cell? ⟨n, 3, none⟩ = some s ∧ (∀ b o, (b ≠ n ∨ 4 ≤ o) → W'.cell? ⟨b, o, none⟩ = W.cell? ⟨b, o, none⟩) ∧ (∀ w, Bel w W → w.heap.size ≤ n → Bel w W') := by
  refine ⟨_, rfl, ?_, ?_, ?_, ?_, fun b o h => ((set_else (by omega)).trans ((set_else (by omega)).trans ((set_else (by omega)).trans (set_else (by omega))))), fun w hb hn => bl_set (bl_set (bl_set (bl_set hb hn) hn) hn) hn⟩
  · rw [set_away (by decide)]; rw [set_away (by decide)]; rw [set_away (by decide)]; exact World.cell?_setCell_same _ _ _ h0
  · rw [set_away (by decide)]; rw [set_away (by decide)]; exact World.cell?_setCell_same _ _ _ ((set_away (by decide)).trans h1)
  · rw [set_away (by decide)]; exact World.cell?_setCell_same _ _ _ ((set_away (by decide)).trans ((set_away (by decide)).trans h2))
  · exact World.cell?_setCell_same _ _ _ ((set_away (by decide)).trans ((set_away (by decide)).trans ((set_away (by decide)).trans h3)))
theorem tail_step {P : Program} {ops : Array Oper} {Q : Exit → Act → World → Prop} {a : Act} {w : World} {i : Nat} {o : Oper} {rest : List Nat} (ho : ops[i]? = some o)
    (h : ∀ K' : Act → World → Prop, Veil (∀ a w, wpOps P ops Q rest a w → K' a w) → if Region.wanted o (yielded ops a.tmps) = true then Oper.wp P o a w K' Q else K' (a.put o.dst undef) w) : wpOps P ops Q (i :: rest) a w := by
  rw [wpOps_cons]
  exact wpOp_step ho (fun K' hK => h K' hK)
theorem tail_end {P : Program} {ops : Array Oper} {Q : Exit → Act → World → Prop} {a : Act} {w : World} (h : Q .normal a w) : wpOps P ops Q [] a w := h
/-- the same, the full frame written out -/
theorem wp_region_multiA {P : Program} {id : Nat} {Q : Exit → Act → World → Prop} {a0 : Act} {w : World} {l : List Oper} (m : Nat) (Rel : Nat → Value → Prop) (al : Nat → Option Obj) (A : (Nat → Value) → Act) (hm : P.follows .mixedOrders = true) (hB : multiB l.toArray m a0.tmps.size = true)
    (hA : ∀ s, putL l.toArray a0 (fun _ => true) s m = A s)
    (ha : ∀ i o ob, i < m → l[i]? = some o → al i = some ob → (∀ v, isPtr w v → Rel i v) ∧ (∃ c t, ob = .cells c t) ∧ ∀ (A : Act) (W : World), (execOp A.eval o).run P W = .ok (.value (.pointer (some ⟨W.heap.size, 0, none⟩))) (W.alloc ob))
    (hq : ∀ i o, i < m → l[i]? = some o → al i = none → ∀ s : Nat → Value, (∀ j, j < m → bnd l.toArray i j = true → Rel j (s j)) → ∀ W, Bel w W → ∀ K : Act → World → Prop, Veil (∀ v W', Rel i v → Bel W W' → K ((A s).put o.dst v) W') → Oper.wp P o (A s) W K (fun _ _ _ => False))
    (tl : List Nat) (htl : List.range' m (l.length - m) = tl) (ht : ∀ s : Nat → Value, (∀ j, j < m → Rel j (s j)) → ∀ W, Bel w W → laidJ w m al (fun _ => true) s W → wpOps P l.toArray Q tl (A s) W) :
    (Code.region id l.toArray true).wp P Q a0 w := by
  subst htl
  exact wp_region_multi m Rel al hm hB ha (fun i o h1 h2 h3 s h4 W h5 K h6 => by rw [hA] at h6 ⊢; exact hq i o h1 h2 h3 s h4 W h5 K h6) (fun s h1 W h2 h3 => by rw [hA]; exact ht s h1 W h2 h3)
end Go.Proofs.Ytoofbfjlgablkaa
