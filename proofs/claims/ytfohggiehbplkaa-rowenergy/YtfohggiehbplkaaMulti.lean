/-
  Plain facts on floats, more: rounding to the nearest rung, sums and products of finite floats, signs turned. No program is named here.
-/
import Derived.Test.YtfohggiehbplkaaFlt
import Derived.Still
import Derived.RegionTactic
namespace Go.Proofs.Ytfohggiehbplkaa
open Ieee Go.RowKit
set_option linter.unusedSimpArgs false
set_option linter.unusedVariables false

theorem count_set {l : Array Bool} {i : Nat} (h : l.getD i true = false) : (l.setIfInBounds i true).count false + 1 = l.count false := by
  have hi : i < l.size := by
    rcases Nat.lt_or_ge i l.size with h' | h'
    · exact h'
    · simp [Array.getElem?_eq_none h'] at h
  have hv : l[i] = false := by simpa [hi] using h
  have hp : 0 < l.count false := Array.count_pos_iff.2 (hv ▸ Array.getElem_mem hi)
  rw [Array.setIfInBounds, dif_pos hi, Array.count_set]
  simp [hv]
  omega
theorem ready_none {md : Region.Mode} {ops : Array Oper} {l : Array Bool} (h : l.count false = 0) : Region.ready md ops l = [] := by
  apply List.eq_nil_iff_forall_not_mem.2
  intro i hi
  have := count_set (mem_ready.1 hi).1
  omega
theorem wpAny_inv {P : Program} {md : Region.Mode} {ops : Array Oper} {Q : Exit → Act → World → Prop} (I : Array Bool → Act → World → Prop)
    (step : ∀ l a w i, I l a w → i ∈ Region.ready md ops l → wpOp P ops Q i (fun a' w' => I (l.setIfInBounds i true) a' w') a w)
    (done : ∀ l a w, I l a w → Region.ready md ops l = [] → Q .normal a w) :
    ∀ (fuel : Nat) (l : Array Bool) (a : Act) (w : World), l.count false ≤ fuel → I l a w → wpAny P md ops Q fuel l a w
  | 0, l, a, w, hf, h => ⟨ready_none (by omega), done l a w h (ready_none (by omega))⟩
  | fuel + 1, l, a, w, hf, h => ⟨fun h0 => done l a w h h0, fun i hi => wpOp_mono (fun a' w' h' => wpAny_inv I step done fuel _ a' w' (by have := count_set (mem_ready.1 hi).1; omega) h') (step l a w i h hi)⟩

section
variable (ops : Array Oper)
/-- operation k waits for operation j -/
def bnd (k j : Nat) : Bool := match ops[k]? with | some o => o.after.any (fun e => Region.binds .any e && e.on == j) | none => false
def rch : Nat → Nat → Nat → Bool
  | 0, _, _ => false
  | f + 1, k, j => bnd ops k j || (List.range ops.size).any (fun i => bnd ops k i && rch f i j)
def dstO (i : Nat) : Option Tmp := (ops[i]?).bind (·.dst)
def looksO (i : Nat) : List Tmp := match ops[i]? with | some o => o.looksAt ops | none => []
end

theorem bnd_of {ops : Array Oper} {k j : Nat} {o : Oper} (ho : ops[k]? = some o) : bnd ops k j = true ↔ ∃ e ∈ o.after, Region.binds .any e = true ∧ e.on = j := by
  unfold bnd
  rw [ho]
  simp only [Array.any_eq_true, Bool.and_eq_true, beq_iff_eq]
  constructor
  · rintro ⟨i, h, h1, h2⟩
    exact ⟨_, Array.getElem_mem h, h1, h2⟩
  · rintro ⟨e, he, h1, h2⟩
    obtain ⟨i, h, rfl⟩ := Array.mem_iff_getElem.1 he
    exact ⟨i, h, h1, h2⟩
/-- what has come up is shut below -/
def shutB (ops : Array Oper) (l : Array Bool) : Prop := ∀ k j, l.getD k false = true → bnd ops k j = true → l.getD j false = true
theorem rch_listed {ops : Array Oper} {l : Array Bool} (hs : shutB ops l) : ∀ (f k j : Nat), (∀ i, bnd ops k i = true → l.getD i false = true) → rch ops f k j = true → l.getD j false = true
  | 0, _, _, _, h => by simp [rch] at h
  | f + 1, k, j, hk, h => by
    simp only [rch, Bool.or_eq_true, List.any_eq_true, Bool.and_eq_true] at h
    rcases h with h | ⟨i, _, hi, hr⟩
    · exact hk j h
    · exact rch_listed hs f i j (fun t ht => hs i t (hk i hi) ht) hr
theorem getD_set_self {l : Array Bool} {i : Nat} (hs : i < l.size) (d : Bool) : (l.setIfInBounds i true).getD i d = true := by
  simp [hs]
theorem shut_set {ops : Array Oper} {l : Array Bool} {i : Nat} (hs : shutB ops l) (hi : ∀ j, bnd ops i j = true → l.getD j false = true) (hi' : i < l.size) : shutB ops (l.setIfInBounds i true) := by
  intro k j hk hb
  by_cases e : i = k
  · subst e
    exact getD_set_true (hi j hb)
  · rw [getD_set_ne false e] at hk
    exact getD_set_true (hs k j hk hb)

def putL (ops : Array Oper) (a0 : Act) (L : Nat → Bool) (s : Nat → Value) : Nat → Act
  | 0 => a0
  | k + 1 => if L k = true then (putL ops a0 L s k).put (dstO ops k) (s k) else putL ops a0 L s k
theorem putL_congr {ops : Array Oper} {a0 : Act} {L L' : Nat → Bool} {s s' : Nat → Value} : ∀ (k : Nat), (∀ j, j < k → L j = L' j ∧ s j = s' j) → putL ops a0 L s k = putL ops a0 L' s' k
  | 0, _ => rfl
  | k + 1, h => by
    unfold putL
    rw [putL_congr k (fun j hj => h j (by omega)), (h k (by omega)).1, (h k (by omega)).2]
theorem putL_size {ops : Array Oper} {a0 : Act} {L : Nat → Bool} {s : Nat → Value} : ∀ (k : Nat), (putL ops a0 L s k).tmps.size = a0.tmps.size ∧ (putL ops a0 L s k).defers = a0.defers
  | 0 => ⟨rfl, rfl⟩
  | k + 1 => by
    have ih := putL_size (ops := ops) (a0 := a0) (L := L) (s := s) k
    unfold putL
    split
    · cases dstO ops k <;> simpa [Act.put] using ih
    · exact ih
def updS (s : Nat → Value) (i : Nat) (v : Value) : Nat → Value := fun j => if j = i then v else s j
theorem putL_put {ops : Array Oper} {a0 : Act} {L L' : Nat → Bool} {s : Nat → Value} {i : Nat} {v : Value} (hL : L i = false) (hL1 : L' i = true) (hL2 : ∀ j, j ≠ i → L' j = L j) : ∀ (k : Nat), i < k → (∀ j, j < k → j ≠ i → dstO ops i ≠ dstO ops j ∨ dstO ops j = none) →
    (putL ops a0 L s k).put (dstO ops i) v = putL ops a0 L' (updS s i v) k
  | 0, h, _ => by omega
  | k + 1, h, hd => by
    by_cases e : i = k
    · subst e
      unfold putL
      rw [if_neg (by simp [hL]), if_pos hL1, putL_congr (L' := L') (s' := updS s i v) i (fun j hj => ⟨(hL2 j (by omega)).symm, by unfold updS; rw [if_neg (by omega)]⟩)]
      simp [updS]
    · have ih := putL_put hL hL1 hL2 (a0 := a0) (s := s) (v := v) k (by omega) (fun j hj => hd j (by omega))
      unfold putL
      rw [hL2 k (by omega)]
      split
      · rw [← ih]
        have hs : updS s i v k = s k := by unfold updS; rw [if_neg (by omega)]
        rw [hs]
        apply Act.put_comm
        intro d hd1 hd2
        rcases hd k (by omega) (by omega) with h1 | h1
        · exact h1 (hd2.trans hd1.symm)
        · rw [h1] at hd1; cases hd1
      · exact ih
theorem eval_put_tmp (a : Act) (d t : Tmp) (v : Value) : (a.put (some d) v).eval (.tmp t) = if d = t ∧ d < a.tmps.size then v else a.eval (.tmp t) := by
  unfold Act.put Act.eval
  by_cases e : d = t
  · subst e
    by_cases h : d < a.tmps.size <;> simp [h]
  · simp [e, Array.getElem?_setIfInBounds_ne e]
theorem putL_eval {ops : Array Oper} {a0 : Act} {L : Nat → Bool} {s : Nat → Value} {x : Operand} : ∀ (k : Nat), (∀ j, j < k → L j = false → ∀ d, dstO ops j = some d → x ≠ .tmp d) →
    (putL ops a0 L s k).eval x = (putL ops a0 (fun _ => true) s k).eval x
  | 0, _ => rfl
  | k + 1, h => by
    have ih := putL_eval (ops := ops) (a0 := a0) (L := L) (s := s) (x := x) k (fun j hj => h j (by omega))
    have z1 := (putL_size (ops := ops) (a0 := a0) (L := L) (s := s) k).1
    have z2 := (putL_size (ops := ops) (a0 := a0) (L := fun _ => true) (s := s) k).1
    unfold putL
    rw [if_pos rfl]
    cases hL : L k
    · rw [if_neg (by simp)]
      rw [ih]
      symm
      apply Act.eval_put
      intro d hd
      exact h k (by omega) hL d hd
    · rw [if_pos rfl]
      cases hd : dstO ops k with
      | none => exact ih
      | some d =>
        cases x with
        | tmp t => rw [eval_put_tmp, eval_put_tmp, z1, z2, ih]
        | _ => rfl

theorem upon_carry {P : Program} {o : Oper} {A a : Act} {d : Tmp} {N : Value → World → Prop} {K : Act → World → Prop} {Q : Exit → Act → World → Prop} {r : Result Next} (hd : o.dst = some d) (hs : d < A.tmps.size)
    (h : o.upon P A (fun a' w' => ∃ v, a' = A.put (some d) v ∧ N v w') (fun _ _ _ => False) r) (hK : ∀ v w', N v w' → K (a.put o.dst v) w') : o.upon P a K Q r := by
  have inj : ∀ u v, A.put (some d) u = A.put (some d) v → u = v := by
    intro u v e
    have := congrArg (fun x => Act.eval x (.tmp d)) e
    simpa [eval_put_tmp, hs] using this
  have val : ∀ u w', (∃ v, A.put o.dst u = A.put (some d) v ∧ N v w') → K (a.put o.dst u) w' := by
    rintro u w' ⟨v, e, hn⟩
    rw [hd] at e
    rw [inj u v e]
    exact hK v w' hn
  cases r with
  | ok n w' =>
    cases n <;> simp only [Oper.upon] at h ⊢
    case value u => exact val u w' h
    case skip => exact val undef w' h
    case defer x =>
      obtain ⟨v, e, _⟩ := h
      exfalso
      have := congrArg (fun x => x.defers.length) e
      simp [Act.put, hd] at this
    case enter f args =>
      refine Calls.mono h (fun e w'' he => ?_)
      cases e with
      | returned v => exact val v w'' he
      | panicked c => exact he.elim
      | outgrown => obtain ⟨_, _, hx⟩ := he; exact hx.elim
    case row f args => exact Rows.mono h (fun v w'' he => val v w'' he)
    all_goals exact h.elim
  | halt x w' => cases x <;> simp only [Oper.upon] at h ⊢

theorem rep_false (n k : Nat) : (Array.replicate n false).getD k false = false := by
  by_cases h : k < n
  · simp [h]
  · simp [h]

/-- a hypothesis that no tactic looks into -/
def Veil (p : Prop) : Prop := p
theorem Veil.out {p : Prop} (h : Veil p) : p := h
end Go.Proofs.Ytfohggiehbplkaa
