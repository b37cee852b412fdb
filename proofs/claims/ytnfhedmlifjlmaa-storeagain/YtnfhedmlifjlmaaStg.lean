/-
  Plain facts on floats, more: rounding to the nearest rung, sums and products of finite floats, signs turned. No program is named here.
-/
import Derived.Test.YtnfhedmlifjlmaaSto
namespace Go.Proofs.Ytnfhedmlifjlmaa
open Ieee Go.RowKit Go.WideShapes
set_option linter.unusedSimpArgs false
set_option linter.unusedVariables false

/-! ### Two rows of a call's own beside a store that is read: handles and things -/
structure Pt2 (w W : World) (m : Sm) (s : Ss) (sh : Option Addr) (ch : Nat) (sx : Option Addr) (cx : Nat) (H : List (Nat × Nat)) (X : List Value) : Prop where
  st : Sto W m s
  rh : Ro 2 W sh H.length ch (hRow H)
  rx : Ro 1 W sx X.length cx X
  d1 : ∀ k, k ∈ ob sh → k ∉ m.F ∧ k ∉ ob sx
  d2 : ∀ k, k ∈ ob sx → k ∉ m.F
  fr : Fr [] (ob sh ++ ob sx) w W
variable {w W W' : World} {m : Sm} {s : Ss} {sh sx sh' sx' : Option Addr} {ch cx ch' cx' : Nat} {H H' : List (Nat × Nat)} {X X' : List Value}
theorem Pt2.start (hS : Sto w m s) : Pt2 w w m s none 0 none 0 [] [] := ⟨hS, Ro.nil _ _, Ro.nil _ _, (fun k hk => by cases hk), (fun k hk => by cases hk), Fr.refl _ _⟩
theorem Pt2.bel (h : Pt2 w W m s sh ch sx cx H X) (b : Bel W W') : Pt2 w W' m s sh ch sx cx H X := ⟨h.st.bel b, h.rh.bel b, h.rx.bel b, h.d1, h.d2, h.fr.trans (Fr.of_bel b)⟩
theorem Pt2.appH (h : Pt2 w W m s sh ch sx cx H X) (hR : Ro 2 W' sh' H'.length ch' (hRow H')) (f : Fr (ob sh) (ob sh') W W') : Pt2 w W' m s sh' ch' sx cx H' X :=
  ⟨h.st.fr f (fun k hk hm => (h.d1 k hm).1 hk), hR, h.rx.fr f (fun k hk hm => (h.d1 k hm).2 hk), fun k hk => by
    rcases f.grown k hk with h' | h'
    · exact h.d1 k h'
    · exact ⟨fun e => by have := h.st.sz k e; omega, fun e => by have := h.rx.lt k e; omega⟩, h.d2,
   h.fr.trans (f.part (fun k hk => by simp [hk]) (fun k hk => by simp only [List.mem_append] at hk ⊢; rcases hk with hk | hk; exact .inr hk; exact .inl (.inr hk)))⟩
theorem Pt2.appX (h : Pt2 w W m s sh ch sx cx H X) (hR : Ro 1 W' sx' X'.length cx' X') (f : Fr (ob sx) (ob sx') W W') : Pt2 w W' m s sh ch sx' cx' H X' :=
  ⟨h.st.fr f (fun k hk hm => h.d2 k hm hk), h.rh.fr f (fun k hk hm => (h.d1 k hk).2 hm), hR, fun k hk => ⟨(h.d1 k hk).1, f.away (h.rh.lt k hk) (h.d1 k hk).2⟩, fun k hk => by
    rcases f.grown k hk with h' | h'
    · exact h.d2 k h'
    · exact fun e => by have := h.st.sz k e; omega,
   h.fr.trans (f.part (fun k hk => by simp [hk]) (fun k hk => by simp only [List.mem_append] at hk ⊢; rcases hk with hk | hk; exact .inl (.inl hk); exact .inr hk))⟩
/-- something that was built, and lies off both rows -/
def Bd9 (W : World) (x : Value) (N : List Value) (sh sx : Option Addr) : Prop := ∃ g, x = .slice (some ⟨g, 0, none⟩) 1 1 ∧ Rw W g 0 N ∧ g ∉ ob sh ∧ g ∉ ob sx ∧ g < W.heap.size
theorem Bd9.bel {x : Value} {N : List Value} (h : Bd9 W x N sh sx) (b : Bel W W') : Bd9 W' x N sh sx := by
  obtain ⟨g, h1, h2, h3, h4, h5⟩ := h
  exact ⟨g, h1, h2.bel b, h3, h4, Nat.lt_of_lt_of_le h5 b.size⟩
theorem Bd9.frH {x : Value} {N : List Value} (h : Bd9 W x N sh sx) (f : Fr (ob sh) (ob sh') W W') : Bd9 W' x N sh' sx := by
  obtain ⟨g, h1, h2, h3, h4, h5⟩ := h
  exact ⟨g, h1, fun j u hj => f.cell h3 (h2 j u hj), f.away h5 h3, h4, Nat.lt_of_lt_of_le h5 f.size⟩
theorem Bd9.frX {x : Value} {N : List Value} (h : Bd9 W x N sh sx) (f : Fr (ob sx) (ob sx') W W') : Bd9 W' x N sh sx' := by
  obtain ⟨g, h1, h2, h3, h4, h5⟩ := h
  exact ⟨g, h1, fun j u hj => f.cell h4 (h2 j u hj), h3, f.away h5 h4, Nat.lt_of_lt_of_le h5 f.size⟩
def hc (h : Nat × Nat) : List Value := [.int .u32 (h.1 : Int), .int .u32 (h.2 : Int)]
/-- where the region of two appends stands -/
def K9 (w : World) (m : Sm) (s : Ss) (sh : Option Addr) (ch : Nat) (sx : Option Addr) (cx : Nat) (H : List (Nat × Nat)) (X : List Value) (h : Nat × Nat) (v : Value) (L : Nat → Bool) (x : Nat → Value) (W : World) : Prop :=
  ∃ sh' ch' sx' cx', (L 5 = false → sh' = sh ∧ ch' = ch) ∧ (L 5 = true → x 5 = .slice sh' (H.length + 1) ch') ∧ (L 15 = false → sx' = sx ∧ cx' = cx) ∧ (L 15 = true → x 15 = .slice sx' (X.length + 1) cx') ∧
    Pt2 w W m s sh' ch' sx' cx' (if L 5 = true then H ++ [h] else H) (if L 15 = true then X ++ [v] else X) ∧ (L 4 = true → L 5 = false → Bd9 W (x 4) (hc h) sh' sx') ∧ (L 14 = true → L 15 = false → Bd9 W (x 14) [v] sh' sx')
variable {h : Nat × Nat} {v : Value} {L L' : Nat → Bool} {x : Nat → Value}
theorem K9.start (x : Nat → Value) (hP : Pt2 w W m s sh ch sx cx H X) : K9 w m s sh ch sx cx H X h v (fun _ => false) x W :=
  ⟨sh, ch, sx, cx, fun _ => ⟨rfl, rfl⟩, (fun e => by cases e), fun _ => ⟨rfl, rfl⟩, (fun e => by cases e), hP, (fun e => by cases e), (fun e => by cases e)⟩
theorem K9.bel (k : K9 w m s sh ch sx cx H X h v L x W) (b : Bel W W') : K9 w m s sh ch sx cx H X h v L x W' := by
  obtain ⟨a1, a2, a3, a4, h1, h2, h3, h4, h5, h6, h7⟩ := k
  exact ⟨a1, a2, a3, a4, h1, h2, h3, h4, h5.bel b, fun e f => (h6 e f).bel b, fun e f => (h7 e f).bel b⟩
theorem K9.ext (k : K9 w m s sh ch sx cx H X h v L x W) (hL : ∀ i, i < 18 → L i = L' i) : K9 w m s sh ch sx cx H X h v L' x W := by
  unfold K9 at k ⊢
  rw [hL 4 (by decide), hL 5 (by decide), hL 14 (by decide), hL 15 (by decide)] at k
  exact k
theorem K9.st (k : K9 w m s sh ch sx cx H X h v L x W) : Sto W m s := by
  obtain ⟨a1, a2, a3, a4, h1, h2, h3, h4, h5, h6, h7⟩ := k
  exact h5.st
theorem new9 (P : Pt2 w W m s sh ch sx cx H X) (N : List Value) (t : TypeId) : Bd9 (W.alloc (.cells N.toArray t)) (.slice (some ⟨W.heap.size, 0, none⟩) 1 1) N sh sx :=
  ⟨_, rfl, fun j u hj => by rw [Nat.zero_add, World.cell?_alloc_new, List.getElem?_toArray]; exact hj, fun e => Nat.lt_irrefl _ (P.rh.lt _ e), fun e => Nat.lt_irrefl _ (P.rx.lt _ e), by simp⟩
theorem K9.b4 (k : K9 w m s sh ch sx cx H X h v L x W) (t : TypeId) : K9 w m s sh ch sx cx H X h v (updL L 4) (updS x 4 (.slice (some ⟨W.heap.size, 0, none⟩) 1 1)) (W.alloc (.cells (hc h).toArray t)) := by
  have b := bl_alloc (bl_refl W) (hc h).toArray t
  obtain ⟨a1, a2, a3, a4, h1, h2, h3, h4, h5, h6, h7⟩ := k
  exact ⟨a1, a2, a3, a4, h1, h2, h3, h4, h5.bel b, fun _ _ => new9 h5 _ t, fun e f => (h7 e f).bel b⟩
theorem K9.b14 (k : K9 w m s sh ch sx cx H X h v L x W) (t : TypeId) : K9 w m s sh ch sx cx H X h v (updL L 14) (updS x 14 (.slice (some ⟨W.heap.size, 0, none⟩) 1 1)) (W.alloc (.cells #[v] t)) := by
  have b := bl_alloc (bl_refl W) #[v] t
  obtain ⟨a1, a2, a3, a4, h1, h2, h3, h4, h5, h6, h7⟩ := k
  exact ⟨a1, a2, a3, a4, h1, h2, h3, h4, h5.bel b, fun e f => (h6 e f).bel b, fun _ _ => new9 h5 [v] t⟩
theorem K9.a5 {P : Program} (k : K9 w m s sh ch sx cx H X h v L x W) (hd : L 5 = false) (hb : L 4 = true) {by_ : Nat} {z : Value} (t ty e : TypeId) (ht : P.underlying t = some (.slice e)) (hinf : (P.info? e).map (fun i => (i.zero, i.size, i.bytes)) = some (some z, 2, by_)) (hzc : z.cells.size = 2) (hml : H.length + 1 ≤ maxLen) (hr : (H.length + 1) * by_ ≤ 140737488355328) :
    ∃ y W', (Builtin.append_ #[t, t] ty #[.slice sh H.length ch, x 4]).run P W = .ok y W' ∧ K9 w m s sh ch sx cx H X h v (updL L 5) (updS x 5 y) W' := by
  obtain ⟨a1, a2, a3, a4, h1, h2, h3, h4, h5, h6, h7⟩ := k
  obtain ⟨rfl, rfl⟩ := h1 hd
  obtain ⟨g, hx, hRw, g1, g2, g3⟩ := h6 hb hd
  rw [if_neg (by rw [hd]; simp)] at h5
  obtain ⟨sa', cap', W', hrun, hRo', hf⟩ := Ro.app t ty e ht hinf hzc (by decide) g 0 1 1 h5.rh rfl hRw (by intro u hu; simp [hc] at hu; rcases hu with rfl | rfl <;> rfl) (by decide) hml hr
  rw [← hx] at hrun
  have hP := h5.appH (H' := H ++ [h]) (by rw [List.length_append, hRow_app]; exact hRo') hf
  exact ⟨_, W', hrun, sa', cap', a3, a4, (fun e => by cases e), fun _ => rfl, h3, h4, hP, (fun _ e => by cases e), fun e f => (h7 e f).frH hf⟩
theorem K9.a15 {P : Program} (k : K9 w m s sh ch sx cx H X h v L x W) (hd : L 15 = false) (hb : L 14 = true) {by_ : Nat} {z : Value} (t ty e : TypeId) (ht : P.underlying t = some (.slice e)) (hinf : (P.info? e).map (fun i => (i.zero, i.size, i.bytes)) = some (some z, 1, by_)) (hzc : z.cells.size = 1) (h1v : v.oneCell' = true) (hml : X.length + 1 ≤ maxLen) (hr : (X.length + 1) * by_ ≤ 140737488355328) :
    ∃ y W', (Builtin.append_ #[t, t] ty #[.slice sx X.length cx, x 14]).run P W = .ok y W' ∧ K9 w m s sh ch sx cx H X h v (updL L 15) (updS x 15 y) W' := by
  obtain ⟨a1, a2, a3, a4, h1, h2, h3, h4, h5, h6, h7⟩ := k
  obtain ⟨rfl, rfl⟩ := h3 hd
  obtain ⟨g, hx, hRw, g1, g2, g3⟩ := h7 hb hd
  simp only [hd] at h5
  obtain ⟨sa', cap', W', hrun, hRo', hf⟩ := Ro.app t ty e ht hinf hzc (by decide) g 0 1 1 h5.rx rfl hRw (by intro u hu; simp at hu; subst hu; exact h1v) (by decide) hml hr
  rw [← hx] at hrun
  have hP := h5.appX (X' := X ++ [v]) (by rw [List.length_append]; exact hRo') hf
  exact ⟨_, W', hrun, a1, a2, sa', cap', h1, h2, (fun e => by cases e), fun _ => rfl, hP, fun e f => (h6 e f).frX hf, (fun _ e => by cases e)⟩
theorem K9.done (k : K9 w m s sh ch sx cx H X h v L x W) (h5 : L 5 = true) (h15 : L 15 = true) : ∃ sh' ch' sx' cx', x 5 = .slice sh' (H.length + 1) ch' ∧ x 15 = .slice sx' (X.length + 1) cx' ∧ Pt2 w W m s sh' ch' sx' cx' (H ++ [h]) (X ++ [v]) := by
  obtain ⟨a1, a2, a3, a4, h1, h2, h3, h4, hp, h6, h7⟩ := k
  rw [if_pos h5, if_pos h15] at hp
  exact ⟨a1, a2, a3, a4, h2 h5, h4 h15, hp⟩
/-! ### what there is -/
def heH (s : Ss) : Nat → List (Nat × Nat)
  | 0 => []
  | k + 1 => heH s k ++ (if s.L[k]? = some true then [(k, s.U.getD k 0)] else [])
def heT (s : Ss) : Nat → List Value
  | 0 => []
  | k + 1 => heT s k ++ (if s.L[k]? = some true then [s.T.getD k undef] else [])
theorem heH_len (s : Ss) : ∀ k, (heH s k).length ≤ k
  | 0 => Nat.le_refl _
  | k + 1 => by
    unfold heH
    have := heH_len s k
    split <;> simp <;> omega
theorem heT_len (s : Ss) : ∀ k, (heT s k).length = (heH s k).length
  | 0 => rfl
  | k + 1 => by
    unfold heT heH
    rw [List.length_append, List.length_append, heT_len s k]
    split <;> rfl
end Go.Proofs.Ytnfhedmlifjlmaa
namespace Go.Proofs.Ytnfhedmlifjlmaa
open Ieee Go.RowKit
set_option linter.unusedSimpArgs false
set_option linter.unusedVariables false

/-! ### A region that draws its order and writes over slots that it has read: the slots as they stand -/
def inv0B (ops : Array Oper) (sz : Nat) : Bool := Region.noSelect ops && (List.range ops.size).all (fun i => (match ops[i]? with | some o => o.guard.isNone && (match o.op with | .defer _ => false | _ => true) | none => false) &&
    (match dstO ops i with | some d => decide (d < sz) | none => true) &&
    (List.range ops.size).all (fun j => i == j || (dstO ops i != dstO ops j || (dstO ops j).isNone))) &&
  (List.range ops.size).all (fun i => match ops[i]? with | some o => o.after.all (fun e => !Region.binds .any e || decide (e.on < i)) | none => true)
theorem Act.put_put (a : Act) (d : Option Tmp) (u v : Value) : (a.put d u).put d v = a.put d v := by
  cases d with
  | none => rfl
  | some d => unfold Act.put; simp
theorem putT {ops : Array Oper} {a0 : Act} {s : Nat → Value} {i : Nat} {v : Value} : ∀ (k : Nat), i < k → (∀ j, j < k → j ≠ i → dstO ops i ≠ dstO ops j ∨ dstO ops j = none) →
    (putL ops a0 (fun _ => true) s k).put (dstO ops i) v = putL ops a0 (fun _ => true) (updS s i v) k
  | 0, h, _ => by omega
  | k + 1, h, hd => by
    by_cases e : i = k
    · subst e
      unfold putL
      rw [if_pos rfl, if_pos rfl, Act.put_put, putL_congr (L' := fun _ => true) (s' := updS s i v) i (fun j hj => ⟨rfl, by unfold updS; rw [if_neg (by omega)]⟩)]
      simp [updS]
    · have ih := putT (ops := ops) (a0 := a0) (s := s) (i := i) (v := v) k (by omega) (fun j hj => hd j (by omega))
      unfold putL
      rw [if_pos rfl, if_pos rfl, ← ih]
      have hs : updS s i v k = s k := by unfold updS; rw [if_neg (by omega)]
      rw [hs]
      apply Act.put_comm
      intro d hd1 hd2
      rcases hd k (by omega) (by omega) with h1 | h1
      · exact h1 (hd2.trans hd1.symm)
      · rw [h1] at hd1; cases hd1
theorem inv0_any {P : Program} {Q : Exit → Act → World → Prop} {a0 : Act} {w : World} {l : List Oper} (n : Nat) (hnl : l.length = n) (J : (Nat → Bool) → (Nat → Value) → World → Prop) (A : (Nat → Value) → Act)
    (s0 : Nat → Value) (hs0 : A s0 = a0) (hB : inv0B l.toArray a0.tmps.size = true) (hA : ∀ s, putL l.toArray a0 (fun _ => true) s n = A s)
    (h0 : J (fun _ => false) s0 w)
    (hq : ∀ i o, i < n → l[i]? = some o → ∀ (L : Nat → Bool) (s : Nat → Value) (W : World), L i = false → (∀ j, bnd l.toArray i j = true → L j = true) → (∀ k j, k < n → L k = true → bnd l.toArray k j = true → L j = true) → J L s W → ∀ K : Act → World → Prop, Veil (∀ v W', J (updL L i) (updS s i v) W' → K ((A s).put o.dst v) W') → Oper.wp P o (A s) W K (fun _ _ _ => False))
    (hJ : ∀ L L' s W, (∀ j, j < n → L j = L' j) → J L s W → J L' s W)
    (ht : ∀ (s : Nat → Value) (W : World), J (fun _ => true) s W → Q .normal (A s) W) :
    wpAny P .any l.toArray Q l.toArray.size (Array.replicate l.toArray.size false) a0 w := by
  subst hnl
  have hz : l.toArray.size = l.length := by simp
  simp only [inv0B, Bool.and_eq_true, decide_eq_true_eq, List.all_eq_true, List.mem_range, Bool.or_eq_true] at hB
  obtain ⟨⟨hns, hpre⟩, hdown⟩ := hB
  rw [hz] at hpre hdown
  have hgl : ∀ i : Nat, l.toArray[i]? = l[i]? := fun i => by simp
  let I : Array Bool → Act → World → Prop := fun lis a W =>
    lis.size = l.length ∧ shutB l.toArray lis ∧
    ∃ s : Nat → Value, a = putL l.toArray a0 (fun _ => true) s l.length ∧ J (fun i => lis.getD i false) s W
  refine wpAny_inv I ?_ ?_ _ _ _ _ (by simp) ?_
  · rintro lis a W i ⟨hsz, hsh, s, rfl, hrel⟩ hi
    obtain ⟨hun, o, ho, hall⟩ := mem_ready.1 hi
    have ho' : l[i]? = some o := by rw [← hgl]; exact ho
    have hil : i < l.length := by
      rcases Nat.lt_or_ge i l.length with h' | h'
      · exact h'
      · rw [List.getElem?_eq_none h'] at ho'; cases ho'
    have hun' : lis.getD i false = false := by simpa [hsz, hil] using hun
    have hdep : ∀ j, bnd l.toArray i j = true → lis.getD j false = true := fun j hj => by
      obtain ⟨e, he, hb, rfl⟩ := (bnd_of ho).1 hj
      exact hall e he hb
    have hsh' := shut_set hsh hdep (by rw [hsz]; exact hil)
    have hp := hpre i hil
    simp only [ho] at hp
    obtain ⟨⟨hgd, hd⟩, hrow⟩ := hp
    rw [Bool.and_eq_true] at hgd
    have hg := hgd.1
    have hdo : dstO l.toArray i = o.dst := by simp [dstO, ho']
    have hg' : o.guard = none := by simpa using hg
    have hwn : Region.wanted o (yielded l.toArray (putL l.toArray a0 (fun _ => true) s l.length).tmps) = true := by simp [Region.wanted, hg']
    have hLn : ∀ j, j ≠ i → (lis.setIfInBounds i true).getD j false = lis.getD j false := fun j hj => getD_set_ne false (fun e => hj e.symm)
    have hLi : (lis.setIfInBounds i true).getD i false = true := getD_set_self (by rw [hsz]; exact hil) false
    have hLu : ∀ j, j < l.length → updL (fun i => lis.getD i false) i j = (lis.setIfInBounds i true).getD j false := fun j _ => by
      unfold updL
      by_cases e : j = i
      · subst e; rw [if_pos rfl, hLi]
      · rw [if_neg e, hLn j e]
    have hdis : ∀ j, j < l.length → j ≠ i → dstO l.toArray i ≠ dstO l.toArray j ∨ dstO l.toArray j = none := by
      intro j hj hne
      rcases hrow j hj with h1 | h1
      · simp at h1; omega
      · rcases h1 with h2 | h2
        · left; simpa using h2
        · right; simpa using h2
    unfold wpOp
    rw [ho]
    simp only [hwn, if_true]
    left
    have hput : ∀ v, (putL l.toArray a0 (fun _ => true) s l.length).put o.dst v = putL l.toArray a0 (fun _ => true) (updS s i v) l.length := fun v => by
      rw [← hdo]
      exact putT l.length hil hdis
    have h1 := hq i o hil ho' (fun i => lis.getD i false) s W hun' hdep (fun k j _ => hsh k j) hrel (fun a' W' => ∃ v, a' = (A s).put o.dst v ∧ J (updL (fun i => lis.getD i false) i) (updS s i v) W') (fun v W' hv => ⟨v, rfl, hv⟩)
    unfold Oper.wp at h1 ⊢
    rw [hA]
    cases hdd : o.dst with
    | some d' =>
      have hds : d' < a0.tmps.size := by
        rw [hdo, hdd] at hd
        simpa using hd
      rw [hdd] at h1
      refine upon_carry hdd (by rw [← hA, (putL_size _).1]; exact hds) h1 ?_
      rintro v W' hv
      exact ⟨by simpa using hsz, hsh', _, by rw [← hA]; exact hput v, hJ _ _ _ _ hLu hv⟩
    | none =>
      rw [hdd] at h1
      refine upon_carry0 (A := A s) (N := fun W' => ∃ v, J (updL (fun i => lis.getD i false) i) (updS s i v) W') hdd ?_ ?_
      · refine upon_weak ?_ h1
        rintro a' W' ⟨v, rfl, hv⟩
        exact ⟨rfl, v, hv⟩
      · rintro W' ⟨v, hv⟩
        refine ⟨by simpa using hsz, hsh', updS s i v, ?_, hJ _ _ _ _ hLu hv⟩
        have := hput v
        rw [hdd] at this
        rw [← hA]
        exact this
  · rintro lis a W ⟨hsz, hsh, s, rfl, hrel⟩ hr0
    have hallL : ∀ j, j < l.length → lis.getD j false = true := by
      intro j
      induction j using Nat.strongRecOn with
      | _ j ih =>
        intro hj
        cases hc : lis.getD j false with
        | true => rfl
        | false =>
          exfalso
          have : j ∈ Region.ready .any l.toArray lis := by
            refine mem_ready.2 ⟨by simpa [hsz, hj] using hc, l[j], by simp [hj], fun e he hbe => ?_⟩
            have h1 := hdown j hj
            rw [hgl, List.getElem?_eq_getElem hj] at h1
            simp only [Array.all_eq_true_iff_forall_mem, Bool.or_eq_true, Bool.not_eq_true', decide_eq_true_eq] at h1
            have h2 : e.on < j := by
              rcases h1 e he with h2 | h2
              · rw [hbe] at h2; cases h2
              · exact h2
            exact ih e.on h2 (by omega)
          rw [hr0] at this
          cases this
    rw [hA]
    exact ht s W (hJ _ _ _ _ (fun j hj => hallL j hj) hrel)
  · refine ⟨by simp, ?_, s0, ?_, hJ _ _ _ _ (fun j _ => (rep_false _ j).symm) h0⟩
    · intro k j hk; rw [rep_false] at hk; cases hk
    · rw [hA, hs0]
theorem wp_region_inv0 {P : Program} {id : Nat} {Q : Exit → Act → World → Prop} {a0 : Act} {w : World} {l : List Oper} (n : Nat) (hnl : l.length = n) (J : (Nat → Bool) → (Nat → Value) → World → Prop) (A : (Nat → Value) → Act) (s0 : Nat → Value) (hm : P.follows .mixedOrders = true)
    (hB : inv0B l.toArray a0.tmps.size = true) (hA : ∀ s, putL l.toArray a0 (fun _ => true) s n = A s) (hs0 : A s0 = a0)
    (h0 : J (fun _ => false) s0 w.drew)
    (hq : ∀ i o, i < n → l[i]? = some o → ∀ (L : Nat → Bool) (s : Nat → Value) (W : World), L i = false → (∀ j, bnd l.toArray i j = true → L j = true) → (∀ k j, k < n → L k = true → bnd l.toArray k j = true → L j = true) → J L s W → ∀ K : Act → World → Prop, Veil (∀ v W', J (updL L i) (updS s i v) W' → K ((A s).put o.dst v) W') → Oper.wp P o (A s) W K (fun _ _ _ => False))
    (hJ : ∀ L L' s W, (∀ j, j < n → L j = L' j) → J L s W → J L' s W)
    (ht : ∀ (s : Nat → Value) (W : World), J (fun _ => true) s W → Q .normal (A s) W) :
    (Code.region id l.toArray true).wp P Q a0 w :=
  wp_region_any hm (inv0_any n hnl J A s0 hs0 hB hA h0 hq hJ ht)
/-- the slots as they stand -/
def own0 (ops : Array Oper) (a0 : Act) : Nat → Value := fun i => match dstO ops i with | some d => a0.tmps.getD d undef | none => undef
theorem Act.put_own (a : Act) (d : Tmp) : a.put (some d) (a.tmps.getD d undef) = a := by
  obtain ⟨t, ds⟩ := a
  unfold Act.put
  simp only
  congr 1
  apply Array.ext
  · simp
  · intro i h1 h2
    by_cases e : d = i
    · subst e
      rw [Array.getElem_setIfInBounds_self (by simpa using h2)]
      simp [Array.getD, h2]
    · rw [Array.getElem_setIfInBounds_ne h2 e]
theorem put_own0 (ops : Array Oper) (a0 : Act) : ∀ k, putL ops a0 (fun _ => true) (own0 ops a0) k = a0
  | 0 => rfl
  | k + 1 => by
    unfold putL
    rw [if_pos rfl, put_own0 ops a0 k]
    unfold own0
    cases h : dstO ops k with
    | none => rfl
    | some d => exact Act.put_own a0 d
theorem wp_region_inv1 {P : Program} {id : Nat} {Q : Exit → Act → World → Prop} {a0 : Act} {w : World} {l : List Oper} (n : Nat) (hnl : l.length = n) (J : (Nat → Bool) → (Nat → Value) → World → Prop) (A : (Nat → Value) → Act) (hm : P.follows .mixedOrders = true)
    (hB : inv0B l.toArray a0.tmps.size = true) (hA : ∀ s, putL l.toArray a0 (fun _ => true) s n = A s)
    (h0 : J (fun _ => false) (own0 l.toArray a0) w.drew)
    (hq : ∀ i o, i < n → l[i]? = some o → ∀ (L : Nat → Bool) (s : Nat → Value) (W : World), L i = false → (∀ j, bnd l.toArray i j = true → L j = true) → (∀ k j, k < n → L k = true → bnd l.toArray k j = true → L j = true) → J L s W → ∀ K : Act → World → Prop, Veil (∀ v W', J (updL L i) (updS s i v) W' → K ((A s).put o.dst v) W') → Oper.wp P o (A s) W K (fun _ _ _ => False))
    (hJ : ∀ L L' s W, (∀ j, j < n → L j = L' j) → J L s W → J L' s W)
    (ht : ∀ (s : Nat → Value) (W : World), J (fun _ => true) s W → Q .normal (A s) W) :
    (Code.region id l.toArray true).wp P Q a0 w :=
  wp_region_inv0 n hnl J A (own0 l.toArray a0) hm hB hA ((hA _).symm.trans (put_own0 _ _ _)) h0 hq hJ ht
end Go.Proofs.Ytnfhedmlifjlmaa
