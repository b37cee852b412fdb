/-
  Plain facts on floats, more: rounding to the nearest rung, sums and products of finite floats, signs turned. No program is named here.
-/
import Derived.Test.YtekhnolpgoejdabBox
import Derived.Test.YtekhnolpgoejdabAppr
import Derived.Sort.LotA
namespace Go.Proofs.Ytekhnolpgoejdab
open Ieee Go.RowKit Go.Sort
set_option linter.unusedSimpArgs false
set_option linter.unusedVariables false

/-! ### Boxes one by one, by their left ends: which meet -/
/-- a box: its left, lower, right, upper end -/
abbrev Bo := Nat × Nat × Nat × Nat
def mayO (b : Bo) : Bool := bChk b.1 b.2.1 b.2.2.1 b.2.2.2
def ovO (a b : Bo) : Bool := bOver a.1 a.2.1 a.2.2.1 a.2.2.2 b.1 b.2.1 b.2.2.1 b.2.2.2
def meO (a b : Bo) : Bool := mayO a && mayO b && ovO a b
def kX (b : Bo) : Int := woK .f64 b.1
theorem may_nan {b : Bo} (h : mayO b = true) : nanK .f64 b.1 = false ∧ nanK .f64 b.2.2.1 = false := by
  unfold mayO bChk bFin at h
  simp only [Bool.and_eq_true] at h
  have f1 := h.1.1.1.1.1; have f3 := h.1.1.1.2
  exact ⟨fin_num f1, fin_num f3⟩
theorem ov_sym (a b : Bo) : ovO a b = ovO b a := by
  unfold ovO bOver
  cases leK .f64 a.1 b.2.2.1 <;> cases leK .f64 b.1 a.2.2.1 <;> cases leK .f64 a.2.1 b.2.2.2 <;> cases leK .f64 b.2.1 a.2.2.2 <;> rfl
theorem lt_kX {a b : Bo} (ha : mayO a = true) (hb : mayO b = true) : ltK .f64 a.1 b.1 = decide (kX a < kX b) := lt_fin (may_nan ha).1 (may_nan hb).1
/-- who begins beyond another's right end does not lie over it -/
theorem ov_not {a y : Bo} (h : ltK .f64 y.2.2.1 a.1 = true) : ovO a y = false := by
  have : leK .f64 a.1 y.2.2.1 = false := by
    unfold ltK at h; unfold leK
    simp only [Bool.and_eq_true, Bool.not_eq_true', decide_eq_true_eq] at h
    rw [h.1.1, h.1.2]; simp; omega
  unfold ovO bOver; rw [this]; rfl
theorem gt_mono {a a' y : Bo} (ha : mayO a = true) (ha' : mayO a' = true) (hk : kX a ≤ kX a') (h : ltK .f64 y.2.2.1 a.1 = true) : ltK .f64 y.2.2.1 a'.1 = true := by
  unfold ltK at h ⊢
  simp only [Bool.and_eq_true, Bool.not_eq_true', decide_eq_true_eq] at h ⊢
  refine ⟨⟨h.1.1, (may_nan ha').1⟩, ?_⟩
  unfold kX at hk; omega
/-- the numbers whose boxes lie over y, up to the first that begins beyond it -/
def reach (B : Nat → Bo) (y : Bo) (R : List Nat) : List Nat := (R.takeWhile fun i => !ltK .f64 y.2.2.1 (B i).1).filter fun i => ovO (B i) y
def Asc (B : Nat → Bo) (R : List Nat) : Prop := R.Pairwise (fun i k => kX (B i) ≤ kX (B k)) ∧ ∀ i ∈ R, mayO (B i) = true
theorem Asc.tail {B : Nat → Bo} {i : Nat} {R : List Nat} (h : Asc B (i :: R)) : Asc B R := ⟨(List.pairwise_cons.1 h.1).2, fun k hk => h.2 k (List.mem_cons_of_mem _ hk)⟩
theorem reach_eq {B : Nat → Bo} {y : Bo} : ∀ {R : List Nat}, Asc B R → reach B y R = R.filter fun i => ovO (B i) y
  | [], _ => rfl
  | i :: R, h => by
    unfold reach
    cases e : ltK .f64 y.2.2.1 (B i).1 with
    | false =>
      rw [List.takeWhile_cons_of_pos (by rw [e]; rfl)]
      have ih := reach_eq (y := y) h.tail
      unfold reach at ih
      rw [List.filter_cons, List.filter_cons, ih]
    | true =>
      rw [List.takeWhile_cons_of_neg (by rw [e]; simp)]
      rw [List.filter_nil]
      refine (List.filter_eq_nil_iff.2 fun k hk => ?_).symm
      rw [ov_not]
      · simp
      · rcases List.mem_cons.1 hk with rfl | hk'
        · exact e
        · exact gt_mono (h.2 i (List.mem_cons_self ..)) (h.2 k hk) ((List.pairwise_cons.1 h.1).1 k hk') e
/-- in the order of left ends, of such as are alike the lesser number ahead -/
def tO (B : Nat → Bo) (i k : Nat) : Prop := kX (B i) < kX (B k) ∨ (kX (B i) = kX (B k) ∧ i < k)
structure OrdL (B : Nat → Bo) (n : Nat) (O : List Nat) : Prop where
  pw : O.Pairwise (tO B)
  mem : ∀ i, i ∈ O ↔ i < n ∧ mayO (B i) = true
  len : O.length ≤ n
theorem OrdL.asc {B : Nat → Bo} {n : Nat} {O : List Nat} (h : OrdL B n O) : Asc B O := ⟨h.pw.imp fun hk => by unfold tO at hk; omega, fun i hi => ((h.mem i).1 hi).2⟩
theorem OrdL.nodup {B : Nat → Bo} {n : Nat} {O : List Nat} (h : OrdL B n O) : O.Nodup := h.pw.imp fun hk => by unfold tO at hk; intro e; subst e; omega
/-- two rows in one strict order that have the same are the same -/
theorem ext_sorted {α : Type} {r : α → α → Prop} (hr : ∀ a b, r a b → r b a → False) : ∀ {l l' : List α}, l.Pairwise r → l'.Pairwise r → (∀ x, x ∈ l ↔ x ∈ l') → l = l'
  | [], [], _, _, _ => rfl
  | [], b :: l', _, _, h => by have := (h b).2 (List.mem_cons_self ..); simp at this
  | a :: l, [], _, _, h => by have := (h a).1 (List.mem_cons_self ..); simp at this
  | a :: l, b :: l', h1, h2, h => by
    obtain ⟨p1, q1⟩ := List.pairwise_cons.1 h1
    obtain ⟨p2, q2⟩ := List.pairwise_cons.1 h2
    have hab : a = b := by
      rcases List.mem_cons.1 ((h a).1 (List.mem_cons_self ..)) with e | e
      · exact e
      · rcases List.mem_cons.1 ((h b).2 (List.mem_cons_self ..)) with e' | e'
        · exact e'.symm
        · exact (hr a b (p1 b e') (p2 a e)).elim
    subst hab
    have : l = l' := ext_sorted hr q1 q2 fun x => by
      constructor
      · intro hx
        rcases List.mem_cons.1 ((h x).1 (List.mem_cons_of_mem _ hx)) with e | e
        · subst e; exact (hr x x (p1 x hx) (p1 x hx)).elim
        · exact e
      · intro hx
        rcases List.mem_cons.1 ((h x).2 (List.mem_cons_of_mem _ hx)) with e | e
        · subst e; exact (hr x x (p2 x hx) (p2 x hx)).elim
        · exact e
    rw [this]
theorem ord_uniq {B : Nat → Bo} {n : Nat} {O O' : List Nat} (h : OrdL B n O) (h' : OrdL B n O') : O = O' :=
  ext_sorted (fun a b h1 h2 => by unfold tO at h1 h2; omega) h.pw h'.pw fun x => (h.mem x).trans (h'.mem x).symm

/-! ### pairs -/
def lexO (p q : Nat × Nat) : Prop := p.1 < q.1 ∨ (p.1 = q.1 ∧ p.2 < q.2)
def pairsL (B : Nat → Bo) : List Nat → List (Nat × Nat)
  | [] => []
  | i :: R => (reach B (B i) R).map (fun k => (min i k, max i k)) ++ pairsL B R
theorem mem_pairs {B : Nat → Bo} : ∀ {O : List Nat}, Asc B O → O.Nodup → ∀ x : Nat × Nat, x ∈ pairsL B O ↔ x.1 < x.2 ∧ x.1 ∈ O ∧ x.2 ∈ O ∧ ovO (B x.1) (B x.2) = true
  | [], _, _, x => by simp [pairsL]
  | i :: R, h, hn, x => by
    obtain ⟨hi, hR⟩ := List.nodup_cons.1 hn
    unfold pairsL
    rw [List.mem_append, mem_pairs h.tail hR x, reach_eq h.tail, List.mem_map]
    constructor
    · rintro (⟨k, hk, rfl⟩ | ⟨h1, h2, h3, h4⟩)
      · obtain ⟨hk1, hk2⟩ := List.mem_filter.1 hk
        have hne : i ≠ k := fun e => hi (e ▸ hk1)
        rcases Nat.lt_or_ge i k with hl | hl
        · rw [Nat.min_eq_left (by omega), Nat.max_eq_right (by omega)]
          exact ⟨hl, List.mem_cons_self .., List.mem_cons_of_mem _ hk1, by rw [ov_sym]; exact hk2⟩
        · rw [Nat.min_eq_right (by omega), Nat.max_eq_left (by omega)]
          exact ⟨show k < i by omega, List.mem_cons_of_mem _ hk1, List.mem_cons_self .., hk2⟩
      · exact ⟨h1, List.mem_cons_of_mem _ h2, List.mem_cons_of_mem _ h3, h4⟩
    · obtain ⟨a, b⟩ := x
      rintro ⟨h1, h2, h3, h4⟩
      simp only at h1 h2 h3 h4
      rcases List.mem_cons.1 h2 with e | e
      · subst e
        rcases List.mem_cons.1 h3 with e' | e'
        · omega
        · exact .inl ⟨b, List.mem_filter.2 ⟨e', by rw [ov_sym]; exact h4⟩, by rw [Nat.min_eq_left (by omega), Nat.max_eq_right (by omega)]⟩
      · rcases List.mem_cons.1 h3 with e' | e'
        · subst e'
          exact .inl ⟨a, List.mem_filter.2 ⟨e, h4⟩, by rw [Nat.min_eq_right (by omega), Nat.max_eq_left (by omega)]⟩
        · exact .inr ⟨h1, e, e', h4⟩
theorem nodup_map {α β : Type} (f : α → β) : ∀ {l : List α}, l.Nodup → (∀ a ∈ l, ∀ b ∈ l, f a = f b → a = b) → (l.map f).Nodup
  | [], _, _ => by simp
  | a :: l, h, hf => by
    obtain ⟨h1, h2⟩ := List.nodup_cons.1 h
    rw [List.map_cons, List.nodup_cons]
    refine ⟨fun hm => ?_, nodup_map f h2 fun x hx y hy => hf x (List.mem_cons_of_mem _ hx) y (List.mem_cons_of_mem _ hy)⟩
    obtain ⟨b, hb, e⟩ := List.mem_map.1 hm
    exact h1 ((hf b (List.mem_cons_of_mem _ hb) a (List.mem_cons_self ..) e) ▸ hb)
theorem nodup_pairs {B : Nat → Bo} : ∀ {O : List Nat}, Asc B O → O.Nodup → (pairsL B O).Nodup
  | [], _, _ => by simp [pairsL]
  | i :: R, h, hn => by
    obtain ⟨hi, hR⟩ := List.nodup_cons.1 hn
    unfold pairsL
    rw [List.nodup_append]
    refine ⟨?_, nodup_pairs h.tail hR, ?_⟩
    · rw [reach_eq h.tail]
      refine nodup_map _ (hR.filter _) fun a ha b hb e => ?_
      have ha' := (List.mem_filter.1 ha).1
      have hb' := (List.mem_filter.1 hb).1
      have n1 : i ≠ a := fun e => hi (e ▸ ha')
      have n2 : i ≠ b := fun e => hi (e ▸ hb')
      simp only [Prod.mk.injEq] at e
      omega
    · intro x hx y hy e
      subst e
      obtain ⟨k, hk, rfl⟩ := List.mem_map.1 hx
      obtain ⟨h1, h2, h3, _⟩ := (mem_pairs h.tail hR _).1 hy
      rcases Nat.le_total i k with hl | hl
      · rw [Nat.min_eq_left hl] at h2; exact hi h2
      · rw [Nat.max_eq_left hl] at h3; exact hi h3
/-- one by one -/
def rowB (B C : Nat → Bo) (p : Nat → Nat → Bool) (m i : Nat) : List (Nat × Nat) := ((List.range m).filter fun k => p i k && meO (B i) (C k)).map fun k => (i, k)
def allB (B C : Nat → Bo) (p : Nat → Nat → Bool) (m : Nat) : Nat → List (Nat × Nat)
  | 0 => []
  | n + 1 => allB B C p m n ++ rowB B C p m n
theorem mem_rowB {B C : Nat → Bo} {p : Nat → Nat → Bool} {m i : Nat} (x : Nat × Nat) : x ∈ rowB B C p m i ↔ x.1 = i ∧ x.2 < m ∧ p i x.2 = true ∧ meO (B i) (C x.2) = true := by
  obtain ⟨a, b⟩ := x
  unfold rowB
  simp only [List.mem_map, List.mem_filter, List.mem_range, Bool.and_eq_true, Prod.mk.injEq]
  constructor
  · rintro ⟨k, ⟨h1, h2, h3⟩, rfl, rfl⟩; exact ⟨rfl, h1, h2, h3⟩
  · rintro ⟨rfl, h1, h2, h3⟩; exact ⟨b, ⟨h1, h2, h3⟩, rfl, rfl⟩
theorem mem_allB {B C : Nat → Bo} {p : Nat → Nat → Bool} {m : Nat} : ∀ {n : Nat} (x : Nat × Nat), x ∈ allB B C p m n ↔ x.1 < n ∧ x.2 < m ∧ p x.1 x.2 = true ∧ meO (B x.1) (C x.2) = true
  | 0, x => by simp [allB]
  | n + 1, x => by
    unfold allB
    rw [List.mem_append, mem_allB x, mem_rowB]
    constructor
    · rintro (⟨h1, h2⟩ | ⟨rfl, h2⟩)
      · exact ⟨by omega, h2⟩
      · exact ⟨by omega, h2⟩
    · rintro ⟨h1, h2⟩
      rcases Nat.lt_or_ge x.1 n with h | h
      · exact .inl ⟨h, h2⟩
      · have : x.1 = n := by omega
        exact .inr ⟨this, by rw [← this]; exact h2⟩
theorem lex_rowB {B C : Nat → Bo} {p : Nat → Nat → Bool} {m i : Nat} : (rowB B C p m i).Pairwise lexO := by
  unfold rowB
  rw [List.pairwise_map]
  exact (List.pairwise_lt_range.filter _).imp fun h => .inr ⟨rfl, h⟩
theorem lex_allB {B C : Nat → Bo} {p : Nat → Nat → Bool} {m : Nat} : ∀ {n : Nat}, (allB B C p m n).Pairwise lexO
  | 0 => by simp [allB]
  | n + 1 => by
    unfold allB
    rw [List.pairwise_append]
    refine ⟨lex_allB, lex_rowB, fun a ha b hb => .inl ?_⟩
    have h1 := ((mem_allB a).1 ha).1
    have h2 := ((mem_rowB b).1 hb).1
    omega
theorem lex_anti (a b : Nat × Nat) (h1 : lexO a b) (h2 : lexO b a) : False := by unfold lexO at h1 h2; omega
/-- what is put in order, each once, is the row that is found one by one -/
theorem lex_is {l l' r : List (Nat × Nat)} (hp : l'.Perm l) (hn : l.Nodup) (hs : l'.Pairwise fun a b => ¬ lexO b a) (hr : r.Pairwise lexO) (hm : ∀ x, x ∈ l ↔ x ∈ r) : l' = r := by
  refine ext_sorted lex_anti ?_ hr fun x => (hp.mem_iff).trans (hm x)
  have hn' : l'.Nodup := hp.nodup_iff.2 hn
  have := hs.and hn'
  refine this.imp ?_
  rintro ⟨a, b⟩ ⟨c, d⟩ ⟨h1, h2⟩
  unfold lexO at h1 ⊢
  simp only [ne_eq, Prod.mk.injEq] at h1 h2 ⊢
  omega
theorem lex_len {l r : List (Nat × Nat)} (hn : l.Nodup) (hr : r.Pairwise lexO) (hm : ∀ x, x ∈ l ↔ x ∈ r) : l.length = r.length := by
  have h1 : (l.mergeSort fun a b => !decide (b.1 < a.1 ∨ (b.1 = a.1 ∧ b.2 < a.2))).Pairwise fun a b => (!decide (b.1 < a.1 ∨ (b.1 = a.1 ∧ b.2 < a.2))) = true := List.pairwise_mergeSort (fun a b c h1 h2 => by simp at *; omega) (fun a b => by simp; omega) l
  have h2 := lex_is (List.mergeSort_perm l _) hn (h1.imp fun h => by unfold lexO; simp at h; omega) hr hm
  rw [← h2, List.length_mergeSort]

/-! ### pairs between two lists -/
def betL (B C : Nat → Bo) : Nat → List Nat → List Nat → List (Nat × Nat)
  | f + 1, i :: F, j :: S => if leK .f64 (B i).1 (C j).1 then (reach C (B i) (j :: S)).map (fun k => (i, k)) ++ betL B C f F (j :: S) else (reach B (C j) (i :: F)).map (fun k => (k, j)) ++ betL B C f (i :: F) S
  | _, _, _ => []
theorem mem_bet {B C : Nat → Bo} : ∀ {f : Nat} {F S : List Nat}, F.length + S.length ≤ f → Asc B F → Asc C S → ∀ x : Nat × Nat, x ∈ betL B C f F S ↔ x.1 ∈ F ∧ x.2 ∈ S ∧ ovO (B x.1) (C x.2) = true
  | 0, F, S, h, _, _, x => by
    have : F = [] := List.eq_nil_of_length_eq_zero (by omega)
    subst this; simp [betL]
  | f + 1, [], S, h, _, _, x => by simp [betL]
  | f + 1, i :: F, [], h, _, _, x => by simp [betL]
  | f + 1, i :: F, j :: S, h, hF, hS, x => by
    obtain ⟨a, b⟩ := x
    unfold betL
    simp only [List.length_cons] at h
    split
    · rw [List.mem_append, mem_bet (by simp only [List.length_cons]; omega) hF.tail hS, reach_eq hS, List.mem_map]
      constructor
      · rintro (⟨k, hk, e⟩ | ⟨h1, h2, h3⟩)
        · obtain ⟨hk1, hk2⟩ := List.mem_filter.1 hk
          simp only [Prod.mk.injEq] at e
          obtain ⟨rfl, rfl⟩ := e
          exact ⟨List.mem_cons_self .., hk1, by rw [ov_sym]; exact hk2⟩
        · exact ⟨List.mem_cons_of_mem _ h1, h2, h3⟩
      · rintro ⟨h1, h2, h3⟩
        rcases List.mem_cons.1 h1 with e | e
        · simp only at e; subst e
          exact .inl ⟨b, List.mem_filter.2 ⟨h2, by rw [ov_sym]; exact h3⟩, rfl⟩
        · exact .inr ⟨e, h2, h3⟩
    · rw [List.mem_append, mem_bet (by simp only [List.length_cons]; omega) hF hS.tail, reach_eq hF, List.mem_map]
      constructor
      · rintro (⟨k, hk, e⟩ | ⟨h1, h2, h3⟩)
        · obtain ⟨hk1, hk2⟩ := List.mem_filter.1 hk
          simp only [Prod.mk.injEq] at e
          obtain ⟨rfl, rfl⟩ := e
          exact ⟨hk1, List.mem_cons_self .., hk2⟩
        · exact ⟨h1, List.mem_cons_of_mem _ h2, h3⟩
      · rintro ⟨h1, h2, h3⟩
        rcases List.mem_cons.1 h2 with e | e
        · simp only at e; subst e
          exact .inl ⟨a, List.mem_filter.2 ⟨h1, h3⟩, rfl⟩
        · exact .inr ⟨h1, e, h3⟩
theorem nodup_bet {B C : Nat → Bo} : ∀ {f : Nat} {F S : List Nat}, F.length + S.length ≤ f → Asc B F → Asc C S → F.Nodup → S.Nodup → (betL B C f F S).Nodup
  | 0, F, S, h, _, _, _, _ => by
    have : F = [] := List.eq_nil_of_length_eq_zero (by omega)
    subst this; simp [betL]
  | f + 1, [], S, h, _, _, _, _ => by simp [betL]
  | f + 1, i :: F, [], h, _, _, _, _ => by simp [betL]
  | f + 1, i :: F, j :: S, h, hF, hS, nF, nS => by
    simp only [List.length_cons] at h
    unfold betL
    split
    · rw [List.nodup_append]
      refine ⟨?_, nodup_bet (by simp only [List.length_cons]; omega) hF.tail hS (List.nodup_cons.1 nF).2 nS, ?_⟩
      · rw [reach_eq hS]
        exact nodup_map _ (nS.filter _) fun a _ b _ e => by simpa using e
      · intro x hx y hy e
        subst e
        obtain ⟨k, hk, rfl⟩ := List.mem_map.1 hx
        exact (List.nodup_cons.1 nF).1 ((mem_bet (by simp only [List.length_cons]; omega) hF.tail hS _).1 hy).1
    · rw [List.nodup_append]
      refine ⟨?_, nodup_bet (by simp only [List.length_cons]; omega) hF hS.tail nF (List.nodup_cons.1 nS).2, ?_⟩
      · rw [reach_eq hF]
        exact nodup_map _ (nF.filter _) fun a _ b _ e => by simpa using e
      · intro x hx y hy e
        subst e
        obtain ⟨k, hk, rfl⟩ := List.mem_map.1 hx
        exact (List.nodup_cons.1 nS).1 ((mem_bet (by simp only [List.length_cons]; omega) hF hS.tail _).1 hy).2.1
/-- all pairs of one list: i below k -/
def refP (B : Nat → Bo) (n : Nat) : List (Nat × Nat) := allB B B (fun i k => decide (i < k)) n n
def refB (B C : Nat → Bo) (n m : Nat) : List (Nat × Nat) := allB B C (fun _ _ => true) m n
theorem pairs_mem {B : Nat → Bo} {n : Nat} {O : List Nat} (h : OrdL B n O) (x : Nat × Nat) : x ∈ pairsL B O ↔ x ∈ refP B n := by
  unfold refP
  rw [mem_pairs h.asc h.nodup, mem_allB, h.mem, h.mem]
  unfold meO
  simp only [Bool.and_eq_true, decide_eq_true_eq]
  constructor
  · rintro ⟨h1, ⟨h2, h3⟩, ⟨h4, h5⟩, h6⟩; exact ⟨h2, h4, h1, ⟨h3, h5⟩, h6⟩
  · rintro ⟨h2, h4, h1, ⟨h3, h5⟩, h6⟩; exact ⟨h1, ⟨h2, h3⟩, ⟨h4, h5⟩, h6⟩
theorem bet_mem {B C : Nat → Bo} {n m : Nat} {F S : List Nat} (h : OrdL B n F) (g : OrdL C m S) (x : Nat × Nat) : x ∈ betL B C (F.length + S.length) F S ↔ x ∈ refB B C n m := by
  unfold refB
  rw [mem_bet (Nat.le_refl _) h.asc g.asc, mem_allB, h.mem, g.mem]
  unfold meO
  simp only [Bool.and_eq_true, true_and]
  constructor
  · rintro ⟨⟨h2, h3⟩, ⟨h4, h5⟩, h6⟩; exact ⟨h2, h4, ⟨h3, h5⟩, h6⟩
  · rintro ⟨h2, h4, ⟨h3, h5⟩, h6⟩; exact ⟨⟨h2, h3⟩, ⟨h4, h5⟩, h6⟩
theorem pairs_len {B : Nat → Bo} {n : Nat} {O : List Nat} (h : OrdL B n O) : (pairsL B O).length = (refP B n).length := lex_len (nodup_pairs h.asc h.nodup) lex_allB (pairs_mem h)
theorem bet_len {B C : Nat → Bo} {n m : Nat} {F S : List Nat} (h : OrdL B n F) (g : OrdL C m S) : (betL B C (F.length + S.length) F S).length = (refB B C n m).length := lex_len (nodup_bet (Nat.le_refl _) h.asc g.asc h.nodup g.nodup) lex_allB (bet_mem h g)
theorem pairs_is {B : Nat → Bo} {n : Nat} {O : List Nat} {l' : List (Nat × Nat)} (h : OrdL B n O) (hp : l'.Perm (pairsL B O)) (hs : l'.Pairwise fun a b => ¬ lexO b a) : l' = refP B n := lex_is hp (nodup_pairs h.asc h.nodup) hs lex_allB (pairs_mem h)
theorem bet_is {B C : Nat → Bo} {n m : Nat} {F S : List Nat} {l' : List (Nat × Nat)} (h : OrdL B n F) (g : OrdL C m S) (hp : l'.Perm (betL B C (F.length + S.length) F S)) (hs : l'.Pairwise fun a b => ¬ lexO b a) : l' = refB B C n m := lex_is hp (nodup_bet (Nat.le_refl _) h.asc g.asc h.nodup g.nodup) hs lex_allB (bet_mem h g)
end Go.Proofs.Ytekhnolpgoejdab
namespace Go.Proofs.Ytekhnolpgoejdab
open Ieee Go.RowKit Go.Sort Go.WideShapes
set_option linter.unusedSimpArgs false
set_option linter.unusedVariables false

/-! ### Rows of boxes and of numbers as they lie -/
def Bs (w : World) (b off n : Nat) (B : Nat → Bo) : Prop := ∀ i, i < n → w.cell? ⟨b, off + i * 4, none⟩ = some (.float .f64 (B i).1) ∧ w.cell? ⟨b, off + i * 4 + 1, none⟩ = some (.float .f64 (B i).2.1) ∧ w.cell? ⟨b, off + i * 4 + 2, none⟩ = some (.float .f64 (B i).2.2.1) ∧ w.cell? ⟨b, off + i * 4 + 3, none⟩ = some (.float .f64 (B i).2.2.2)
theorem keepB {w w' : World} {b o : Nat} {v : Value} (h : Bel w w') (g : w.cell? ⟨b, o, none⟩ = some v) : w'.cell? ⟨b, o, none⟩ = some v := (h.1.cell (World.block_lt_of_cell? _ _ g)).trans g
theorem Bs.bel {w w' : World} {b off n : Nat} {B : Nat → Bo} (h : Bs w b off n B) (g : Bel w w') : Bs w' b off n B := fun i hi =>
  ⟨keepB g (h i hi).1, keepB g (h i hi).2.1, keepB g (h i hi).2.2.1, keepB g (h i hi).2.2.2⟩
def iRow (L : List Nat) : List Value := L.map fun i : Nat => .int .i64 (i : Int)
theorem iRow_length (L : List Nat) : (iRow L).length = L.length := by simp [iRow]
theorem iRow_one (L : List Nat) : ∀ u ∈ iRow L, u.oneCell' = true := by
  intro u hu
  obtain ⟨i, _, rfl⟩ := List.mem_map.1 hu
  rfl
theorem iRow_app (L M : List Nat) : iRow (L ++ M) = iRow L ++ iRow M := by simp [iRow]
def pRow (L : List (Nat × Nat)) : List Value := L.flatMap fun p => [.int .i64 (p.1 : Int), .int .i64 (p.2 : Int)]
theorem pRow_length (L : List (Nat × Nat)) : (pRow L).length = L.length * 2 := by
  induction L with
  | nil => rfl
  | cons a L ih =>
    have : pRow (a :: L) = [.int .i64 (a.1 : Int), .int .i64 (a.2 : Int)] ++ pRow L := rfl
    rw [this, List.length_append, ih, List.length_cons]; simp only [List.length_cons, List.length_nil]; omega
theorem pRow_app (L M : List (Nat × Nat)) : pRow (L ++ M) = pRow L ++ pRow M := by simp [pRow]
theorem mk_rw (W : World) (cs : List Value) (t : TypeId) : Rw (W.alloc (.cells cs.toArray t)) W.heap.size 0 cs := by
  intro j u hj
  rw [Nat.zero_add, World.cell?_alloc_new, List.getElem?_toArray]
  exact hj
/-- the numbers below n of which p is true -/
def nums (p : Nat → Bool) (n : Nat) : List Nat := (List.range n).filter p
theorem nums_yes {p : Nat → Bool} {k : Nat} (h : p k = true) : nums p (k + 1) = nums p k ++ [k] := by simp [nums, List.range_succ, List.filter_append, h]
theorem nums_no {p : Nat → Bool} {k : Nat} (h : p k = false) : nums p (k + 1) = nums p k := by simp [nums, List.range_succ, List.filter_append, h]
theorem nums_len (p : Nat → Bool) (n : Nat) : (nums p n).length ≤ n := by
  have := List.length_filter_le p (List.range n)
  simpa [nums] using this
theorem nums_mem {p : Nat → Bool} {n i : Nat} : i ∈ nums p n ↔ i < n ∧ p i = true := by simp [nums]
theorem nums_lt (p : Nat → Bool) (n : Nat) : (nums p n).Pairwise (· < ·) := List.pairwise_lt_range.filter _
theorem OwnR.base {sz base base' : Nat} {w : World} {v : Value} {n : Nat} {R : List Value} (h : OwnR sz base w v n R) (hb : base' ≤ base) : OwnR sz base' w v n R := by
  refine ⟨h.1, ?_⟩
  rcases h.2 with h | ⟨k, cap, e, h1, h2⟩
  · exact .inl h
  · exact .inr ⟨k, cap, e, Nat.le_trans hb h1, h2⟩
theorem reach_stop {B : Nat → Bo} {y : Bo} {r : Nat} {R : List Nat} (h : ltK .f64 y.2.2.1 (B r).1 = true) : reach B y (r :: R) = [] := by
  unfold reach; rw [List.takeWhile_cons_of_neg (by rw [h]; simp)]; rfl
theorem reach_yes {B : Nat → Bo} {y : Bo} {r : Nat} {R : List Nat} (h : ltK .f64 y.2.2.1 (B r).1 = false) (g : ovO (B r) y = true) : reach B y (r :: R) = r :: reach B y R := by
  unfold reach; rw [List.takeWhile_cons_of_pos (by rw [h]; rfl), List.filter_cons_of_pos (by exact g)]
theorem reach_no {B : Nat → Bo} {y : Bo} {r : Nat} {R : List Nat} (h : ltK .f64 y.2.2.1 (B r).1 = false) (g : ovO (B r) y = false) : reach B y (r :: R) = reach B y R := by
  unfold reach; rw [List.takeWhile_cons_of_pos (by rw [h]; rfl), List.filter_cons_of_neg (by rw [g]; simp)]
theorem reach_len (B : Nat → Bo) (y : Bo) (R : List Nat) : (reach B y R).length ≤ R.length := by
  unfold reach
  refine Nat.le_trans (List.length_filter_le _ _) ?_
  exact (List.takeWhile_sublist _).length_le
theorem drop_at {R : List Nat} {k r : Nat} (h : R[k]? = some r) : R.drop k = r :: R.drop (k + 1) := by
  have hk : k < R.length := by
    rcases Nat.lt_or_ge k R.length with h' | h'
    · exact h'
    · rw [List.getElem?_eq_none h'] at h; cases h
  rw [List.drop_eq_getElem_cons hk]
  rw [List.getElem?_eq_getElem hk] at h
  simp only [Option.some.injEq] at h
  rw [h]
/-- numbers as they lie -/
def Is (w : World) (g ro : Nat) (R : List Nat) : Prop := ∀ (k r : Nat), R[k]? = some r → w.cell? ⟨g, ro + k, none⟩ = some (.int .i64 (r : Int))
theorem Is.bel {w w' : World} {g ro : Nat} {R : List Nat} (h : Is w g ro R) (b : Bel w w') : Is w' g ro R := fun k r hk => keepB b (h k r hk)
theorem Is.drop {w : World} {g ro : Nat} {R : List Nat} (h : Is w g ro R) (j : Nat) : Is w g (ro + j) (R.drop j) := fun k r hk => by
  rw [List.getElem?_drop] at hk
  rw [Nat.add_assoc]; exact h _ _ hk
theorem own_is {base : Nat} {w : World} {g cap n : Nat} {L : List Nat} (h : OwnR 1 base w (.slice (some ⟨g, 0, none⟩) n cap) n (iRow L)) : Is w g 0 L := by
  rcases h.2 with ⟨e1, e2⟩ | ⟨k, cap', e, h1, h2, h3, h4, h5, h6⟩
  · simp at e1
  · injection e with e1 e2 e3
    injection e1 with e1
    injection e1 with e1
    subst e1
    intro k r hk
    refine h4 k _ ?_
    unfold iRow; rw [List.getElem?_map, hk]; rfl
/-- an owned row: where it lies, and each number of it -/
theorem own_int {base : Nat} {w : World} {v : Value} {L : List Nat} (h : OwnR 1 base w v L.length (iRow L)) : (v = .slice none 0 0 ∧ L = []) ∨ ∃ g cap, v = .slice (some ⟨g, 0, none⟩) L.length cap ∧ base ≤ g ∧ L.length ≤ cap ∧ g < w.heap.size ∨ L = [] := by
  rcases h.2 with ⟨e, h0⟩ | ⟨g, cap, e, h1, h2, h3, h4, h5, h6⟩
  · exact .inl ⟨e, List.eq_nil_of_length_eq_zero h0⟩
  · cases L with
    | nil => exact .inr ⟨g, cap, .inr rfl⟩
    | cons a L =>
      have := h4 0 (.int .i64 (a : Int)) rfl
      exact .inr ⟨g, cap, .inl ⟨e, h1, h2, World.block_lt_of_cell? _ _ this⟩⟩
end Go.Proofs.Ytekhnolpgoejdab
