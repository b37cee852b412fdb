/-
  Plain facts that go together.
-/
import Derived.Test.YtekhnolpgoejdaaGreatSwq
namespace Go.Proofs.YtekhnolpgoejdaaGreat
open Ieee Go.RowKit Go.Sort Go.WideShapes Go.Shelf Go.Lib
set_option linter.unusedSimpArgs false
set_option linter.unusedVariables false

/-! ### a row of a call's own, written into -/
theorem own_parts {sz base n : Nat} {w : World} {g cap : Nat} {R : List Value} (h : OwnR sz base w (.slice (some ⟨g, 0, none⟩) n cap) n R) : base ≤ g ∧ n ≤ cap ∧ cap ≤ maxLen ∧ Rw w g 0 R ∧ (∀ j, j < cap * sz → (w.cell? ⟨g, j, none⟩).isSome = true) ∧ ∀ o, w.frozen? ⟨g, o, none⟩ = false := by
  rcases h.2 with ⟨e1, e2⟩ | ⟨k, cap', e, h1, h2, h3, h4, h5, h6⟩
  · simp at e1
  · injection e with e1 e2 e3
    injection e1 with e1
    injection e1 with e1
    subst e1 e3
    exact ⟨h1, h2, h3, h4, h5, h6⟩
theorem own_set {base n : Nat} {w : World} {g cap i : Nat} {R : List Value} {v : Value} (h : OwnR 1 base w (.slice (some ⟨g, 0, none⟩) n cap) n R) (hi : i < n) : OwnR 1 base (w.setCell ⟨g, i, none⟩ v) (.slice (some ⟨g, 0, none⟩) n cap) n (R.set i v) := by
  obtain ⟨h1, h2, h3, h4, h5, h6⟩ := own_parts h
  have hl := h.1
  refine ⟨by rw [List.length_set]; exact hl, .inr ⟨g, cap, rfl, h1, h2, h3, fun j u hj => ?_, fun j hj => ?_, fun o => (World.frozen?_setCell _ _ _ _).trans (h6 o)⟩⟩
  · rw [Nat.zero_add]
    by_cases e : i = j
    · subst e
      rw [List.getElem?_set_self (by omega)] at hj
      simp only [Option.some.injEq] at hj
      subst hj
      obtain ⟨u0, hu0⟩ := Option.isSome_iff_exists.1 (h5 i (by omega))
      exact World.cell?_setCell_same _ _ _ hu0
    · rw [List.getElem?_set_ne e] at hj
      rw [World.cell?_setCell_other _ _ _ _ (by intro e'; injection e' with _ e2 _; exact e e2)]
      have := h4 j u hj
      rwa [Nat.zero_add] at this
  · obtain ⟨u, hu⟩ := Option.isSome_iff_exists.1 (h5 j hj)
    by_cases e : i = j
    · subst e; rw [World.cell?_setCell_same _ _ _ hu]; rfl
    · rw [World.cell?_setCell_other _ _ _ _ (by intro e'; injection e' with _ e2 _; exact e e2)]; exact h5 j hj
theorem iRow_set (L : List Nat) (i x : Nat) : (iRow L).set i (.int .i64 (x : Int)) = iRow (L.set i x) := by unfold iRow; rw [List.map_set]
theorem swp_list (d : Array Nat) (i j : Nat) : (swp d i j).toList = (d.toList.set i d[j]!).set j d[i]! := by unfold swp; rw [Array.toList_setIfInBounds, Array.toList_setIfInBounds]
theorem own_swp {base n : Nat} {w : World} {g cap i j : Nat} {d : Array Nat} (h : OwnR 1 base w (.slice (some ⟨g, 0, none⟩) n cap) n (iRow d.toList)) (hi : i < n) (hj : j < n) : OwnR 1 base ((w.setCell ⟨g, i, none⟩ (.int .i64 (d[j]! : Int))).setCell ⟨g, j, none⟩ (.int .i64 (d[i]! : Int))).drew (.slice (some ⟨g, 0, none⟩) n cap) n (iRow (swp d i j).toList) := by
  have h1 := own_set (own_set h hi (v := .int .i64 (d[j]! : Int))) hj (v := .int .i64 (d[i]! : Int))
  rw [iRow_set, iRow_set, ← swp_list] at h1
  exact h1.bel (bl_drew (bl_refl _))
/-! ### one after the other put in its place -/
def ltX (B : Nat → Bo) (i k : Nat) : Bool := decide (kX (B i) < kX (B k))
theorem swo_ltX (B : Nat → Bo) : SWO (ltX B) where
  irrefl x := by simp [ltX]
  trans x y z h1 h2 := by simp [ltX] at *; omega
  ntrans x y z h1 h2 := by simp [ltX] at *; omega
theorem lt_ltX {B : Nat → Bo} {i k : Nat} (hi : mayO (B i) = true) (hk : mayO (B k) = true) : ltK .f64 (B i).1 (B k).1 = ltX B i k := lt_kX hi hk
/-- the first k numbers, so far as their boxes may be, in order -/
def SoF (B : Nat → Bo) (k : Nat) (d : Array Nat) : Prop := d.toList.Perm (nums (fun i => mayO (B i)) k) ∧ SortedIn (stT (ltX B) id) 0 d.size d
theorem SoF.mem {B : Nat → Bo} {k i : Nat} {d : Array Nat} (h : SoF B k d) (hi : i < d.size) : d[i]! < k ∧ mayO (B d[i]!) = true := by
  have : d[i]! ∈ d.toList := by rw [getElem!_pos d i hi]; exact Array.getElem_mem_toList hi
  exact nums_mem.1 ((h.1.mem_iff).1 this)
theorem SoF.len {B : Nat → Bo} {k : Nat} {d : Array Nat} (h : SoF B k d) : d.size ≤ k := by
  have := h.1.length_eq
  rw [Array.length_toList] at this
  rw [this]; exact nums_len _ _
theorem SoF.no {B : Nat → Bo} {k : Nat} {d : Array Nat} (h : SoF B k d) (hm : mayO (B k) = false) : SoF B (k + 1) d := ⟨by rw [nums_no (p := fun i => mayO (B i)) hm]; exact h.1, h.2⟩
theorem SoF.ord {B : Nat → Bo} {n : Nat} {d : Array Nat} (h : SoF B n d) : OrdL B n d.toList := by
  have hS := sorted_list rfl h.2
  have hN' : d.toList.Nodup := h.1.nodup_iff.2 ((nums_lt _ _).imp fun h => by omega)
  refine ⟨(hS.and hN').imp ?_, fun i => by rw [h.1.mem_iff, nums_mem], by rw [Array.length_toList]; exact h.len⟩
  rintro a b ⟨h1, h2⟩
  unfold stT ltX at h1
  unfold tO
  simp only [Bool.or_eq_false_iff, Bool.and_eq_false_iff, decide_eq_false_iff_not, Bool.not_eq_false', decide_eq_true_eq, id] at h1
  omega
theorem push_get {d : Array Nat} {k i : Nat} (hi : i < d.size) : (d.push k)[i]! = d[i]! := by
  rw [getElem!_pos (d.push k) i (by simp; omega), getElem!_pos d i hi, Array.getElem_push_lt hi]
theorem push_last {d : Array Nat} {k : Nat} : (d.push k)[d.size]! = k := by
  rw [getElem!_pos (d.push k) d.size (by simp), Array.getElem_push_eq]
/-- what is put in its place behind a number that comes later -/
theorem SoF.yes {B : Nat → Bo} {k : Nat} {d : Array Nat} (h : SoF B k d) (hm : mayO (B k) = true) : SoF B (k + 1) (insInner (ltX B) 0 d.size (d.push k)) := by
  have hlt : ∀ p, p < d.size → (d.push k)[p]! < k := fun p hp => by rw [push_get hp]; exact (h.mem hp).1
  have e := insInner_T (pos := id) (swo_ltX B) 0 d.size (d.push k) (by simp) (fun p _ hp => by rw [push_last]; exact hlt p hp)
  rw [e]
  have hs : SortedIn (stT (ltX B) id) 0 d.size (d.push k) := fun i j h1 h2 h3 => by rw [push_get h3, push_get (by omega)]; exact h.2 i j h1 h2 h3
  have sp := insInner_spec (swo_stT (pos := id) (swo_ltX B)) swp_permIn permIn_refl permIn_trans 0 (d.size + 1) d.size (by omega) d.size (d.push k) (Nat.zero_le _) (Nat.le_refl _) (by simp) ⟨fun p q hap hpq hqi _ hq => hs p q hap hpq (by omega), fun q h1 h2 => by omega⟩
  have hsz : (insInner (stT (ltX B) id) 0 d.size (d.push k)).size = d.size + 1 := by rw [sp.1.1]; simp
  refine ⟨?_, by rw [hsz]; exact sp.2⟩
  have hp := permIn_list (by simp) sp.1
  refine hp.trans ?_
  rw [Array.toList_push, nums_yes (p := fun i => mayO (B i)) hm]
  exact h.1.append_right _
theorem insInner_size (lt : Nat → Nat → Bool) (a : Nat) : ∀ (j : Nat) (d : Array Nat), (insInner lt a j d).size = d.size
  | 0, d => rfl
  | j + 1, d => by
    unfold insInner
    split
    · rw [insInner_size, swp_size]
    · rfl
theorem insInner_stp {lt : Nat → Nat → Bool} {j : Nat} {d : Array Nat} (h : j = 0 ∨ lt d[j]! d[j - 1]! = false) : insInner lt 0 j d = d := by
  cases j with
  | zero => rfl
  | succ j =>
    unfold insInner
    rcases h with h | h
    · omega
    · rw [if_neg (by simp at h; simp [h])]
theorem insInner_goo {lt : Nat → Nat → Bool} {j : Nat} {d : Array Nat} (h : lt d[j + 1]! d[j]! = true) : insInner lt 0 (j + 1) d = insInner lt 0 j (swp d (j + 1) j) := by
  conv => lhs; unfold insInner
  rw [if_pos (by simp [h])]
end Go.Proofs.YtekhnolpgoejdaaGreat

namespace Go.Proofs.YtekhnolpgoejdaaGreat
open Ieee Go.RowKit Go.Sort Go.WideShapes Go.Shelf Go.Lib
set_option linter.unusedSimpArgs false
set_option linter.unusedVariables false

/-! ### rows of boxes, cell by cell -/
def bSel (x : Bo) (k : Nat) : Nat := if k = 0 then x.1 else if k = 1 then x.2.1 else if k = 2 then x.2.2.1 else x.2.2.2
def bRow (B : Nat → Bo) (n : Nat) : List Value := (List.range (n * 4)).map fun j => .float .f64 (bSel (B (j / 4)) (j % 4))
theorem bRow_length (B : Nat → Bo) (n : Nat) : (bRow B n).length = n * 4 := by simp [bRow]
theorem bRow_one (B : Nat → Bo) (n : Nat) : ∀ u ∈ bRow B n, u.oneCell' = true := by
  intro u hu
  obtain ⟨i, _, rfl⟩ := List.mem_map.1 hu
  rfl
theorem bRow_get (B : Nat → Bo) (n j : Nat) (h : j < n * 4) : (bRow B n)[j]? = some (.float .f64 (bSel (B (j / 4)) (j % 4))) := by simp [bRow, h]
theorem bs_rw {w : World} {b off n : Nat} {B : Nat → Bo} (h : Bs w b off n B) : Rw w b off (bRow B n) := by
  intro j u hj
  have hl : j < n * 4 := by
    rcases Nat.lt_or_ge j (n * 4) with h' | h'
    · exact h'
    · rw [List.getElem?_eq_none (by rw [bRow_length]; exact h')] at hj; cases hj
  rw [bRow_get B n j hl] at hj
  simp only [Option.some.injEq] at hj
  subst hj
  obtain ⟨h0, h1, h2, h3⟩ := h (j / 4) (by omega)
  have hm : j % 4 = 0 ∨ j % 4 = 1 ∨ j % 4 = 2 ∨ j % 4 = 3 := by omega
  rcases hm with e | e | e | e
  · rw [e, show off + j = off + j / 4 * 4 by omega]; exact h0
  · rw [e, show off + j = off + j / 4 * 4 + 1 by omega]; exact h1
  · rw [e, show off + j = off + j / 4 * 4 + 2 by omega]; exact h2
  · rw [e, show off + j = off + j / 4 * 4 + 3 by omega]; exact h3
theorem rw_bs {w : World} {b off n : Nat} {B : Nat → Bo} (h : Rw w b off (bRow B n)) : Bs w b off n B := by
  intro i hi
  have q : ∀ k, k < 4 → w.cell? ⟨b, off + (i * 4 + k), none⟩ = some (.float .f64 (bSel (B i) k)) := fun k hk => by
    have := h (i * 4 + k) (.float .f64 (bSel (B ((i * 4 + k) / 4)) ((i * 4 + k) % 4))) (bRow_get B n _ (by omega))
    rwa [show (i * 4 + k) / 4 = i by omega, show (i * 4 + k) % 4 = k by omega] at this
  exact ⟨q 0 (by omega), q 1 (by omega), q 2 (by omega), q 3 (by omega)⟩
theorem Rw.left {w : World} {b off : Nat} {R S : List Value} (h : Rw w b off (R ++ S)) : Rw w b off R := fun j u hj => h j u (by rw [List.getElem?_append_left]; exact hj; (rcases Nat.lt_or_ge j R.length with h' | h'; exact h'; rw [List.getElem?_eq_none h'] at hj; cases hj))
/-- boxes that were lent: in memory of their own, with a mark behind -/
def LenB (w : World) (g n : Nat) (B : Nat → Bo) : Prop := Bs w g 0 n B ∧ w.cell? ⟨g, n * 4, none⟩ = some (.float .f64 4635118810238550016) ∧ w.cell? ⟨g, n * 4 + 1, none⟩ = some (.float .f64 0) ∧ w.cell? ⟨g, n * 4 + 2, none⟩ = some (.float .f64 0) ∧ w.cell? ⟨g, n * 4 + 3, none⟩ = some (.float .f64 0)
theorem LenB.below {w w' : World} {g n : Nat} {B : Nat → Bo} (h : LenB w g n B) (b : Below w.heap.size w w') : LenB w' g n B := by
  have hl := World.block_lt_of_cell? _ _ h.2.1
  exact ⟨h.1.below b, below_get b hl h.2.1, below_get b hl h.2.2.1, below_get b hl h.2.2.2.1, below_get b hl h.2.2.2.2⟩
theorem own_lenB {base n c g : Nat} {w : World} {B : Nat → Bo} (h : OwnR 4 base w (.slice (some ⟨g, 0, none⟩) (n + 1) c) (n + 1) (bRow B n ++ [.float .f64 4635118810238550016, .float .f64 0, .float .f64 0, .float .f64 0])) : base ≤ g ∧ n + 1 ≤ c ∧ c ≤ maxLen ∧ LenB w g n B ∧ g < w.heap.size := by
  obtain ⟨h1, h2, h3, h4, h5, h6⟩ := own_parts h
  have q : ∀ k u, k < 4 → ([.float .f64 4635118810238550016, .float .f64 0, .float .f64 0, .float .f64 0] : List Value)[k]? = some u → w.cell? ⟨g, n * 4 + k, none⟩ = some u := fun k u hk hu => by
    have := h4 (n * 4 + k) u (by rw [List.getElem?_append_right (by rw [bRow_length]; omega), bRow_length, Nat.add_sub_cancel_left]; exact hu)
    rwa [Nat.zero_add] at this
  have q0 := q 0 _ (by omega) rfl
  exact ⟨h1, h2, h3, ⟨rw_bs h4.left, q0, q 1 _ (by omega) rfl, q 2 _ (by omega) rfl, q 3 _ (by omega) rfl⟩, World.block_lt_of_cell? _ _ q0⟩
end Go.Proofs.YtekhnolpgoejdaaGreat

namespace Go.Proofs.YtekhnolpgoejdaaGreat
open Ieee Go.RowKit Go.Sort Go.WideShapes Go.Shelf Go.Lib
set_option linter.unusedSimpArgs false
set_option linter.unusedVariables false

/-! ### pairs in a slice, wherever it lies -/
def Ps (w : World) (g o : Nat) (L : List (Nat × Nat)) : Prop := ∀ (k : Nat) (p : Nat × Nat), L[k]? = some p → w.cell? ⟨g, o + k * 2, none⟩ = some (.int .i64 (p.1 : Int)) ∧ w.cell? ⟨g, o + k * 2 + 1, none⟩ = some (.int .i64 (p.2 : Int))
theorem Ps.bel {w w' : World} {g o : Nat} {L : List (Nat × Nat)} (h : Ps w g o L) (b : Bel w w') : Ps w' g o L := fun k p hk => ⟨keepB b (h k p hk).1, keepB b (h k p hk).2⟩
def PRow (w : World) (v : Value) (L : List (Nat × Nat)) : Prop := ∃ sa cap, v = .slice sa L.length cap ∧ (L = [] ∨ ∃ g o, sa = some ⟨g, o, none⟩ ∧ Ps w g o L)
theorem PRow.below {w w' : World} {v : Value} {L : List (Nat × Nat)} (h : PRow w v L) (g : Below w.heap.size w w') : PRow w' v L := by
  obtain ⟨sa, cap, e, h0 | ⟨b, o, e2, hI⟩⟩ := h
  · exact ⟨sa, cap, e, .inl h0⟩
  · exact ⟨sa, cap, e, .inr ⟨b, o, e2, fun k p hk => ⟨below_get g (World.block_lt_of_cell? _ _ (hI k p hk).1) (hI k p hk).1, below_get g (World.block_lt_of_cell? _ _ (hI k p hk).2) (hI k p hk).2⟩⟩⟩
theorem pRow_at : ∀ (l : List (Nat × Nat)) (k : Nat) (p : Nat × Nat), l[k]? = some p → (pRow l)[k * 2]? = some (.int .i64 (p.1 : Int)) ∧ (pRow l)[k * 2 + 1]? = some (.int .i64 (p.2 : Int))
  | [], k, p, h => by simp at h
  | a :: l, 0, p, h => by
    simp only [List.getElem?_cons_zero, Option.some.injEq] at h
    subst h; exact ⟨rfl, rfl⟩
  | a :: l, k + 1, p, h => by
    rw [List.getElem?_cons_succ] at h
    have ih := pRow_at l k p h
    have e : pRow (a :: l) = .int .i64 (a.1 : Int) :: .int .i64 (a.2 : Int) :: pRow l := rfl
    rw [e, show (k + 1) * 2 = k * 2 + 1 + 1 by omega]
    exact ih
theorem own_prow {base : Nat} {w : World} {v : Value} {L : List (Nat × Nat)} (h : OwnR 2 base w v L.length (pRow L)) : PRow w v L := by
  rcases own_split h (by decide) with ⟨h0, sa, cap, e⟩ | ⟨h0, g, cap, e, _⟩
  · exact ⟨sa, cap, by rw [h0]; exact e, .inl (List.eq_nil_of_length_eq_zero h0)⟩
  · subst e
    obtain ⟨_, _, _, h4, _, _⟩ := own_parts h
    refine ⟨_, cap, rfl, .inr ⟨g, 0, rfl, fun k p hk => ?_⟩⟩
    obtain ⟨q1, q2⟩ := pRow_at L k p hk
    have r1 := h4 _ _ q1
    have r2 := h4 _ _ q2
    rw [← Nat.add_assoc] at r2
    exact ⟨r1, r2⟩
/-- what Pairs answers -/
def prE (n : Nat) (L : List (Nat × Nat)) : Int := if 16384 < n then 4 else if 65536 < L.length then 4 else 0
def prL (n : Nat) (L : List (Nat × Nat)) : List (Nat × Nat) := if 16384 < n then [] else if 65536 < L.length then [] else L
theorem prL_len (n : Nat) (L : List (Nat × Nat)) : (prL n L).length ≤ 65536 := by
  unfold prL
  split
  · simp
  · split
    · simp
    · omega
theorem rowB_none {B C : Nat → Bo} {p : Nat → Nat → Bool} {m i : Nat} (h : mayO (B i) = false) : rowB B C p m i = [] := by
  unfold rowB meO; rw [h]
  simp
theorem allB_len {B C : Nat → Bo} {p : Nat → Nat → Bool} {m : Nat} : ∀ {a b : Nat}, a ≤ b → (allB B C p m a).length ≤ (allB B C p m b).length
  | a, 0, h => by
    have : a = 0 := by omega
    subst this; exact Nat.le_refl _
  | a, b + 1, h => by
    rcases Nat.lt_or_ge a (b + 1) with h' | h'
    · refine Nat.le_trans (allB_len (show a ≤ b by omega)) ?_
      rw [allB, List.length_append]; omega
    · have : a = b + 1 := by omega
      subst this; exact Nat.le_refl _
/-- a row so far -/
def rowK (B C : Nat → Bo) (p : Nat → Nat → Bool) (i k : Nat) : List (Nat × Nat) := rowB B C p k i
theorem rowB_yes {B C : Nat → Bo} {p : Nat → Nat → Bool} {i k : Nat} (h : (p i k && meO (B i) (C k)) = true) : rowB B C p (k + 1) i = rowB B C p k i ++ [(i, k)] := by
  unfold rowB; rw [List.range_succ, List.filter_append, List.map_append, List.filter_cons_of_pos (by exact h)]; rfl
theorem rowB_no {B C : Nat → Bo} {p : Nat → Nat → Bool} {i k : Nat} (h : (p i k && meO (B i) (C k)) = false) : rowB B C p (k + 1) i = rowB B C p k i := by
  unfold rowB; rw [List.range_succ, List.filter_append, List.map_append, List.filter_cons_of_neg (by rw [h]; simp)]; simp
theorem rowB_low {B C : Nat → Bo} {i k : Nat} (h : k ≤ i + 1) : rowB B C (fun i k => decide (i < k)) k i = [] := by
  unfold rowB
  rw [List.map_eq_nil_iff, List.filter_eq_nil_iff]
  intro j hj
  rw [List.mem_range] at hj
  simp only [show ¬ i < j by omega, decide_false, Bool.false_and, Bool.false_eq_true, not_false_eq_true]
theorem rowB_pre {B C : Nat → Bo} {p : Nat → Nat → Bool} {i : Nat} : ∀ {k m : Nat}, k ≤ m → (rowB B C p k i).length ≤ (rowB B C p m i).length
  | k, 0, h => by
    have : k = 0 := by omega
    subst this; exact Nat.le_refl _
  | k, m + 1, h => by
    rcases Nat.lt_or_ge k (m + 1) with h' | h'
    · refine Nat.le_trans (rowB_pre (show k ≤ m by omega)) ?_
      cases e : (p i m && meO (B i) (C m)) with
      | true => rw [rowB_yes e, List.length_append]; omega
      | false => rw [rowB_no e]; exact Nat.le_refl _
    · have : k = m + 1 := by omega
      subst this; exact Nat.le_refl _
end Go.Proofs.YtekhnolpgoejdaaGreat
