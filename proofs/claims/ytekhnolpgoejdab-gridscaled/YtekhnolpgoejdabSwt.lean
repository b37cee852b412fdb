/-
  Plain facts on floats, more: rounding to the nearest rung, sums and products of finite floats, signs turned. No program is named here.
-/
import Derived.Test.YtekhnolpgoejdabSwq
namespace Go.Proofs.Ytekhnolpgoejdab
open Ieee Go.RowKit Go.Sort Go.WideShapes Go.Shelf Go.Lib
set_option linter.unusedSimpArgs false
set_option linter.unusedVariables false

/-! ### a row of a call's own, written into -/
theorem own_parts {sz base n : Nat} {w : World} {g cap : Nat} {R : List Value} (h : OwnR sz base w (.slice (some ⟨g, 0, none⟩) n cap) n R) : base ≤ g ∧ n ≤ cap ∧ cap ≤ maxLen ∧ Rw w g 0 R ∧ (∀ j, j < cap * sz → (w.cell? ⟨g, j, none⟩).isSome = true) ∧ ∀ o, w.frozen? ⟨g, o, none⟩ = false := by
  rcases h.2 with ⟨e1, e2⟩ | ⟨k, cap', e, h1, h2, h3, h4, h5, h6⟩
  · simp at e1
  · injection e with e1 e2 e3
    injection e1 with e1
    injection e1 with e1
    subst e1 e3
    exact ⟨h1, h2, h3, h4, h5, h6⟩
theorem own_set {base n : Nat} {w : World} {g cap i : Nat} {R : List Value} {v : Value} (h : OwnR 1 base w (.slice (some ⟨g, 0, none⟩) n cap) n R) (hi : i < n) : OwnR 1 base (w.setCell ⟨g, i, none⟩ v) (.slice (some ⟨g, 0, none⟩) n cap) n (R.set i v) := by
  obtain ⟨h1, h2, h3, h4, h5, h6⟩ := own_parts h
  have hl := h.1
  refine ⟨by rw [List.length_set]; exact hl, .inr ⟨g, cap, rfl, h1, h2, h3, fun j u hj => ?_, fun j hj => ?_, fun o => (World.frozen?_setCell _ _ _ _).trans (h6 o)⟩⟩
  · rw [Nat.zero_add]
    by_cases e : i = j
    · subst e
      rw [List.getElem?_set_self (by omega)] at hj
      simp only [Option.some.injEq] at hj
      subst hj
      obtain ⟨u0, hu0⟩ := Option.isSome_iff_exists.1 (h5 i (by omega))
      exact World.cell?_setCell_same _ _ _ hu0
    · rw [List.getElem?_set_ne e] at hj
      rw [World.cell?_setCell_other _ _ _ _ (by intro e'; injection e' with _ e2 _; exact e e2)]
      have := h4 j u hj
      rwa [Nat.zero_add] at this
  · obtain ⟨u, hu⟩ := Option.isSome_iff_exists.1 (h5 j hj)
    by_cases e : i = j
    · subst e; rw [World.cell?_setCell_same _ _ _ hu]; rfl
    · rw [World.cell?_setCell_other _ _ _ _ (by intro e'; injection e' with _ e2 _; exact e e2)]; exact h5 j hj
theorem iRow_set (L : List Nat) (i x : Nat) : (iRow L).set i (.int .i64 (x : Int)) = iRow (L.set i x) := by unfold iRow; rw [List.map_set]
theorem swp_list (d : Array Nat) (i j : Nat) : (swp d i j).toList = (d.toList.set i d[j]!).set j d[i]! := by unfold swp; rw [Array.toList_setIfInBounds, Array.toList_setIfInBounds]
theorem own_swp {base n : Nat} {w : World} {g cap i j : Nat} {d : Array Nat} (h : OwnR 1 base w (.slice (some ⟨g, 0, none⟩) n cap) n (iRow d.toList)) (hi : i < n) (hj : j < n) : OwnR 1 base ((w.setCell ⟨g, i, none⟩ (.int .i64 (d[j]! : Int))).setCell ⟨g, j, none⟩ (.int .i64 (d[i]! : Int))).drew (.slice (some ⟨g, 0, none⟩) n cap) n (iRow (swp d i j).toList) := by
  have h1 := own_set (own_set h hi (v := .int .i64 (d[j]! : Int))) hj (v := .int .i64 (d[i]! : Int))
  rw [iRow_set, iRow_set, ← swp_list] at h1
  exact h1.bel (bl_drew (bl_refl _))
/-! ### one after the other put in its place -/
def ltX (B : Nat → Bo) (i k : Nat) : Bool := decide (kX (B i) < kX (B k))
theorem swo_ltX (B : Nat → Bo) : SWO (ltX B) where
  irrefl x := by simp [ltX]
  trans x y z h1 h2 := by simp [ltX] at *; omega
  ntrans x y z h1 h2 := by simp [ltX] at *; omega
theorem lt_ltX {B : Nat → Bo} {i k : Nat} (hi : mayO (B i) = true) (hk : mayO (B k) = true) : ltK .f64 (B i).1 (B k).1 = ltX B i k := lt_kX hi hk
/-- the first k numbers, so far as their boxes may be, in order -/
def SoF (B : Nat → Bo) (k : Nat) (d : Array Nat) : Prop := d.toList.Perm (nums (fun i => mayO (B i)) k) ∧ SortedIn (stT (ltX B) id) 0 d.size d
theorem SoF.mem {B : Nat → Bo} {k i : Nat} {d : Array Nat} (h : SoF B k d) (hi : i < d.size) : d[i]! < k ∧ mayO (B d[i]!) = true := by
  have : d[i]! ∈ d.toList := by rw [getElem!_pos d i hi]; exact Array.getElem_mem_toList hi
  exact nums_mem.1 ((h.1.mem_iff).1 this)
theorem SoF.len {B : Nat → Bo} {k : Nat} {d : Array Nat} (h : SoF B k d) : d.size ≤ k := by
  have := h.1.length_eq
  rw [Array.length_toList] at this
  rw [this]; exact nums_len _ _
theorem SoF.no {B : Nat → Bo} {k : Nat} {d : Array Nat} (h : SoF B k d) (hm : mayO (B k) = false) : SoF B (k + 1) d := ⟨by rw [nums_no (p := fun i => mayO (B i)) hm]; exact h.1, h.2⟩
theorem SoF.ord {B : Nat → Bo} {n : Nat} {d : Array Nat} (h : SoF B n d) : OrdL B n d.toList := by
  have hS := sorted_list rfl h.2
  have hN' : d.toList.Nodup := h.1.nodup_iff.2 ((nums_lt _ _).imp fun h => by omega)
  refine ⟨(hS.and hN').imp ?_, fun i => by rw [h.1.mem_iff, nums_mem], by rw [Array.length_toList]; exact h.len⟩
  rintro a b ⟨h1, h2⟩
  unfold stT ltX at h1
  unfold tO
  simp only [Bool.or_eq_false_iff, Bool.and_eq_false_iff, decide_eq_false_iff_not, Bool.not_eq_false', decide_eq_true_eq, id] at h1
  omega
theorem push_get {d : Array Nat} {k i : Nat} (hi : i < d.size) : (d.push k)[i]! = d[i]! := by
  rw [getElem!_pos (d.push k) i (by simp; omega), getElem!_pos d i hi, Array.getElem_push_lt hi]
theorem push_last {d : Array Nat} {k : Nat} : (d.push k)[d.size]! = k := by
  rw [getElem!_pos (d.push k) d.size (by simp), Array.getElem_push_eq]
/-- what is put in its place behind a number that comes later -/
theorem SoF.yes {B : Nat → Bo} {k : Nat} {d : Array Nat} (h : SoF B k d) (hm : mayO (B k) = true) : SoF B (k + 1) (insInner (ltX B) 0 d.size (d.push k)) := by
  have hlt : ∀ p, p < d.size → (d.push k)[p]! < k := fun p hp => by rw [push_get hp]; exact (h.mem hp).1
  have e := insInner_T (pos := id) (swo_ltX B) 0 d.size (d.push k) (by simp) (fun p _ hp => by rw [push_last]; exact hlt p hp)
  rw [e]
  have hs : SortedIn (stT (ltX B) id) 0 d.size (d.push k) := fun i j h1 h2 h3 => by rw [push_get h3, push_get (by omega)]; exact h.2 i j h1 h2 h3
  have sp := insInner_spec (swo_stT (pos := id) (swo_ltX B)) swp_permIn permIn_refl permIn_trans 0 (d.size + 1) d.size (by omega) d.size (d.push k) (Nat.zero_le _) (Nat.le_refl _) (by simp) ⟨fun p q hap hpq hqi _ hq => hs p q hap hpq (by omega), fun q h1 h2 => by omega⟩
  have hsz : (insInner (stT (ltX B) id) 0 d.size (d.push k)).size = d.size + 1 := by rw [sp.1.1]; simp
  refine ⟨?_, by rw [hsz]; exact sp.2⟩
  have hp := permIn_list (by simp) sp.1
  refine hp.trans ?_
  rw [Array.toList_push, nums_yes (p := fun i => mayO (B i)) hm]
  exact h.1.append_right _
theorem insInner_size (lt : Nat → Nat → Bool) (a : Nat) : ∀ (j : Nat) (d : Array Nat), (insInner lt a j d).size = d.size
  | 0, d => rfl
  | j + 1, d => by
    unfold insInner
    split
    · rw [insInner_size, swp_size]
    · rfl
theorem insInner_stp {lt : Nat → Nat → Bool} {j : Nat} {d : Array Nat} (h : j = 0 ∨ lt d[j]! d[j - 1]! = false) : insInner lt 0 j d = d := by
  cases j with
  | zero => rfl
  | succ j =>
    unfold insInner
    rcases h with h | h
    · omega
    · rw [if_neg (by simp at h; simp [h])]
theorem insInner_goo {lt : Nat → Nat → Bool} {j : Nat} {d : Array Nat} (h : lt d[j + 1]! d[j]! = true) : insInner lt 0 (j + 1) d = insInner lt 0 j (swp d (j + 1) j) := by
  conv => lhs; unfold insInner
  rw [if_pos (by simp [h])]
end Go.Proofs.Ytekhnolpgoejdab
