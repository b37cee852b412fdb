/-
  Plain facts on floats, more: rounding to the nearest rung, sums and products of finite floats, signs turned. No program is named here.
-/
import Derived.Test.YtekhnolpgoejdaaGreatGov
namespace Go.Proofs.YtekhnolpgoejdaaGreat
open Ieee Go.RowKit Go.Sort Go.Shelf Go.Lib
set_option linter.unusedSimpArgs false
set_option linter.unusedVariables false

/-! ### Sizes put in one by one -/
structure ZPk (B : Nat → Bo) (t : Nat) (acc : List Nat) : Prop where
  ok : ∀ x ∈ acc, okK .f64 x
  pm : (acc.map rkK).Perm (zrL B t)
  pw : (acc.map rkK).Pairwise (· ≤ ·)
theorem zpk_nil (B : Nat → Bo) : ZPk B 0 [] := ⟨fun x hx => (by cases hx), by simp [zrL, nums], by simp⟩
theorem ZPk.no {B : Nat → Bo} {t : Nat} {acc : List Nat} (h : ZPk B t acc) (hm : mayO (B t) = false) : ZPk B (t + 1) acc := ⟨h.ok, by unfold zrL; rw [nums_no (p := fun i => mayO (B i)) hm]; exact h.pm, h.pw⟩
/-- one with v at k -/
def atZ (acc : List Nat) (k v : Nat) : List Nat := acc.take k ++ v :: acc.drop k
theorem atZ_len (acc : List Nat) (k v : Nat) : (atZ acc k v).length = acc.length + 1 := by
  unfold atZ
  simp only [List.length_append, List.length_cons, List.length_take, List.length_drop]
  omega
theorem atZ_end (acc : List Nat) (v : Nat) : atZ acc acc.length v = acc ++ [v] := by unfold atZ; simp
theorem atZ_set {acc : List Nat} {k : Nat} (hk : k ≤ acc.length) (v u : Nat) : (atZ acc k v).set k u = atZ acc k u := by
  unfold atZ
  have hl : (acc.take k).length = k := by rw [List.length_take]; omega
  rw [List.set_append_right _ _ (by omega), hl, Nat.sub_self, List.set_cons_zero]
theorem atZ_down {acc : List Nat} {k x : Nat} (hx : acc[k]? = some x) : atZ acc (k + 1) x = atZ acc k x := by
  obtain ⟨hk, e⟩ := List.getElem?_eq_some_iff.1 hx
  unfold atZ
  rw [List.take_add_one, hx, Option.toList_some, List.append_assoc, List.singleton_append]
  congr 1
  rw [List.drop_eq_getElem_cons hk, e]
theorem atZ_get {acc : List Nat} {k v j x : Nat} (hj : j < k) (hx : acc[j]? = some x) : (atZ acc k v)[j]? = some x := by
  obtain ⟨hl, e⟩ := List.getElem?_eq_some_iff.1 hx
  unfold atZ
  rw [List.getElem?_append_left (by rw [List.length_take]; omega), List.getElem?_take_of_lt hj, hx]
theorem fRow_set (L : List Nat) (k u : Nat) : (fRow L).set k (.float .f64 u) = fRow (L.set k u) := by unfold fRow; rw [List.map_set]
theorem ZPk.yes {B : Nat → Bo} {t r a : Nat} {acc : List Nat} (h : ZPk B t acc) (hm : mayO (B t) = true) (hr : rkK r = zrk (B t) ∧ okK .f64 r) (ha : a ≤ acc.length) (hb : ∀ j x, a ≤ j → acc[j]? = some x → rkK r < rkK x) (hc : a = 0 ∨ ∃ x, acc[a - 1]? = some x ∧ rkK x ≤ rkK r) : ZPk B (t + 1) (atZ acc a r) := by
  have hperm : (atZ acc a r).Perm (acc ++ [r]) := by
    unfold atZ
    refine (List.perm_middle).trans ?_
    rw [List.take_append_drop]
    exact (List.perm_append_singleton r acc).symm
  refine ⟨fun x hx => ?_, ?_, ?_⟩
  · have := hperm.mem_iff.1 hx
    rcases List.mem_append.1 this with h' | h'
    · exact h.ok x h'
    · simp only [List.mem_cons, List.not_mem_nil, or_false] at h'
      rw [h']; exact hr.2
  · refine (hperm.map rkK).trans ?_
    unfold zrL
    rw [nums_yes (p := fun i => mayO (B i)) hm, List.map_append, List.map_append]
    have := h.pm
    unfold zrL at this
    refine (this.append_right _).trans ?_
    simp [hr.1]
  · have hp := List.pairwise_iff_getElem.1 (List.pairwise_map.1 h.pw)
    rw [List.pairwise_map]
    unfold atZ
    rw [List.pairwise_append, List.pairwise_cons]
    have hp0 := List.pairwise_map.1 h.pw
    refine ⟨hp0.sublist (List.take_sublist _ _), ⟨fun x hx => ?_, hp0.sublist (List.drop_sublist _ _)⟩, fun x hx y hy => ?_⟩
    · obtain ⟨j, hj, ej⟩ := List.getElem_of_mem hx
      rw [List.getElem_drop] at ej
      rw [List.length_drop] at hj
      have := hb (a + j) x (by omega) (by rw [List.getElem?_eq_getElem (by omega), ej])
      omega
    · obtain ⟨i, hi, ei⟩ := List.getElem_of_mem hx
      rw [List.getElem_take] at ei
      rw [List.length_take] at hi
      have hxr : rkK x ≤ rkK r := by
        rcases hc with h0 | ⟨z, hz, hzr⟩
        · omega
        · obtain ⟨hzl, ez⟩ := List.getElem?_eq_some_iff.1 hz
          rcases Nat.lt_or_ge i (a - 1) with h' | h'
          · have := hp i (a - 1) (by omega) hzl h'
            rw [ei, ez] at this; omega
          · have e : i = a - 1 := by omega
            subst e
            rw [ei] at ez; rw [ez]; exact hzr
      rcases List.mem_cons.1 hy with e | hy
      · rw [e]; exact hxr
      · obtain ⟨j, hj, ej⟩ := List.getElem_of_mem hy
        rw [List.getElem_drop] at ej
        rw [List.length_drop] at hj
        have := hb (a + j) y (by omega) (by rw [List.getElem?_eq_getElem (by omega), ej])
        omega
theorem mid_pk {B : Nat → Bo} {n : Nat} {acc : List Nat} (h : ZPk B n acc) (h0 : 0 < acc.length) : ∃ s, acc[(acc.length - 1) / 2]? = some s ∧ okK .f64 s ∧ midW (zrL B n) = pwR (rkK s) := by
  have e1 : srtZ (zrL B n) = acc.map rkK := pw_uniq ((srtZ_perm _).trans h.pm.symm) (srtZ_pw _) h.pw
  have e2 : (zrL B n).length = acc.length := by rw [← h.pm.length_eq, List.length_map]
  have hl : (acc.length - 1) / 2 < acc.length := by omega
  refine ⟨acc[(acc.length - 1) / 2], List.getElem?_eq_getElem hl, h.ok _ (List.getElem_mem hl), ?_⟩
  unfold midW
  rw [e1, e2, List.getElem?_map, List.getElem?_eq_getElem hl]
  rfl
theorem zrl_nil {B : Nat → Bo} {n : Nat} (h : ZPk B n []) : midW (zrL B n) = 4607182418800017408 := by
  have := h.pm
  simp only [List.map_nil] at this
  rw [← List.Perm.nil_eq this]
  simp [midW, srtZ]
end Go.Proofs.YtekhnolpgoejdaaGreat
