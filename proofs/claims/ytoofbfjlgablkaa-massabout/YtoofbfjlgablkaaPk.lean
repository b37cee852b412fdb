/-
  What each function of package poly answers, and what the reference of its chapter answers: one contract a function, for every float: the answer stands in the relation of its formula to what was given; of the memory that was there nothing has turned.
-/
import Derived.Test.YtoofbfjlgablkaaVec
import Derived.Test.YtoofbfjlgablkaaPj
import Derived.Below
import Derived.OwnWalk
import Derived.Lib.SliceRun
import Derived.WalkKit
import Derived.WalkLawsBesides
import Derived.WalkSpells
import Derived.ProofKit
import Derived.OpenShut
import Derived.Deep.RegionHeld3
namespace Go.Proofs.Ytoofbfjlgablkaa
open Go.ChangeShapes Go.WideShapes Go.ChangeAt Go.RowKit
set_option linter.unusedVariables false
set_option linter.unusedSimpArgs false


theorem at_plain (b o j : Nat) : (⟨b, o, none⟩ : Addr).add j = ⟨b, o + j, none⟩ := add_plain b o j
def revF (f : Nat → Nat) (n k : Nat) : Nat → Nat := fun i => if i < k ∨ n ≤ i + k then f (n - 1 - i) else f i
theorem rev_step {f : Nat → Nat} {n k j : Nat} (hj : j + k + 1 = n) (hk : k < j) : ∀ i, i < n → upd (upd (revF f n k) k (f j)) j (f k) i = revF f n (k + 1) i := by
  intro i hi
  unfold upd revF
  by_cases e1 : i = j
  · rw [if_pos e1, if_pos (by omega), show n - 1 - i = k by omega]
  · rw [if_neg e1]
    by_cases e2 : i = k
    · rw [if_pos e2, if_pos (by omega), show n - 1 - i = j by omega]
    · rw [if_neg e2]
      by_cases e3 : i < k ∨ n ≤ i + k
      · rw [if_pos e3, if_pos (by omega)]
      · rw [if_neg e3, if_neg (by omega)]
theorem zero_one (k : Nat) : ∀ u ∈ (Builtin.zeroCells (.agg #[.float .f64 0, .float .f64 0] : Value).cells k).toList, u.oneCell' = true := by
  intro u hu
  simp only [Builtin.zeroCells, Array.toList_map, List.mem_map] at hu
  obtain ⟨i, _, rfl⟩ := hu
  rcases Nat.mod_two_eq_zero_or_one i with h | h
  · have : i % ((Value.agg #[.float .f64 0, .float .f64 0]).cells).size = 0 := h
    rw [this]; rfl
  · have : i % ((Value.agg #[.float .f64 0, .float .f64 0]).cells).size = 1 := h
    rw [this]; rfl
theorem run_clear2 (w : World) (ty b o n c : Nat) (hn : 0 < n) (hc : ∀ j, j < n * 2 → (w.cell? ⟨b, o + j, none⟩).isSome = true) (hf : ∀ o, w.frozen? ⟨b, o, none⟩ = false) :
    (Builtin.clear_ #[42] ty #[.slice (some ⟨b, o, none⟩) n c]).run Try.prog w = .ok (.tuple #[]) (w.setCells b o (Builtin.zeroCells (.agg #[.float .f64 0, .float .f64 0] : Value).cells n).toList) := by
  obtain ⟨i0, hi, hz0, hz1, hz2⟩ := info_parts info_vec
  have hl : (Builtin.zeroCells (.agg #[.float .f64 0, .float .f64 0] : Value).cells n).toList.length = n * 2 := by rw [Array.length_toList, size_zeroCells]; rfl
  have hst := run_storeCells_cells (P := Try.prog) b o (Builtin.zeroCells (.agg #[.float .f64 0, .float .f64 0] : Value).cells n).toList 0 w (by rw [hl]; simpa using hc) (fun j _ => hf _) (zero_one n)
  simp only [Nat.add_zero] at hst
  obtain ⟨m, rfl⟩ : ∃ m, n = m + 1 := ⟨n - 1, by omega⟩
  simp [Builtin.clear_, run_underlying Try.underlying42, zeroValue, typeInfo, hi, hz0, hst]
theorem Sl.lt_ {w : World} {b off n : Nat} {xs ys : Nat → Nat} (h : Sl w b off n xs ys) {m : Nat} (hm : m ≤ n) : Sl w b off m xs ys := fun i hi => h i (by omega)
theorem px_pt {L M : List Pt} {i : Nat} (h : pt L i = pt M i) : px L i = px M i := by unfold px; rw [h]
theorem py_pt {L M : List Pt} {i : Nat} (h : pt L i = pt M i) : py L i = py M i := by unfold py; rw [h]
theorem pt_app1 (L M : List Pt) {i : Nat} (h : i < L.length) : pt (L ++ M) i = pt L i := by
  unfold pt; rw [List.getD_eq_getElem?_getD, List.getD_eq_getElem?_getD, List.getElem?_append_left h]
theorem pt_end (L : List Pt) (p : Pt) : pt (L ++ [p]) L.length = p := by
  unfold pt; rw [List.getD_eq_getElem?_getD, List.getElem?_append_right (Nat.le_refl _), Nat.sub_self]; rfl
theorem Sl.put {w : World} {b off m : Nat} {D : List Pt} {p : Pt} (hD : D.length = m) (h : Sl w b off m (px D) (py D)) (x0 : (w.cell? ⟨b, off + m * 2, none⟩).isSome = true) (x1 : (w.cell? ⟨b, off + m * 2 + 1, none⟩).isSome = true) :
    Sl ((w.setCell ⟨b, off + m * 2, none⟩ (.float .f64 p.1)).setCell ⟨b, off + m * 2 + 1, none⟩ (.float .f64 p.2)) b off (m + 1) (px (D ++ [p])) (py (D ++ [p])) := by
  obtain ⟨u0, x0⟩ := Option.isSome_iff_exists.1 x0
  obtain ⟨u1, x1⟩ := Option.isSome_iff_exists.1 x1
  intro i hi
  by_cases e : i = m
  · subst e
    have e1 : px (D ++ [p]) i = p.1 := by unfold px; rw [← hD, pt_end]
    have e2 : py (D ++ [p]) i = p.2 := by unfold py; rw [← hD, pt_end]
    rw [e1, e2]
    exact ⟨cell_apart (by omega) (World.cell?_setCell_same _ _ _ x0), World.cell?_setCell_same _ _ _ (cell_apart (by omega) x1)⟩
  · rw [px_app1 _ _ _ (by omega), py_app1 _ _ _ (by omega)]
    obtain ⟨h1, h2⟩ := h i (by omega)
    exact ⟨cell_apart (by omega) (cell_apart (by omega) h1), cell_apart (by omega) (cell_apart (by omega) h2)⟩
theorem some_set {w : World} {b o x : Nat} {v : Value} (h : (w.cell? ⟨b, x, none⟩).isSome = true) : ((w.setCell ⟨b, o, none⟩ v).cell? ⟨b, x, none⟩).isSome = true := some_sets [v] o w h
theorem some_bel {w w' : World} {a : Addr} (g : Bel w w') (h : (w.cell? a).isSome = true) : (w'.cell? a).isSome = true := by
  obtain ⟨u, hu⟩ := Option.isSome_iff_exists.1 h
  rw [keep g hu]; rfl

end Go.Proofs.Ytoofbfjlgablkaa
