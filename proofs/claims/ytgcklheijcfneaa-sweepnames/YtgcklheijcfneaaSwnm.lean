/-
  Plain facts on floats, more: rounding to the nearest rung, sums and products of finite floats, signs turned. No program is named here.
-/
import Derived.Test.YtgcklheijcfneaaColm
import Derived.Test.YtgcklheijcfneaaSwh
namespace Go.Proofs.Ytgcklheijcfneaa
open Ieee Go.RowKit
set_option linter.unusedSimpArgs false
set_option linter.unusedVariables false

/-! ### Rows of boxes apart, rows of like boxes: how many pairs -/
theorem refP_none {B : Nat → Bo} {n : Nat} (h : ∀ i k, i < k → k < n → meO (B i) (B k) = false) : refP B n = [] := by
  rw [List.eq_nil_iff_forall_not_mem]
  intro x hx
  unfold refP at hx
  rw [mem_allB] at hx
  obtain ⟨h1, h2, h3, h4⟩ := hx
  simp only [decide_eq_true_eq] at h3
  rw [h x.1 x.2 h3 h2] at h4
  cases h4
/-- boxes one beside the other -/
def bApart (i : Nat) : Bo := (fI (2 * i), 0, fI (2 * i + 1), 4607182418800017408)
theorem apart_none {n : Nat} (hn : n ≤ 16384) : refP bApart n = [] := refP_none fun i k h1 h2 => by
  have hl : ltK .f64 (bApart i).2.2.1 (bApart k).1 = true := by
    show ltK .f64 (fI (2 * i + 1)) (fI (2 * k)) = true
    have e1 : 2 ^ 53 = 9007199254740992 := by decide
    have a := (fI_num (show 2 * i + 1 < 2 ^ 53 by omega)).1
    have b := (fI_num (show 2 * k < 2 ^ 53 by omega)).1
    have c := fI_lt (show 2 * k < 2 ^ 53 by omega) (show 2 * i + 1 < 2 * k by omega)
    unfold ltK
    rw [a, b]
    simp only [Bool.not_false, Bool.true_and, decide_eq_true_eq]
    exact c
  unfold meO
  rw [ov_sym, ov_not hl, Bool.and_false]
/-- how many pairs all boxes make -/
def smP (m : Nat) : Nat → Nat
  | 0 => 0
  | n + 1 => smP m n + (m - (n + 1))
theorem rowB_all {B : Nat → Bo} (h : ∀ i k, meO (B i) (B k) = true) (i : Nat) : ∀ m, (rowB B B (fun i k => decide (i < k)) m i).length = m - (i + 1)
  | 0 => by simp [rowB]
  | m + 1 => by
    have ih := rowB_all h i m
    by_cases hl : i < m
    · rw [rowB_yes (by rw [h, decide_eq_true hl]; rfl), List.length_append, ih]
      simp only [List.length_cons, List.length_nil]
      omega
    · rw [rowB_no (by rw [decide_eq_false hl]; rfl), ih]
      omega
theorem allB_all {B : Nat → Bo} (h : ∀ i k, meO (B i) (B k) = true) (m : Nat) : ∀ n, (allB B B (fun i k => decide (i < k)) m n).length = smP m n
  | 0 => rfl
  | n + 1 => by rw [allB, List.length_append, allB_all h m n, rowB_all h n m]; rfl
theorem rowB_full {B C : Nat → Bo} (h : ∀ i k, meO (B i) (C k) = true) (i : Nat) : ∀ m, (rowB B C (fun _ _ => true) m i).length = m
  | 0 => by simp [rowB]
  | m + 1 => by rw [rowB_yes (by rw [h]; rfl), List.length_append, rowB_full h i m]; rfl
theorem allB_full {B C : Nat → Bo} (h : ∀ i k, meO (B i) (C k) = true) (m : Nat) : ∀ n, (allB B C (fun _ _ => true) m n).length = n * m
  | 0 => by simp [allB]
  | n + 1 => by rw [allB, List.length_append, allB_full h m n, rowB_full h n m, Nat.add_mul, Nat.one_mul]
def bLike (_ : Nat) : Bo := (0, 0, 4611686018427387904, 4611686018427387904)
theorem like_me (i k : Nat) : meO (bLike i) (bLike k) = true := by
  show meO (bLike 0) (bLike 0) = true
  decide +kernel
theorem like_362 : (refP bLike 362).length = 65341 := by
  show (allB bLike bLike (fun i k => decide (i < k)) 362 362).length = 65341
  rw [allB_all like_me]; decide +kernel
theorem like_363 : (refP bLike 363).length = 65703 := by
  show (allB bLike bLike (fun i k => decide (i < k)) 363 363).length = 65703
  rw [allB_all like_me]; decide +kernel
theorem like_256 : (refB bLike bLike 256 256).length = 65536 := by
  show (allB bLike bLike (fun _ _ => true) 256 256).length = 65536
  rw [allB_full like_me]
theorem like_257 : (refB bLike bLike 256 257).length = 65792 := by
  show (allB bLike bLike (fun _ _ => true) 257 256).length = 65792
  rw [allB_full like_me]
end Go.Proofs.Ytgcklheijcfneaa
