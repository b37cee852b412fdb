/-
  What each function of package poly answers, and what the reference of its chapter answers: one contract a function, for every float: the answer stands in the relation of its formula to what was given; of the memory that was there nothing has turned.
-/
import Derived.Test.YtoofbfjlgablkaaVec
import Derived.Test.YtoofbfjlgablkaaPd
import Derived.Below
import Derived.WalkKit
import Derived.WalkLawsBesides
import Derived.WalkSpells
import Derived.ProofKit
import Derived.OpenShut
import Derived.Deep.RegionHeld3
namespace Go.Proofs.Ytoofbfjlgablkaa
open Go.ChangeShapes Go.WideShapes Go.ChangeAt Go.RowKit
set_option linter.unusedVariables false
set_option linter.unusedSimpArgs false


theorem ln_num {n ax ay : Nat} (h1 : Bd n ax) (h2 : Bd n ay) (hn : n ≤ 400) : nanK .f64 (lnK ax ay) = false := by
  obtain ⟨f, g⟩ := sq_ng h1 h2 hn
  have q := sq_res (sqr_some f g)
  by_cases hz : mg (dtK ax ay ax ay) = 0
  · have e := sqr_zero f g hz q
    unfold lnK; rw [e]; decide +kernel
  · exact fin_num (root_fin f g hz q).1
theorem ge_min {x m : Nat} (h1 : nanK .f64 x = false) (h2 : nanK .f64 m = false) : leK .f64 m x = !ltK .f64 x m := by
  unfold leK ltK
  rw [h1, h2]
  simp
  rw [Bool.eq_iff_iff]
  simp
theorem idx1 {n i k : Nat} (hi : i < n) (h2 : 2 ≤ k) (hk : k < n) : (i + k) % n ≠ i ∧ (i + k) % n ≠ (i + 1) % n := by
  have e1 : (i + k) % n = if i + k < n then i + k else i + k - n := by
    split
    · exact Nat.mod_eq_of_lt (by assumption)
    · rw [Nat.mod_eq_sub_mod (by omega), Nat.mod_eq_of_lt (by omega)]
  have e2 : (i + 1) % n = if i + 1 < n then i + 1 else i + 1 - n := by
    split
    · exact Nat.mod_eq_of_lt (by assumption)
    · rw [Nat.mod_eq_sub_mod (by omega), Nat.mod_eq_of_lt (by omega)]
  rw [e1, e2]
  split <;> split <;> omega
theorem idx2 {n i k : Nat} (hi : i < n) (hk : k < n) (h1 : k ≠ i) (h2 : k ≠ (i + 1) % n) : ∃ q, 2 ≤ q ∧ q < n ∧ (i + q) % n = k := by
  have e2 : (i + 1) % n = if i + 1 < n then i + 1 else i + 1 - n := by
    split
    · exact Nat.mod_eq_of_lt (by assumption)
    · rw [Nat.mod_eq_sub_mod (by omega), Nat.mod_eq_of_lt (by omega)]
  rw [e2] at h2
  by_cases h : i < k
  · refine ⟨k - i, ?_, by omega, ?_⟩
    · split at h2 <;> omega
    · rw [show i + (k - i) = k by omega]; exact Nat.mod_eq_of_lt hk
  · refine ⟨n + k - i, ?_, by omega, ?_⟩
    · split at h2 <;> omega
    · rw [show i + (n + k - i) = k + n by omega, Nat.add_mod_right]; exact Nat.mod_eq_of_lt hk
theorem out_all {xs ys : Nat → Nat} {n i : Nat} (hi : i < n) (h : ltK .f64 (lnK (wX xs n i) (wX ys n i)) 4472074429978902528 = false) (g : ∀ k, k < n → k ≠ i → k ≠ (i + 1) % n → ltK .f64 0 (lnS xs ys n i (xs k) (ys k)) = true) : outB xs ys n i = true :=
  out_yes h fun k h2 hk => g _ (Nat.mod_lt _ (by omega)) (idx1 hi h2 hk).1 (idx1 hi h2 hk).2
theorem out_one {xs ys : Nat → Nat} {n i k : Nat} (hi : i < n) (hk : k < n) (h1 : k ≠ i) (h2 : k ≠ (i + 1) % n) (h : ltK .f64 0 (lnS xs ys n i (xs k) (ys k)) = false) : outB xs ys n i = false := by
  obtain ⟨q, hq2, hqn, e⟩ := idx2 hi hk h1 h2
  exact out_no hq2 hqn (by rw [e]; exact h)

end Go.Proofs.Ytoofbfjlgablkaa
