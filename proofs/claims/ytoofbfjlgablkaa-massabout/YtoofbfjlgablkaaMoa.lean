/-
  Plain facts on floats, more: rounding to the nearest rung, sums and products of finite floats, signs turned. No program is named here.
-/
import Derived.Test.YtoofbfjlgablkaaMau
namespace Go.Proofs.Ytoofbfjlgablkaa
open Ieee Go.RowKit
set_option linter.unusedSimpArgs false
set_option linter.unusedVariables false

/-! ### Sums in order: how far off; the other way round -/
/-- a sum of the first numbers, 0 to k -/
def sumQ (t : Nat → Rat) : Nat → Rat
  | 0 => t 0
  | k + 1 => sumQ t k + t (k + 1)
theorem sumQ_congr {t u : Nat → Rat} : ∀ k, (∀ i, i ≤ k → t i = u i) → sumQ t k = sumQ u k
  | 0, h => h 0 (Nat.le_refl _)
  | k + 1, h => by unfold sumQ; rw [sumQ_congr k (fun i hi => h i (by omega)), h (k + 1) (Nat.le_refl _)]
theorem sumQ_mono {t u : Nat → Rat} : ∀ k, (∀ i, i ≤ k → t i ≤ u i) → sumQ t k ≤ sumQ u k
  | 0, h => h 0 (Nat.le_refl _)
  | k + 1, h => by
    unfold sumQ
    have h1 := sumQ_mono k (fun i hi => h i (by omega))
    have h2 := h (k + 1) (Nat.le_refl _)
    grind
theorem sumQ_nn {t : Nat → Rat} : ∀ k, (∀ i, i ≤ k → 0 ≤ t i) → 0 ≤ sumQ t k
  | 0, h => h 0 (Nat.le_refl _)
  | k + 1, h => by
    unfold sumQ
    have h1 := sumQ_nn k (fun i hi => h i (by omega))
    have h2 := h (k + 1) (Nat.le_refl _)
    grind
theorem sumQ_scale (c : Rat) (t : Nat → Rat) : ∀ k, sumQ (fun i => t i * c) k = sumQ t k * c
  | 0 => rfl
  | k + 1 => by unfold sumQ; rw [sumQ_scale c t k]; grind
theorem sumQ_sub (t u : Nat → Rat) : ∀ k, ab (sumQ t k - sumQ u k) ≤ sumQ (fun i => ab (t i - u i)) k
  | 0 => Rat.le_refl
  | k + 1 => by
    unfold sumQ
    have h1 := sumQ_sub t u k
    have h2 := ab_add (sumQ t k - sumQ u k) (t (k + 1) - u (k + 1))
    rw [show sumQ t k - sumQ u k + (t (k + 1) - u (k + 1)) = sumQ t k + t (k + 1) - (sumQ u k + u (k + 1)) by grind] at h2
    grind
theorem sumQ_ab (t : Nat → Rat) : ∀ k, ab (sumQ t k) ≤ sumQ (fun i => ab (t i)) k
  | 0 => Rat.le_refl
  | k + 1 => by
    unfold sumQ
    have h1 := sumQ_ab t k
    have h2 := ab_add (sumQ t k) (t (k + 1))
    grind
/-- parts of what is there, and as much each time -/
theorem sumQ_parts (e h : Rat) (t : Nat → Rat) : ∀ k, sumQ (fun i => e * t i + h) k = e * sumQ t k + (k + 1 : Nat) * h
  | 0 => by unfold sumQ; grind
  | k + 1 => by
    unfold sumQ
    rw [sumQ_parts e h t k]
    have : ((k + 1 + 1 : Nat) : Rat) = ((k + 1 : Nat) : Rat) + 1 := by rw [Rat.natCast_add]; rfl
    rw [this]
    grind
theorem sumQ_front (t : Nat → Rat) : ∀ k, sumQ t (k + 1) = t 0 + sumQ (fun i => t (i + 1)) k
  | 0 => rfl
  | k + 1 => by
    rw [show sumQ t (k + 1 + 1) = sumQ t (k + 1) + t (k + 1 + 1) from rfl, sumQ_front t k]
    show t 0 + sumQ (fun i => t (i + 1)) k + t (k + 1 + 1) = t 0 + (sumQ (fun i => t (i + 1)) k + t (k + 1 + 1))
    grind
theorem sumQ_back (t : Nat → Rat) : ∀ k, sumQ (fun i => t (k - i)) k = sumQ t k
  | 0 => rfl
  | k + 1 => by
    rw [sumQ_front t k, show sumQ (fun i => t (k + 1 - i)) (k + 1) = sumQ (fun i => t (k + 1 - i)) k + t (k + 1 - (k + 1)) from rfl]
    rw [Nat.sub_self, sumQ_congr (u := fun i => (fun j => t (j + 1)) (k - i)) k (fun i hi => by show t (k + 1 - i) = t (k - i + 1); rw [show k + 1 - i = k - i + 1 by omega]), sumQ_back (fun j => t (j + 1)) k]
    grind
theorem step_sum {e h K P f F r t : Rat} (he : 0 ≤ e) (he1 : e * 1024 ≤ 1) (h0 : 0 ≤ h) (hK : 0 ≤ K) (hK2 : K ≤ 64) (hP : 0 ≤ P) (hF : ab F ≤ P) (hf : ab (f - F) ≤ 4 * (K * (e * P + h))) (n : ab (f + t - r) ≤ e * ab r + h) :
    ab (r - (F + t)) ≤ 4 * ((K + 1) * (e * (P + ab t) + h)) := by
  have hT := ab_nn t
  have hA := ab_nn r
  have eP := Rat.mul_nonneg he hP
  have eT := Rat.mul_nonneg he hT
  have eA := Rat.mul_nonneg he hA
  have hE : 0 ≤ e * P + h := by grind
  have kE := Rat.mul_nonneg hK hE
  have kE2 := Rat.mul_le_mul_of_nonneg_right hK2 hE
  have a1 := ab_add (f - F) (F + t)
  rw [show f - F + (F + t) = f + t by grind] at a1
  have a2 := ab_add F t
  have a3 := ab_add (f + t) (-(f + t - r))
  rw [show f + t + -(f + t - r) = r by grind, ab_neg] at a3
  have b1 := Rat.mul_le_mul_of_nonneg_right he1 hA
  -- r is not much more than all there is
  have c1 : ab r ≤ 2 * (P + 4 * (K * (e * P + h)) + ab t + h) := by grind
  have c2 := Rat.mul_le_mul_of_nonneg_left c1 he
  have d1 := Rat.mul_le_mul_of_nonneg_left kE2 he
  have d2 := Rat.mul_le_mul_of_nonneg_right he1 hE
  have d3 := Rat.mul_le_mul_of_nonneg_right he1 h0
  have d4 : e * ab r ≤ 2 * (e * P) + 2 * (e * ab t) + (e * P + h) / 2 + h := by grind
  have e1 := ab_add (-(f + t - r)) (f - F)
  rw [show -(f + t - r) + (f - F) = r - (F + t) by grind, ab_neg] at e1
  have k1 := Rat.mul_nonneg hK eT
  grind
/-- a sum of at most 64 numbers, each time rounded -/
theorem sum_err {e h : Rat} {f t : Nat → Rat} (he : 0 ≤ e) (he1 : e * 1024 ≤ 1) (h0 : 0 ≤ h) (hf : f 0 = t 0) : ∀ k, k ≤ 63 → (∀ i, i < k → ab (f i + t (i + 1) - f (i + 1)) ≤ e * ab (f (i + 1)) + h) →
    ab (f k - sumQ t k) ≤ 4 * ((k : Rat) * (e * sumQ (fun i => ab (t i)) k + h))
  | 0, _, _ => by
    rw [hf]
    unfold sumQ
    rw [show t 0 - t 0 = 0 by grind, ab_pos (Rat.le_refl)]
    rw [show ((0 : Nat) : Rat) = 0 from rfl]
    grind
  | k + 1, hk, hs => by
    have ih := sum_err he he1 h0 hf k (by omega) (fun i hi => hs i (by omega))
    have kk : ((k + 1 : Nat) : Rat) = (k : Rat) + 1 := by rw [Rat.natCast_add]; rfl
    have k0 : (0 : Rat) ≤ (k : Rat) := by exact_mod_cast Nat.zero_le k
    have k64 : (k : Rat) ≤ 64 := by exact_mod_cast (show k ≤ 64 by omega)
    rw [kk]
    unfold sumQ
    exact step_sum he he1 h0 k0 k64 (sumQ_nn k (fun i _ => ab_nn _)) (sumQ_ab t k) ih (hs k (by omega))
end Go.Proofs.Ytoofbfjlgablkaa
