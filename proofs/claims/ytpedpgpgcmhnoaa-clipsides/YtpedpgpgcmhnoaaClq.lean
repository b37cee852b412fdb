/-
  Plain facts on floats, more: rounding to the nearest rung, sums and products of finite floats, signs turned. No program is named here.
-/
import Derived.Test.YtpedpgpgcmhnoaaClp
namespace Go.Proofs.Ytpedpgpgcmhnoaa
open Ieee Go.RowKit
set_option linter.unusedSimpArgs false
set_option linter.unusedVariables false

/-- a row that is cut has at most half as many points more -/
theorem rowN_half (p : Pn) (L : List Pt) : ∀ i, i ≤ L.length → 2 * (rowN p L i).length + (if wiB p (pt L 0) then 0 else 1) ≤ 3 * i + (if wiB p (pt L (i % L.length)) then 0 else 1) := by
  intro i
  induction i with
  | zero => intro _; rw [Nat.zero_mod]; exact Nat.le_refl _
  | succ i ih =>
    intro hi
    have h := ih (by omega)
    rw [Nat.mod_eq_of_lt (show i < L.length by omega)] at h
    simp only [rowN, List.length_append, sideL]
    cases h1 : wiB p (pt L i) <;> cases h2 : wiB p (pt L ((i + 1) % L.length)) <;> rw [h1] at h <;> simp at h ⊢ <;> omega
theorem rowN_half2 (p : Pn) (L : List Pt) (i : Nat) (h : i ≤ L.length) : 2 * (rowN p L i).length ≤ 3 * i + 1 := by
  have h1 := rowN_half p L i h
  have h2 : (if wiB p (pt L (i % L.length)) then 0 else 1) ≤ 1 := by split <;> decide
  omega
theorem rowN_len3 (p : Pn) (L : List Pt) : 2 * (rowN p L L.length).length ≤ 3 * L.length := by
  have h := rowN_half p L L.length (Nat.le_refl _)
  rw [Nat.mod_self] at h
  omega
theorem leftL_len3 (p : Pn) (L : List Pt) : 2 * (leftL p L).length ≤ 3 * L.length := by
  have h0 := rowN_len3 p L
  have h1 : (outL p L).length ≤ (rowN p L L.length).length := dd_len _ _
  have h2 := lastL_len (outL p L)
  unfold leftL
  split
  · simp
  · omega
theorem both_len3 (xs ys : Nat → Nat) (n : Nat) (L : List Pt) : ∀ k, 2 ^ k * (bothL xs ys n L k).length ≤ 3 ^ k * L.length := by
  intro k
  induction k with
  | zero => simp [bothL]
  | succ k ih =>
    have h := leftL_len3 (sdP xs ys n k) (bothL xs ys n L k)
    show 2 ^ (k + 1) * (leftL (sdP xs ys n k) (bothL xs ys n L k)).length ≤ _
    rw [Nat.pow_succ, Nat.pow_succ, Nat.mul_assoc]
    calc 2 ^ k * (2 * (leftL (sdP xs ys n k) (bothL xs ys n L k)).length) ≤ 2 ^ k * (3 * (bothL xs ys n L k).length) := Nat.mul_le_mul_left _ h
      _ = 3 * (2 ^ k * (bothL xs ys n L k).length) := by rw [← Nat.mul_assoc, ← Nat.mul_assoc, Nat.mul_comm (2 ^ k) 3]
      _ ≤ 3 * (3 ^ k * L.length) := Nat.mul_le_mul_left _ ih
      _ = 3 ^ k * 3 * L.length := by rw [← Nat.mul_assoc, Nat.mul_comm 3 (3 ^ k)]
/-- of 64 sides and 64 points no row is greater than so -/
theorem both_cap {xs ys : Nat → Nat} {n : Nat} {L : List Pt} (hL : L.length ≤ 64) {k : Nat} (hk : k ≤ 63) : (bothL xs ys n L k).length ≤ 8000000000000 := by
  have h := both_len3 xs ys n L k
  have h2 : 2 ^ (63 - k) * (2 ^ k * (bothL xs ys n L k).length) ≤ 2 ^ (63 - k) * (3 ^ k * L.length) := Nat.mul_le_mul_left _ h
  have h3 : 2 ^ (63 - k) * 3 ^ k ≤ 3 ^ (63 - k) * 3 ^ k := Nat.mul_le_mul_right _ (Nat.pow_le_pow_left (by decide) _)
  rw [← Nat.mul_assoc, ← Nat.pow_add, ← Nat.mul_assoc, show 63 - k + k = 63 by omega] at h2
  rw [← Nat.pow_add, show 63 - k + k = 63 by omega] at h3
  have h4 : 2 ^ (63 - k) * 3 ^ k * L.length ≤ 3 ^ 63 * 64 := Nat.mul_le_mul h3 hL
  have h5 : 2 ^ 63 * (bothL xs ys n L k).length ≤ 3 ^ 63 * 64 := Nat.le_trans h2 h4
  have e1 : (2 : Nat) ^ 63 = 9223372036854775808 := by decide
  have e2 : (3 : Nat) ^ 63 * 64 = 73251921499573599672700780571328 := by decide
  rw [e1] at h5
  omega
end Go.Proofs.Ytpedpgpgcmhnoaa
