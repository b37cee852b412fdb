/-
  Plain facts on floats, more: rounding to the nearest rung, sums and products of finite floats, signs turned. No program is named here.
-/
import Derived.Test.YtekhnolpgoejdabGov
namespace Go.Proofs.Ytekhnolpgoejdab
open Ieee Go.RowKit
set_option linter.unusedSimpArgs false
set_option linter.unusedVariables false

/-! ### A box's partners among the pairs, and itself -/
theorem ov_self {b : Bo} (h : mayO b = true) : ovO b b = true := by
  obtain ⟨h1, h2⟩ := may_le h
  unfold ovO bOver
  rw [h1, h2]; rfl
theorem me_part (B : Nat → Bo) {n i K : Nat} (hi : i < n) (hK : K < n) : meO (B i) (B K) = ((decide (i = K) && mayO (B K)) || (refP B n).any (fun p => p == (i, K) || p == (K, i))) := by
  have e1 : ((refP B n).any (fun p => p == (i, K) || p == (K, i)) = true) ↔ ((i, K) ∈ refP B n ∨ (K, i) ∈ refP B n) := by
    rw [List.any_eq_true]
    constructor
    · rintro ⟨p, hp, e⟩
      simp only [Bool.or_eq_true, beq_iff_eq] at e
      rcases e with e | e
      · exact .inl (e ▸ hp)
      · exact .inr (e ▸ hp)
    · rintro (h | h)
      · exact ⟨_, h, by simp⟩
      · exact ⟨_, h, by simp⟩
  rw [Bool.eq_iff_iff, Bool.or_eq_true, e1, mem_refP, mem_refP]
  unfold meO
  simp only [Bool.and_eq_true, decide_eq_true_eq]
  constructor
  · rintro ⟨⟨h1, h2⟩, h3⟩
    rcases Nat.lt_trichotomy i K with h | h | h
    · exact .inr (.inl ⟨h, hK, h1, h2, h3⟩)
    · exact .inl ⟨h, h2⟩
    · exact .inr (.inr ⟨h, hi, h2, h1, by rw [ov_sym]; exact h3⟩)
  · rintro (⟨rfl, h2⟩ | ⟨_, _, h1, h2, h3⟩ | ⟨_, _, h1, h2, h3⟩)
    · exact ⟨⟨h2, h2⟩, ov_self h2⟩
    · exact ⟨⟨h1, h2⟩, h3⟩
    · exact ⟨⟨h2, h1⟩, by rw [ov_sym]; exact h3⟩
def inJ (c0 : Bool) (PL : List (Nat × Nat)) (i K j : Nat) : Bool := c0 || (PL.take j).any (fun p => p == (i, K) || p == (K, i))
theorem inJ_zero (c0 : Bool) (PL : List (Nat × Nat)) (i K : Nat) : inJ c0 PL i K 0 = c0 := by unfold inJ; simp
theorem inJ_succ {c0 : Bool} {PL : List (Nat × Nat)} {i K j : Nat} {p : Nat × Nat} (h : PL[j]? = some p) : inJ c0 PL i K (j + 1) = (inJ c0 PL i K j || (p.1 == i && p.2 == K) || (p.1 == K && p.2 == i)) := by
  unfold inJ
  rw [List.take_add_one, h, List.any_append]
  obtain ⟨a, b⟩ := p
  simp only [Option.toList_some, List.any_cons, List.any_nil, Bool.or_false]
  have e1 : ((a, b) == (i, K)) = (a == i && b == K) := rfl
  have e2 : ((a, b) == (K, i)) = (a == K && b == i) := rfl
  rw [e1, e2]
  cases c0 <;> cases (PL.take j).any _ <;> cases (a == i && b == K) <;> cases (a == K && b == i) <;> rfl
theorem inJ_all (c0 : Bool) (PL : List (Nat × Nat)) (i K : Nat) : inJ c0 PL i K PL.length = (c0 || PL.any (fun p => p == (i, K) || p == (K, i))) := by unfold inJ; rw [List.take_length]
theorem tmod_in (a : Int) (n : Nat) (h : 0 < n) : -(n : Int) < Int.tmod a n ∧ Int.tmod a n < (n : Int) := by
  refine ⟨?_, ?_⟩
  · rcases Int.le_total 0 a with h' | h'
    · have := Int.tmod_nonneg (n : Int) h'
      omega
    · have h1 := Int.tmod_nonneg (n : Int) (show (0 : Int) ≤ -a by omega)
      have h2 := Int.tmod_lt_of_pos (-a) (show (0 : Int) < (n : Int) by omega)
      rw [Int.neg_tmod] at h1 h2
      omega
  · exact Int.tmod_lt_of_pos a (by omega)
theorem at_in (a : Int) (n : Nat) (h : 0 < n) : ∃ K : Nat, Int.tmod (Int.tmod a n + n) n = (K : Int) ∧ K < n := by
  obtain ⟨h1, h2⟩ := tmod_in a n h
  have h3 := Int.tmod_nonneg (n : Int) (show (0 : Int) ≤ Int.tmod a n + n by omega)
  have h4 := Int.tmod_lt_of_pos (Int.tmod a n + n) (show (0 : Int) < (n : Int) by omega)
  exact ⟨(Int.tmod (Int.tmod a n + n) n).toNat, by omega, by omega⟩
end Go.Proofs.Ytekhnolpgoejdab
