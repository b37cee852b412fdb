/-
  What each function of package poly answers, and what the reference of its chapter answers: one contract a function, for every float: the answer stands in the relation of its formula to what was given; of the memory that was there nothing has turned.
-/
import Derived.Test.YtchfgaooogfkdaaVec
import Derived.Test.YtchfgaooogfkdaaXw
import Derived.Below
import Derived.OwnWalk
import Derived.Laws.AppendOwn
import Derived.Lib.SliceRun
import Derived.Laws.MakeOwn
import Derived.WalkKit
import Derived.WalkLawsBesides
import Derived.WalkSpells
import Derived.ProofKit
import Derived.OpenShut
import Derived.Deep.RegionHeld3
namespace Go.Proofs.Ytchfgaooogfkdaa
open Go.ChangeShapes Go.WideShapes Go.ChangeAt Go.RowKit
set_option linter.unusedVariables false
set_option linter.unusedSimpArgs false


theorem anyN_iff {p : Nat → Bool} {n : Nat} : anyN p n = true ↔ ∃ i, i < n ∧ p i = true := by
  constructor
  · intro h
    apply Classical.byContradiction
    intro hn
    have : anyN p n = false := anyN_of (fun i hi => by
      cases hp : p i with
      | false => rfl
      | true => exact absurd ⟨i, hi, hp⟩ hn)
    rw [this] at h
    cases h
  · rintro ⟨i, hi, hp⟩
    exact anyN_at hp hi
theorem tch_iff {Q : Nat → RD} {n i : Nat} : tchB Q n i = true ↔ ∃ k, k < n ∧ ((Q k).ra.toNat = i ∨ (Q k).rb.toNat = i) := by
  unfold tchB
  rw [anyN_iff]
  constructor
  · rintro ⟨k, hk, hp⟩
    exact ⟨k, hk, by simpa using hp⟩
  · rintro ⟨k, hk, hp⟩
    exact ⟨k, hk, by simpa using hp⟩
/-- Apart says what it should -/
theorem ap_iff {Q P : Nat → RD} {n m : Nat} {S : Nat → SD} : apB Q n P m S = true ↔ ∀ i, mvB (S i) = true → tchB P m i = true → tchB Q n i = false := by
  unfold apB
  rw [Bool.not_eq_true']
  constructor
  · intro h i hm ht
    obtain ⟨k, hk, hp⟩ := tch_iff.1 ht
    have h1 := anyN_no h k hk
    rw [Bool.or_eq_false_iff, Bool.and_eq_false_iff, Bool.and_eq_false_iff] at h1
    rcases hp with rfl | rfl
    · rcases h1.1 with h2 | h2
      · exact h2
      · rw [hm] at h2; cases h2
    · rcases h1.2 with h2 | h2
      · exact h2
      · rw [hm] at h2; cases h2
  · intro h
    refine anyN_of (fun k hk => ?_)
    have ht := tch_at (Q := P) hk
    rw [Bool.or_eq_false_iff, Bool.and_eq_false_iff, Bool.and_eq_false_iff]
    constructor
    · cases hm : mvB (S (P k).ra.toNat)
      · exact .inr rfl
      · exact .inl (h _ hm ht.1)
    · cases hm : mvB (S (P k).rb.toNat)
      · exact .inr rfl
      · exact .inl (h _ hm ht.2)
theorem ap_sym (Q P : Nat → RD) (n m : Nat) (S : Nat → SD) : apB Q n P m S = apB P m Q n S := by
  have one : ∀ Q P n m, apB Q n P m S = true → apB P m Q n S = true := fun Q P n m h => by
    rw [ap_iff] at h ⊢
    intro i hm ht
    cases hp : tchB P m i with
    | false => rfl
    | true => rw [h i hm hp] at ht; cases ht
  cases h1 : apB Q n P m S
  · cases h2 : apB P m Q n S
    · rfl
    · rw [one _ _ _ _ h2] at h1; cases h1
  · exact (one _ _ _ _ h1).symm
theorem sh_may {n : Nat} {R : RD} (h : mayB R = true) : mayB (shR n R) = true := by
  unfold shR
  split
  · unfold mayB at h ⊢
    simp only [Bool.and_eq_true, decide_eq_true_eq] at h ⊢
    obtain ⟨h1, h2, h3, h4, h5⟩ := h
    exact ⟨h1, h2, h3, by omega, h5⟩
  · exact h
theorem jo_ch {Q P : Nat → RD} {n m : Nat} {sn : Int} (h : ∀ i, i < n → chB (Q i) n sn = true) (g : ∀ i, i < m → chB (P i) m sn = true) : ∀ i, i < n + m → chB (joQ Q n P i) ((n + m : Nat) : Int) sn = true := fun i hi => by
  rcases Nat.lt_or_ge i n with hl | hl
  · have h1 := h i hl
    rw [jo_lt hl]
    unfold chB at h1 ⊢
    simp only [Bool.and_eq_true, decide_eq_true_eq] at h1 ⊢
    exact ⟨h1.1, h1.2.1, h1.2.2.1, by omega⟩
  · obtain ⟨k, rfl⟩ : ∃ k, i = n + k := ⟨i - n, by omega⟩
    have h1 := g k (by omega)
    rw [jo_ge]
    unfold chB at h1 ⊢
    simp only [Bool.and_eq_true, decide_eq_true_eq] at h1 ⊢
    obtain ⟨f1, f2, _⟩ := sh_f n (P k)
    refine ⟨sh_may h1.1, by rw [f1]; exact h1.2.1, by rw [f2]; exact h1.2.2.1, ?_⟩
    unfold shR
    split
    · dsimp only; omega
    · omega
theorem sh_rok {n : Nat} {R : RD} (h : rok R) : rok (shR n R) := by unfold shR; split <;> exact h
theorem jo_rok {Q P : Nat → RD} {n m : Nat} (h : ∀ i, i < n → rok (Q i)) (g : ∀ i, i < m → rok (P i)) : ∀ i, i < n + m → rok (joQ Q n P i) := fun i hi => by
  rcases Nat.lt_or_ge i n with hl | hl
  · rw [jo_lt hl]; exact h i hl
  · obtain ⟨k, rfl⟩ : ∃ k, i = n + k := ⟨i - n, by omega⟩
    rw [jo_ge]; exact sh_rok (g k (by omega))
/-- two lists that may be, one behind the other, may be -/
theorem jo_as {Q P : Nat → RD} {n m sn : Nat} {S : Nat → SD} (h : asE Q n S sn = 0) (g : asE P m S sn = 0) (hs : n + m ≤ 1048576) : asE (joQ Q n P) (n + m) S sn = 0 := by
  obtain ⟨_, h2, h3, h4⟩ := asE_zero h
  obtain ⟨_, _, g3, _⟩ := asE_zero g
  exact asE_of hs h2 (jo_ch h3 g3) h4
theorem row_of {Q : Nat → RD} {n : Nat} {sn : Int} (h : ∀ i, i < n → chB (Q i) n sn = true) : ∀ i, i < n → (Q i).ro < n := fun i hi => by
  have h1 := h i hi
  unfold chB at h1
  simp only [Bool.and_eq_true, decide_eq_true_eq] at h1
  exact h1.2.2.2
/-- the law's 'has' of a still's number is tchB -/
theorem has_tch {Q : Nat → RD} {n : Nat} {sn : Int} (h : ∀ i, i < n → chB (Q i) n sn = true) (k : Nat) : anyN (fun i => decide ((Q i).ra = (k : Int)) || decide ((Q i).rb = (k : Int))) n = tchB Q n k := by
  have e : ∀ i, i < n → (decide ((Q i).ra = (k : Int)) || decide ((Q i).rb = (k : Int))) = (decide ((Q i).ra.toNat = k) || decide ((Q i).rb.toNat = k)) := fun i hi => by
    have h1 := h i hi
    unfold chB mayB at h1
    simp only [Bool.and_eq_true, decide_eq_true_eq] at h1
    have a1 : decide ((Q i).ra = (k : Int)) = decide ((Q i).ra.toNat = k) := decide_eq_decide.2 (by omega)
    have a2 : decide ((Q i).rb = (k : Int)) = decide ((Q i).rb.toNat = k) := decide_eq_decide.2 (by omega)
    rw [a1, a2]
  have g : ∀ j, j ≤ n → anyN (fun i => decide ((Q i).ra = (k : Int)) || decide ((Q i).rb = (k : Int))) j = tchB Q j k := by
    intro j
    induction j with
    | zero => intro _; rfl
    | succ j ih =>
      intro hj
      show (anyN _ j || _) = (anyN _ j || _)
      rw [ih (by omega)]
      dsimp only
      rw [e j (by omega)]
      rfl
  exact g n (Nat.le_refl _)

end Go.Proofs.Ytchfgaooogfkdaa
