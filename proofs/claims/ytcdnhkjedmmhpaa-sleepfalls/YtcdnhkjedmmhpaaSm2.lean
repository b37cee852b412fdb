/-
  What each function of package poly answers, and what the reference of its chapter answers: one contract a function, for every float: the answer stands in the relation of its formula to what was given; of the memory that was there nothing has turned.
-/
import Derived.Test.YtcdnhkjedmmhpaaVec
import Derived.Test.YtcdnhkjedmmhpaaSlv
import Derived.Test.YtcdnhkjedmmhpaaSm1
import Derived.Below
import Derived.WalkKit
import Derived.WalkLawsBesides
import Derived.WalkSpells
import Derived.ProofKit
import Derived.OpenShut
import Derived.Deep.RegionHeld3
namespace Go.Proofs.Ytcdnhkjedmmhpaa
open Go.ChangeShapes Go.WideShapes Go.ChangeAt Go.RowKit
set_option linter.unusedVariables false
set_option linter.unusedSimpArgs false


/-- the greatest of 1 and what each of the first so many lacks -/
def lfN (need : Nat) (cc : Nat → Nat) : Nat → Nat
  | 0 => 1
  | k + 1 => max (lfN need cc k) (need - cc k)
theorem lf_pos (need : Nat) (cc : Nat → Nat) : ∀ k, 1 ≤ lfN need cc k
  | 0 => Nat.le_refl _
  | k + 1 => by unfold lfN; have := lf_pos need cc k; omega
theorem lf_le (need : Nat) (cc : Nat → Nat) (h : 1 ≤ need) : ∀ k, lfN need cc k ≤ need
  | 0 => h
  | k + 1 => by unfold lfN; have := lf_le need cc h k; omega
theorem lf_spec (need : Nat) (cc : Nat → Nat) (m : Nat) (hm : 1 ≤ m) : ∀ k, lfN need cc k ≤ m ↔ ∀ i, i < k → need ≤ cc i + m
  | 0 => ⟨fun _ i hi => by omega, fun _ => hm⟩
  | k + 1 => by
    unfold lfN
    have h := lf_spec need cc m hm k
    constructor
    · intro h1 i hi
      rcases Nat.lt_or_ge i k with g | g
      · exact h.1 (by omega) i g
      · obtain rfl : i = k := by omega
        omega
    · intro h1
      have h2 := h.2 (fun i hi => h1 i (by omega))
      have h3 := h1 k (by omega)
      omega
/-- the slots behind so many Rests: calm so long, or asleep -/
def fE (n left : Nat) (cc : Nat → Nat) (j : Nat) : Nat → SL := fun i => if i < n then ⟨1, true, 3, decide (left ≤ j), ((cc i + min j left : Nat) : Int)⟩ else wS n i
/-- the slots while their Calm is set -/
def dE (n : Nat) (cc : Nat → Nat) (k : Nat) : Nat → SL := fun i => if i < k then ⟨1, true, 3, false, (cc i : Int)⟩ else wS n i
theorem dE_zero (n : Nat) (cc : Nat → Nat) : dE n cc 0 = wS n := by funext i; unfold dE; rw [if_neg (by omega)]
theorem dE_all (n left : Nat) (cc : Nat → Nat) (hl : 1 ≤ left) : dE n cc n = fE n left cc 0 := by
  funext i
  unfold dE fE
  by_cases h : i < n
  · rw [if_pos h, if_pos h, decide_eq_false (by omega), Nat.zero_min, Nat.add_zero]
  · rw [if_neg h, if_neg h]
theorem ctF_small (x : Nat) (h : x ≤ 1000) : ctF (x : Int) = ((x + 1 : Nat) : Int) := by
  unfold ctF
  rw [if_pos (by omega)]
  omega
theorem fE_in {n left : Nat} {cc : Nat → Nat} {j i : Nat} (h : i < n) : fE n left cc j i = ⟨1, true, 3, decide (left ≤ j), ((cc i + min j left : Nat) : Int)⟩ := by unfold fE; rw [if_pos h]
theorem fE_cnt (n left : Nat) (cc : Nat → Nat) (j : Nat) (hj : j + 1 < left) (hb : left ≤ 30) (hc : ∀ i, cc i ≤ 30) : cntS (fE n left cc j) n = fE n left cc (j + 1) := by
  funext i
  unfold cntS
  by_cases h : i < n
  · have := hc i
    rw [if_pos h, fE_in h, fE_in h]
    simp only []
    rw [ctF_small _ (by omega), decide_eq_false (by omega), decide_eq_false (by omega), show cc i + min j left + 1 = cc i + min (j + 1) left by omega]
  · rw [if_neg h]; unfold fE; rw [if_neg h, if_neg h]
theorem fE_lul (n left : Nat) (cc : Nat → Nat) (j : Nat) (hj : j + 1 = left) (hb : left ≤ 30) (hc : ∀ i, cc i ≤ 30) : lulS (cntS (fE n left cc j) n) n = fE n left cc (j + 1) := by
  funext i
  unfold lulS cntS
  by_cases h : i < n
  · have := hc i
    rw [if_pos h, if_pos h, fE_in h, fE_in h]
    simp only []
    rw [ctF_small _ (by omega), decide_eq_true (by omega), show cc i + min j left + 1 = cc i + min (j + 1) left by omega]
  · rw [if_neg h, if_neg h]; unfold fE; rw [if_neg h, if_neg h]
theorem fE_stay (n left : Nat) (cc : Nat → Nat) (j : Nat) (hj : left ≤ j) : fE n left cc (j + 1) = fE n left cc j := by
  funext i
  by_cases h : i < n
  · rw [fE_in h, fE_in h, decide_eq_true (by omega), decide_eq_true hj, show min (j + 1) left = min j left by omega]
  · unfold fE; rw [if_neg h, if_neg h]
theorem fE_aw (n left : Nat) (cc : Nat → Nat) (j : Nat) (hn : 1 ≤ n) : awB (fE n left cc j) n = !decide (left ≤ j) := by
  unfold awB
  by_cases h : left ≤ j
  · rw [decide_eq_true h]
    cases g : anyN (fun i => !(fE n left cc j i).a) n
    · rfl
    · exfalso
      have : ∀ m, m ≤ n → anyN (fun i => !(fE n left cc j i).a) m = false := by
        intro m
        induction m with
        | zero => intro _; rfl
        | succ k ih =>
          intro hk
          unfold anyN
          rw [ih (by omega), fE_in (by omega), decide_eq_true h]
          rfl
      rw [this n (Nat.le_refl _)] at g
      cases g
  · rw [decide_eq_false h]
    exact anyN_at (k := 0) (by rw [fE_in (by omega), decide_eq_false h]; rfl) (by omega)
theorem fE_as (n left : Nat) (cc : Nat → Nat) (j : Nat) : asN (fE n left cc j) n = if left ≤ j then n else 0 := by
  have : ∀ m, m ≤ n → asN (fE n left cc j) m = if left ≤ j then m else 0 := by
    intro m
    induction m with
    | zero => intro _; unfold asN; split <;> rfl
    | succ k ih =>
      intro hk
      unfold asN
      rw [ih (by omega), fE_in (by omega)]
      by_cases h : left ≤ j
      · simp [h]
      · simp [h]
  exact this n (Nat.le_refl _)
theorem fE_all (n left need : Nat) (cc : Nat → Nat) (j : Nat) (hj : j < left) (hb : left ≤ 30) (hc : ∀ i, cc i ≤ 30) : allB (fE n left cc j) (need : Int) n = true ↔ ∀ i, i < n → need ≤ cc i + (j + 1) := by
  have : ∀ m, m ≤ n → (allB (fE n left cc j) (need : Int) m = true ↔ ∀ i, i < m → need ≤ cc i + (j + 1)) := by
    intro m
    induction m with
    | zero => intro _; exact ⟨fun _ i hi => by omega, fun _ => rfl⟩
    | succ k ih =>
      intro hk
      have := hc k
      unfold allB
      rw [Bool.and_eq_true, ih (by omega), fE_in (by omega)]
      simp only []
      rw [ctF_small _ (by omega), decide_eq_true_iff]
      constructor
      · rintro ⟨h1, h2⟩ i hi
        rcases Nat.lt_or_ge i k with g | g
        · exact h1 i g
        · obtain rfl : i = k := by omega
          omega
      · intro h1
        exact ⟨fun i hi => h1 i (by omega), by have := h1 k (by omega); omega⟩
  exact this n (Nat.le_refl _)

end Go.Proofs.Ytcdnhkjedmmhpaa
