/-
  Plain facts that go together.
-/
import Derived.Test.YtchfgaooogfkdaaVec
import Derived.Test.YtchfgaooogfkdaaXu
import Derived.Below
import Derived.OwnWalk
import Derived.Laws.AppendOwn
import Derived.Lib.SliceRun
import Derived.Laws.MakeOwn
import Derived.WalkKit
import Derived.WalkLawsBesides
import Derived.WalkSpells
import Derived.ProofKit
import Derived.OpenShut
import Derived.Deep.RegionHeld3
namespace Go.Proofs.Ytchfgaooogfkdaa
open Go.ChangeShapes Go.WideShapes Go.ChangeAt Go.RowKit
set_option linter.unusedVariables false
set_option linter.unusedSimpArgs false


/-- stills of a list of rows: what it does not touch, or can't move, stays; masses stay -/
structure Al (Q : Nat → RD) (n : Nat) (M F : Nat → SD) : Prop where
  st : ∀ i, (mvB (M i) = false ∨ tchB Q n i = false) → F i = M i
  ms : ∀ i, (F i).sm = (M i).sm ∧ (F i).si = (M i).si
theorem Al.refl (Q : Nat → RD) (n : Nat) (M : Nat → SD) : Al Q n M M := ⟨fun _ _ => rfl, fun _ => ⟨rfl, rfl⟩⟩
theorem tch_at {Q : Nat → RD} {n k : Nat} (hk : k < n) : tchB Q n (Q k).ra.toNat = true ∧ tchB Q n (Q k).rb.toNat = true := by
  unfold tchB
  exact ⟨anyN_at (k := k) (by simp) hk, anyN_at (k := k) (by simp) hk⟩
theorem Al.step {Q : Nat → RD} {n k : Nat} {M F : Nat → SD} (h : Al Q n M F) (hk : k < n) {x y : SD} (hx : mvB (M (Q k).ra.toNat) = false → x = M (Q k).ra.toNat) (hy : mvB (M (Q k).rb.toNat) = false → y = M (Q k).rb.toNat) (mx : x.sm = (M (Q k).ra.toNat).sm ∧ x.si = (M (Q k).ra.toNat).si) (my : y.sm = (M (Q k).rb.toNat).sm ∧ y.si = (M (Q k).rb.toNat).si) : Al Q n M (setF (setF F (Q k).ra.toNat x) (Q k).rb.toNat y) := by
  have ht := tch_at (Q := Q) hk
  refine ⟨fun i hi => ?_, fun i => ?_⟩
  · unfold setF
    split
    · subst i
      rcases hi with hi | hi
      · exact hy hi
      · rw [ht.2] at hi; cases hi
    · split
      · subst i
        rcases hi with hi | hi
        · exact hx hi
        · rw [ht.1] at hi; cases hi
      · exact h.st i hi
  · unfold setF
    split
    · subst i; exact my
    · split
      · subst i; exact mx
      · exact h.ms i
end Go.Proofs.Ytchfgaooogfkdaa

namespace Go.Proofs.Ytchfgaooogfkdaa
open Go.ChangeShapes Go.WideShapes Go.ChangeAt Go.RowKit
set_option linter.unusedVariables false
set_option linter.unusedSimpArgs false


end Go.Proofs.Ytchfgaooogfkdaa

namespace Go.Proofs.Ytchfgaooogfkdaa
open Go.ChangeShapes Go.WideShapes Go.ChangeAt Go.RowKit
set_option linter.unusedVariables false
set_option linter.unusedSimpArgs false


theorem anyN_iff {p : Nat → Bool} {n : Nat} : anyN p n = true ↔ ∃ i, i < n ∧ p i = true := by
  constructor
  · intro h
    apply Classical.byContradiction
    intro hn
    have : anyN p n = false := anyN_of (fun i hi => by
      cases hp : p i with
      | false => rfl
      | true => exact absurd ⟨i, hi, hp⟩ hn)
    rw [this] at h
    cases h
  · rintro ⟨i, hi, hp⟩
    exact anyN_at hp hi
theorem tch_iff {Q : Nat → RD} {n i : Nat} : tchB Q n i = true ↔ ∃ k, k < n ∧ ((Q k).ra.toNat = i ∨ (Q k).rb.toNat = i) := by
  unfold tchB
  rw [anyN_iff]
  constructor
  · rintro ⟨k, hk, hp⟩
    exact ⟨k, hk, by simpa using hp⟩
  · rintro ⟨k, hk, hp⟩
    exact ⟨k, hk, by simpa using hp⟩
/-- Apart says what it should -/
theorem ap_iff {Q P : Nat → RD} {n m : Nat} {S : Nat → SD} : apB Q n P m S = true ↔ ∀ i, mvB (S i) = true → tchB P m i = true → tchB Q n i = false := by
  unfold apB
  rw [Bool.not_eq_true']
  constructor
  · intro h i hm ht
    obtain ⟨k, hk, hp⟩ := tch_iff.1 ht
    have h1 := anyN_no h k hk
    rw [Bool.or_eq_false_iff, Bool.and_eq_false_iff, Bool.and_eq_false_iff] at h1
    rcases hp with rfl | rfl
    · rcases h1.1 with h2 | h2
      · exact h2
      · rw [hm] at h2; cases h2
    · rcases h1.2 with h2 | h2
      · exact h2
      · rw [hm] at h2; cases h2
  · intro h
    refine anyN_of (fun k hk => ?_)
    have ht := tch_at (Q := P) hk
    rw [Bool.or_eq_false_iff, Bool.and_eq_false_iff, Bool.and_eq_false_iff]
    constructor
    · cases hm : mvB (S (P k).ra.toNat)
      · exact .inr rfl
      · exact .inl (h _ hm ht.1)
    · cases hm : mvB (S (P k).rb.toNat)
      · exact .inr rfl
      · exact .inl (h _ hm ht.2)
/-- the law's 'has' of a still's number is tchB -/
theorem has_tch {Q : Nat → RD} {n : Nat} {sn : Int} (h : ∀ i, i < n → chB (Q i) n sn = true) (k : Nat) : anyN (fun i => decide ((Q i).ra = (k : Int)) || decide ((Q i).rb = (k : Int))) n = tchB Q n k := by
  have e : ∀ i, i < n → (decide ((Q i).ra = (k : Int)) || decide ((Q i).rb = (k : Int))) = (decide ((Q i).ra.toNat = k) || decide ((Q i).rb.toNat = k)) := fun i hi => by
    have h1 := h i hi
    unfold chB mayB at h1
    simp only [Bool.and_eq_true, decide_eq_true_eq] at h1
    have a1 : decide ((Q i).ra = (k : Int)) = decide ((Q i).ra.toNat = k) := decide_eq_decide.2 (by omega)
    have a2 : decide ((Q i).rb = (k : Int)) = decide ((Q i).rb.toNat = k) := decide_eq_decide.2 (by omega)
    rw [a1, a2]
  have g : ∀ j, j ≤ n → anyN (fun i => decide ((Q i).ra = (k : Int)) || decide ((Q i).rb = (k : Int))) j = tchB Q j k := by
    intro j
    induction j with
    | zero => intro _; rfl
    | succ j ih =>
      intro hj
      show (anyN _ j || _) = (anyN _ j || _)
      rw [ih (by omega)]
      dsimp only
      rw [e j (by omega)]
      rfl
  exact g n (Nat.le_refl _)

end Go.Proofs.Ytchfgaooogfkdaa

namespace Go.Proofs.Ytchfgaooogfkdaa
open Go.ChangeShapes Go.WideShapes Go.ChangeAt Go.RowKit
set_option linter.unusedVariables false
set_option linter.unusedSimpArgs false


end Go.Proofs.Ytchfgaooogfkdaa

namespace Go.Proofs.Ytchfgaooogfkdaa
open Go.ChangeShapes Go.WideShapes Go.ChangeAt Go.RowKit
set_option linter.unusedVariables false
set_option linter.unusedSimpArgs false


end Go.Proofs.Ytchfgaooogfkdaa
