/-
  What each function of package poly answers, and what the reference of its chapter answers: one contract a function, for every float: the answer stands in the relation of its formula to what was given; of the memory that was there nothing has turned.
-/
import Derived.Test.YtchfgaooogfkdaaVec
import Derived.Test.YtchfgaooogfkdaaXu
import Derived.Below
import Derived.OwnWalk
import Derived.Laws.AppendOwn
import Derived.Lib.SliceRun
import Derived.Laws.MakeOwn
import Derived.WalkKit
import Derived.WalkLawsBesides
import Derived.WalkSpells
import Derived.ProofKit
import Derived.OpenShut
import Derived.Deep.RegionHeld3
namespace Go.Proofs.Ytchfgaooogfkdaa
open Go.ChangeShapes Go.WideShapes Go.ChangeAt Go.RowKit
set_option linter.unusedVariables false
set_option linter.unusedSimpArgs false


/-- a still told in its words (no number being one word) -/
def cS (s : SD) : Prop := bitsK s.sx = s.sx ∧ bitsK s.sy = s.sy ∧ bitsK s.ss = s.ss
theorem tl_c (s : SD) : cS (tlS s) := ⟨bits_bits _, bits_bits _, bits_bits _⟩
theorem no_push {s : SD} (h : mvB s = false) (c : cS s) (gx gy g P : Nat) : puM s gx gy g P = s := by
  unfold mvB at h
  rw [Bool.or_eq_false_iff] at h
  unfold puM puX puT
  rw [h.1, h.2]
  simp only [Bool.false_eq_true, if_false]
  rw [c.1, c.2.1, c.2.2]
theorem no_one {T : RD} {a b : SD} (h : mvB a = false) (c : cS a) : onA T a b = a := by
  unfold onA onX
  cases mvB a || mvB b
  · rfl
  · cases slB T a b
    · rfl
    · exact no_push h c _ _ _ _
theorem no_oneB {T : RD} {a b : SD} (h : mvB b = false) (c : cS b) : onB T a b = b := by
  unfold onB onY
  cases mvB a || mvB b
  · rfl
  · cases slB T a b
    · rfl
    · exact no_push h c _ _ _ _
theorem on_mass (T : RD) (a b : SD) : ((onA T a b).sm = a.sm ∧ (onA T a b).si = a.si) ∧ ((onB T a b).sm = b.sm ∧ (onB T a b).si = b.si) := by
  unfold onA onB onX onY
  cases mvB a || mvB b <;> cases slB T a b <;> exact ⟨⟨rfl, rfl⟩, rfl, rfl⟩
/-- stills of a list of rows: what it does not touch, or can't move, stays; masses stay -/
structure Al (Q : Nat → RD) (n : Nat) (M F : Nat → SD) : Prop where
  st : ∀ i, (mvB (M i) = false ∨ tchB Q n i = false) → F i = M i
  ms : ∀ i, (F i).sm = (M i).sm ∧ (F i).si = (M i).si
theorem Al.refl (Q : Nat → RD) (n : Nat) (M : Nat → SD) : Al Q n M M := ⟨fun _ _ => rfl, fun _ => ⟨rfl, rfl⟩⟩
theorem tch_at {Q : Nat → RD} {n k : Nat} (hk : k < n) : tchB Q n (Q k).ra.toNat = true ∧ tchB Q n (Q k).rb.toNat = true := by
  unfold tchB
  exact ⟨anyN_at (k := k) (by simp) hk, anyN_at (k := k) (by simp) hk⟩
theorem Al.step {Q : Nat → RD} {n k : Nat} {M F : Nat → SD} (h : Al Q n M F) (hk : k < n) {x y : SD} (hx : mvB (M (Q k).ra.toNat) = false → x = M (Q k).ra.toNat) (hy : mvB (M (Q k).rb.toNat) = false → y = M (Q k).rb.toNat) (mx : x.sm = (M (Q k).ra.toNat).sm ∧ x.si = (M (Q k).ra.toNat).si) (my : y.sm = (M (Q k).rb.toNat).sm ∧ y.si = (M (Q k).rb.toNat).si) : Al Q n M (setF (setF F (Q k).ra.toNat x) (Q k).rb.toNat y) := by
  have ht := tch_at (Q := Q) hk
  refine ⟨fun i hi => ?_, fun i => ?_⟩
  · unfold setF
    split
    · subst i
      rcases hi with hi | hi
      · exact hy hi
      · rw [ht.2] at hi; cases hi
    · split
      · subst i
        rcases hi with hi | hi
        · exact hx hi
        · rw [ht.1] at hi; cases hi
      · exact h.st i hi
  · unfold setF
    split
    · subst i; exact my
    · split
      · subst i; exact mx
      · exact h.ms i
theorem push_ok {s m : SD} (c : cS m) (e : mvB m = false → s = m) (gx gy g P : Nat) : mvB m = false → puM s gx gy g P = m := fun h => by rw [e h]; exact no_push h c _ _ _ _
/-- a list warmed by itself -/
theorem warm_al {Q : Nat → RD} {n : Nat} {M : Nat → SD} (c : ∀ i, cS (M i)) : ∀ k, k ≤ n → Al Q n M (warmM Q M k)
  | 0, _ => Al.refl _ _ _
  | k + 1, hk => by
    have h := warm_al (Q := Q) (n := n) c k (by omega)
    exact h.step (by omega) (push_ok (c _) (fun hm => h.st _ (.inl hm)) _ _ _ _) (push_ok (c _) (fun hm => h.st _ (.inl hm)) _ _ _ _) (h.ms _) (h.ms _)
theorem warm_succ (Q : Nat → RD) (M : Nat → SD) (k : Nat) : warmM Q M (k + 1) = setF (setF (warmM Q M k) (Q k).ra.toNat (puM (warmM Q M k (Q k).ra.toNat) (Q k).r2 (Q k).r3 (Q k).r6 (bitsK (Q k).r11))) (Q k).rb.toNat (puM (warmM Q M k (Q k).rb.toNat) (Q k).r4 (Q k).r5 (Q k).r7 (bitsK (Q k).r11)) := rfl
end Go.Proofs.Ytchfgaooogfkdaa
