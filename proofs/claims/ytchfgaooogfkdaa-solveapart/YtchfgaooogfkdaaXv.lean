/-
  What each function of package poly answers, and what the reference of its chapter answers: one contract a function, for every float: the answer stands in the relation of its formula to what was given; of the memory that was there nothing has turned.
-/
import Derived.Test.YtchfgaooogfkdaaVec
import Derived.Test.YtchfgaooogfkdaaXu
import Derived.Below
import Derived.OwnWalk
import Derived.Laws.AppendOwn
import Derived.Lib.SliceRun
import Derived.Laws.MakeOwn
import Derived.WalkKit
import Derived.WalkLawsBesides
import Derived.WalkSpells
import Derived.ProofKit
import Derived.OpenShut
import Derived.Deep.RegionHeld3
namespace Go.Proofs.Ytchfgaooogfkdaa
open Go.ChangeShapes Go.WideShapes Go.ChangeAt Go.RowKit
set_option linter.unusedVariables false
set_option linter.unusedSimpArgs false


/-- a still told in its words (no number being one word) -/
def cS (s : SD) : Prop := bitsK s.sx = s.sx ∧ bitsK s.sy = s.sy ∧ bitsK s.ss = s.ss
theorem tl_c (s : SD) : cS (tlS s) := ⟨bits_bits _, bits_bits _, bits_bits _⟩
theorem no_push {s : SD} (h : mvB s = false) (c : cS s) (gx gy g P : Nat) : puM s gx gy g P = s := by
  unfold mvB at h
  rw [Bool.or_eq_false_iff] at h
  unfold puM puX puT
  rw [h.1, h.2]
  simp only [Bool.false_eq_true, if_false]
  rw [c.1, c.2.1, c.2.2]
theorem no_one {T : RD} {a b : SD} (h : mvB a = false) (c : cS a) : onA T a b = a := by
  unfold onA onX
  cases mvB a || mvB b
  · rfl
  · cases slB T a b
    · rfl
    · exact no_push h c _ _ _ _
theorem no_oneB {T : RD} {a b : SD} (h : mvB b = false) (c : cS b) : onB T a b = b := by
  unfold onB onY
  cases mvB a || mvB b
  · rfl
  · cases slB T a b
    · rfl
    · exact no_push h c _ _ _ _
theorem on_mass (T : RD) (a b : SD) : ((onA T a b).sm = a.sm ∧ (onA T a b).si = a.si) ∧ ((onB T a b).sm = b.sm ∧ (onB T a b).si = b.si) := by
  unfold onA onB onX onY
  cases mvB a || mvB b <;> cases slB T a b <;> exact ⟨⟨rfl, rfl⟩, rfl, rfl⟩
/-- stills of a list of rows: what it does not touch, or can't move, stays; masses stay -/
structure Al (Q : Nat → RD) (n : Nat) (M F : Nat → SD) : Prop where
  st : ∀ i, (mvB (M i) = false ∨ tchB Q n i = false) → F i = M i
  ms : ∀ i, (F i).sm = (M i).sm ∧ (F i).si = (M i).si
theorem Al.refl (Q : Nat → RD) (n : Nat) (M : Nat → SD) : Al Q n M M := ⟨fun _ _ => rfl, fun _ => ⟨rfl, rfl⟩⟩
theorem tch_at {Q : Nat → RD} {n k : Nat} (hk : k < n) : tchB Q n (Q k).ra.toNat = true ∧ tchB Q n (Q k).rb.toNat = true := by
  unfold tchB
  exact ⟨anyN_at (k := k) (by simp) hk, anyN_at (k := k) (by simp) hk⟩
theorem Al.step {Q : Nat → RD} {n k : Nat} {M F : Nat → SD} (h : Al Q n M F) (hk : k < n) {x y : SD} (hx : mvB (M (Q k).ra.toNat) = false → x = M (Q k).ra.toNat) (hy : mvB (M (Q k).rb.toNat) = false → y = M (Q k).rb.toNat) (mx : x.sm = (M (Q k).ra.toNat).sm ∧ x.si = (M (Q k).ra.toNat).si) (my : y.sm = (M (Q k).rb.toNat).sm ∧ y.si = (M (Q k).rb.toNat).si) : Al Q n M (setF (setF F (Q k).ra.toNat x) (Q k).rb.toNat y) := by
  have ht := tch_at (Q := Q) hk
  refine ⟨fun i hi => ?_, fun i => ?_⟩
  · unfold setF
    split
    · subst i
      rcases hi with hi | hi
      · exact hy hi
      · rw [ht.2] at hi; cases hi
    · split
      · subst i
        rcases hi with hi | hi
        · exact hx hi
        · rw [ht.1] at hi; cases hi
      · exact h.st i hi
  · unfold setF
    split
    · subst i; exact my
    · split
      · subst i; exact mx
      · exact h.ms i
/-- two lists' stills laid together -/
def mrg (Q : Nat → RD) (n : Nat) (M F G : Nat → SD) : Nat → SD := fun i => bif mvB (M i) then (bif tchB Q n i then F i else G i) else M i
theorem mrg_left {Q : Nat → RD} {n k : Nat} {M F G : Nat → SD} (hk : k < n) {x y : SD} (hx : mvB (M (Q k).ra.toNat) = false → x = M (Q k).ra.toNat) (hy : mvB (M (Q k).rb.toNat) = false → y = M (Q k).rb.toNat) : mrg Q n M (setF (setF F (Q k).ra.toNat x) (Q k).rb.toNat y) G = setF (setF (mrg Q n M F G) (Q k).ra.toNat x) (Q k).rb.toNat y := by
  have ht := tch_at (Q := Q) hk
  funext i
  by_cases e1 : i = (Q k).rb.toNat
  · subst e1
    rw [setF_at]
    unfold mrg
    rw [setF_at, ht.2]
    cases hm : mvB (M (Q k).rb.toNat)
    · exact (hy hm).symm
    · rfl
  · rw [setF_ne _ _ e1]
    by_cases e2 : i = (Q k).ra.toNat
    · subst e2
      rw [setF_at]
      unfold mrg
      rw [setF_ne _ _ e1, setF_at, ht.1]
      cases hm : mvB (M (Q k).ra.toNat)
      · exact (hx hm).symm
      · rfl
    · rw [setF_ne _ _ e2]
      unfold mrg
      rw [setF_ne _ _ e1, setF_ne _ _ e2]
theorem mrg_right {Q P : Nat → RD} {n m k : Nat} {M F G : Nat → SD} (ap : ∀ i, mvB (M i) = true → tchB P m i = true → tchB Q n i = false) (hk : k < m) {x y : SD} (hx : mvB (M (P k).ra.toNat) = false → x = M (P k).ra.toNat) (hy : mvB (M (P k).rb.toNat) = false → y = M (P k).rb.toNat) : mrg Q n M F (setF (setF G (P k).ra.toNat x) (P k).rb.toNat y) = setF (setF (mrg Q n M F G) (P k).ra.toNat x) (P k).rb.toNat y := by
  have ht := tch_at (Q := P) hk
  funext i
  by_cases e1 : i = (P k).rb.toNat
  · subst e1
    rw [setF_at]
    unfold mrg
    cases hm : mvB (M (P k).rb.toNat)
    · exact (hy hm).symm
    · rw [ap _ hm ht.2, setF_at]; rfl
  · rw [setF_ne _ _ e1]
    by_cases e2 : i = (P k).ra.toNat
    · subst e2
      rw [setF_at]
      unfold mrg
      cases hm : mvB (M (P k).ra.toNat)
      · exact (hx hm).symm
      · rw [ap _ hm ht.1, setF_ne _ _ e1, setF_at]; rfl
    · rw [setF_ne _ _ e2]
      unfold mrg
      rw [setF_ne _ _ e1, setF_ne _ _ e2]
theorem mrg_q {Q : Nat → RD} {n : Nat} {M F G : Nat → SD} (h : Al Q n M F) {i : Nat} (ht : tchB Q n i = true) : mrg Q n M F G i = F i := by
  unfold mrg
  cases hm : mvB (M i)
  · exact (h.st i (.inl hm)).symm
  · rw [ht]; rfl
theorem mrg_p {Q P : Nat → RD} {n m : Nat} {M F G : Nat → SD} (ap : ∀ i, mvB (M i) = true → tchB P m i = true → tchB Q n i = false) (h : Al P m M G) {i : Nat} (ht : tchB P m i = true) : mrg Q n M F G i = G i := by
  unfold mrg
  cases hm : mvB (M i)
  · exact (h.st i (.inl hm)).symm
  · rw [ap i hm ht]; rfl
theorem push_ok {s m : SD} (c : cS m) (e : mvB m = false → s = m) (gx gy g P : Nat) : mvB m = false → puM s gx gy g P = m := fun h => by rw [e h]; exact no_push h c _ _ _ _
/-- a list warmed by itself -/
theorem warm_al {Q : Nat → RD} {n : Nat} {M : Nat → SD} (c : ∀ i, cS (M i)) : ∀ k, k ≤ n → Al Q n M (warmM Q M k)
  | 0, _ => Al.refl _ _ _
  | k + 1, hk => by
    have h := warm_al (Q := Q) (n := n) c k (by omega)
    exact h.step (by omega) (push_ok (c _) (fun hm => h.st _ (.inl hm)) _ _ _ _) (push_ok (c _) (fun hm => h.st _ (.inl hm)) _ _ _ _) (h.ms _) (h.ms _)
theorem jo_lt {Q P : Nat → RD} {n k : Nat} (h : k < n) : joQ Q n P k = Q k := by unfold joQ; rw [if_pos h]
theorem jo_ge {Q P : Nat → RD} (n k : Nat) : joQ Q n P (n + k) = shR n (P k) := by unfold joQ; rw [if_neg (by omega), show n + k - n = k by omega]
theorem sh_f (n : Nat) (R : RD) : (shR n R).ra = R.ra ∧ (shR n R).rb = R.rb ∧ (shR n R).r2 = R.r2 ∧ (shR n R).r3 = R.r3 ∧ (shR n R).r4 = R.r4 ∧ (shR n R).r5 = R.r5 ∧ (shR n R).r6 = R.r6 ∧ (shR n R).r7 = R.r7 ∧ (shR n R).r11 = R.r11 := by
  unfold shR
  split <;> exact ⟨rfl, rfl, rfl, rfl, rfl, rfl, rfl, rfl, rfl⟩
theorem warm_succ (Q : Nat → RD) (M : Nat → SD) (k : Nat) : warmM Q M (k + 1) = setF (setF (warmM Q M k) (Q k).ra.toNat (puM (warmM Q M k (Q k).ra.toNat) (Q k).r2 (Q k).r3 (Q k).r6 (bitsK (Q k).r11))) (Q k).rb.toNat (puM (warmM Q M k (Q k).rb.toNat) (Q k).r4 (Q k).r5 (Q k).r7 (bitsK (Q k).r11)) := rfl
/-- two lists that are apart, warmed as one -/
theorem warm_left {Q P : Nat → RD} {n : Nat} {M : Nat → SD} (c : ∀ i, cS (M i)) : ∀ k, k ≤ n → warmM (joQ Q n P) M k = mrg Q n M (warmM Q M k) M
  | 0, _ => by
    funext i
    show M i = mrg Q n M M M i
    unfold mrg
    cases mvB (M i) <;> cases tchB Q n i <;> rfl
  | k + 1, hk => by
    have ih := warm_left (Q := Q) (P := P) (n := n) c k (by omega)
    have h := warm_al (Q := Q) (n := n) c k (by omega)
    have ht := tch_at (Q := Q) (n := n) (k := k) (by omega)
    show setF (setF (warmM (joQ Q n P) M k) _ _) _ _ = mrg Q n M (setF (setF (warmM Q M k) _ _) _ _) M
    rw [jo_lt (by omega), ih, mrg_q h ht.1, mrg_q h ht.2, mrg_left (by omega) (push_ok (c _) (fun hm => h.st _ (.inl hm)) _ _ _ _) (push_ok (c _) (fun hm => h.st _ (.inl hm)) _ _ _ _)]
theorem warm_both {Q P : Nat → RD} {n m : Nat} {M : Nat → SD} (c : ∀ i, cS (M i)) (ap : ∀ i, mvB (M i) = true → tchB P m i = true → tchB Q n i = false) : ∀ k, k ≤ m → warmM (joQ Q n P) M (n + k) = mrg Q n M (warmM Q M n) (warmM P M k)
  | 0, _ => warm_left c n (Nat.le_refl _)
  | k + 1, hk => by
    have ih := warm_both (Q := Q) (P := P) (n := n) (m := m) c ap k (by omega)
    have h := warm_al (Q := P) (n := m) c k (by omega)
    have ht := tch_at (Q := P) (n := m) (k := k) (by omega)
    obtain ⟨f1, f2, f3, f4, f5, f6, f7, f8, f9⟩ := sh_f n (P k)
    rw [show n + (k + 1) = (n + k) + 1 from rfl, warm_succ, warm_succ, jo_ge, f1, f2, f3, f4, f5, f6, f7, f8, f9, ih, mrg_p ap h ht.1, mrg_p ap h ht.2, mrg_right ap (by omega) (push_ok (c _) (fun hm => h.st _ (.inl hm)) _ _ _ _) (push_ok (c _) (fun hm => h.st _ (.inl hm)) _ _ _ _)]

end Go.Proofs.Ytchfgaooogfkdaa
