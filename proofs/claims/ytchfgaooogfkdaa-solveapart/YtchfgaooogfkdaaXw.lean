/-
  What each function of package poly answers, and what the reference of its chapter answers: one contract a function, for every float: the answer stands in the relation of its formula to what was given; of the memory that was there nothing has turned.
-/
import Derived.Test.YtchfgaooogfkdaaVec
import Derived.Test.YtchfgaooogfkdaaXv
import Derived.Below
import Derived.OwnWalk
import Derived.Laws.AppendOwn
import Derived.Lib.SliceRun
import Derived.Laws.MakeOwn
import Derived.WalkKit
import Derived.WalkLawsBesides
import Derived.WalkSpells
import Derived.ProofKit
import Derived.OpenShut
import Derived.Deep.RegionHeld3
namespace Go.Proofs.Ytchfgaooogfkdaa
open Go.ChangeShapes Go.WideShapes Go.ChangeAt Go.RowKit
set_option linter.unusedVariables false
set_option linter.unusedSimpArgs false


theorem rnd_ids (Q : Nat → RD) (M : Nat → SD) : ∀ k i, ((rndM Q M k).1 i).ra = (Q i).ra ∧ ((rndM Q M k).1 i).rb = (Q i).rb ∧ ((rndM Q M k).1 i).ro = (Q i).ro
  | 0, _ => ⟨rfl, rfl, rfl⟩
  | k + 1, i => by
    have h := rnd_ids Q M k
    show RD.ra (setF _ _ _ i) = _ ∧ RD.rb (setF _ _ _ i) = _ ∧ RD.ro (setF _ _ _ i) = _
    unfold setF
    split
    · subst i
      obtain ⟨a1, a2, a3⟩ := on_ids (toR (rndM Q M k).1 k) ((rndM Q M k).2 ((rndM Q M k).1 k).ra.toNat) ((rndM Q M k).2 ((rndM Q M k).1 k).rb.toNat)
      obtain ⟨b1, b2, b3⟩ := to_ids (rndM Q M k).1 k
      obtain ⟨c1, c2, c3⟩ := h k
      exact ⟨a1.trans (b1.trans c1), a2.trans (b2.trans c2), a3.trans (b3.trans c3)⟩
    · exact h i
theorem sh_on (n : Nat) (T : RD) (a b : SD) : onR (shR n T) a b = shR n (onR T a b) ∧ onA (shR n T) a b = onA T a b ∧ onB (shR n T) a b = onB T a b := by
  have e : ∀ R : RD, R.ro = T.ro → shR n R = { R with ro := (shR n T).ro } := fun R h => by unfold shR; rw [h]; split <;> (cases R; simp_all)
  have k1 : slB (shR n T) a b = slB T a b := by unfold shR; split <;> rfl
  have k2 : quF (shR n T) a b = quF T a b := by unfold shR; split <;> rfl
  have k3 : dfF (shR n T) a b = dfF T a b := by unfold shR; split <;> rfl
  obtain ⟨f1, f2, f3, f4, f5, f6, f7, f8, f9⟩ := sh_f n T
  refine ⟨?_, ?_, ?_⟩
  · rw [e (onR T a b) (on_ids T a b).2.2]
    unfold onR onQ
    rw [k1, k2]
    cases mvB a || mvB b
    · rw [e T rfl]; rfl
    · cases slB T a b
      · rw [e T rfl]; rfl
      · rw [e T rfl]; rfl
  · unfold onA onX; rw [k1, k3, f3, f4, f7]
  · unfold onB onY; rw [k1, k3, f5, f6, f8]
theorem to_left {Q P : Nat → RD} {n k : Nat} (hk : k < n) (ho : (Q k).ro < n) : toR (joQ Q n P) k = toR Q k := by
  unfold toR
  rw [jo_lt hk]
  by_cases h : 0 ≤ (Q k).ro
  · rw [if_pos h, if_pos h, jo_lt (by omega)]
  · rw [if_neg h, if_neg h]
theorem to_right {Q P : Nat → RD} {n k : Nat} : toR (joQ Q n P) (n + k) = shR n (toR P k) := by
  unfold toR
  rw [jo_ge]
  by_cases h : 0 ≤ (P k).ro
  · have e1 : shR n (P k) = { P k with ro := (P k).ro + n } := by unfold shR; rw [if_pos h]
    have e2 : ((P k).ro + (n : Int)).toNat = n + (P k).ro.toNat := by omega
    rw [if_pos h, e1]
    dsimp only
    rw [if_pos (by omega), e2, jo_ge, (sh_f n (P (P k).ro.toNat)).2.2.2.2.2.2.2.2]
    unfold shR enF
    dsimp only
    rw [if_pos h]
  · have e1 : shR n (P k) = P k := by unfold shR; rw [if_neg h]
    rw [if_neg h, e1, if_neg h]
theorem set_left {Q P : Nat → RD} {n k : Nat} (hk : k < n) (X : RD) : setF (joQ Q n P) k X = joQ (setF Q k X) n P := by
  funext i
  by_cases e : i = k
  · subst e; rw [setF_at, jo_lt hk, setF_at]
  · rw [setF_ne _ _ e]
    unfold joQ
    split
    · rw [setF_ne _ _ e]
    · rfl
theorem set_right {Q P : Nat → RD} (n k : Nat) (X : RD) : setF (joQ Q n P) (n + k) (shR n X) = joQ Q n (setF P k X) := by
  funext i
  by_cases e : i = n + k
  · subst e; rw [setF_at, jo_ge, setF_at]
  · rw [setF_ne _ _ e]
    unfold joQ
    split
    · rfl
    · rw [setF_ne _ _ (by omega)]
/-- rows of the same bodies -/
def ids (Q1 Q : Nat → RD) : Prop := ∀ i, (Q1 i).ra = (Q i).ra ∧ (Q1 i).rb = (Q i).rb ∧ (Q1 i).ro = (Q i).ro
theorem ids.rnd {Q1 Q : Nat → RD} (h : ids Q1 Q) (F : Nat → SD) (k : Nat) : ids (rndM Q1 F k).1 Q := fun i => by
  obtain ⟨a1, a2, a3⟩ := rnd_ids Q1 F k i
  obtain ⟨b1, b2, b3⟩ := h i
  exact ⟨a1.trans b1, a2.trans b2, a3.trans b3⟩
theorem rnd_al {Q Q1 : Nat → RD} {n : Nat} {M F : Nat → SD} (c : ∀ i, cS (M i)) (hi : ids Q1 Q) (h0 : Al Q n M F) : ∀ k, k ≤ n → Al Q n M (rndM Q1 F k).2
  | 0, _ => h0
  | k + 1, hk => by
    have h := rnd_al c hi h0 k (by omega)
    obtain ⟨a1, a2, _⟩ := hi.rnd F k k
    obtain ⟨Q2, F2, eP⟩ : ∃ Q2 F2, rndM Q1 F k = (Q2, F2) := ⟨_, _, rfl⟩
    rw [eP] at h a1 a2
    rw [rnd_succ eP]
    dsimp only at h a1 a2 ⊢
    rw [a1, a2]
    have hm := on_mass (toR Q2 k) (F2 (Q k).ra.toNat) (F2 (Q k).rb.toNat)
    refine h.step (by omega) (fun e => ?_) (fun e => ?_) ⟨hm.1.1.trans (h.ms _).1, hm.1.2.trans (h.ms _).2⟩ ⟨hm.2.1.trans (h.ms _).1, hm.2.2.trans (h.ms _).2⟩
    · rw [h.st _ (.inl e)]; exact no_one e (c _)
    · rw [h.st _ (.inl e)]; exact no_oneB e (c _)
theorem rnd_left {Q Q1 P1 : Nat → RD} {n : Nat} {M F G : Nat → SD} (c : ∀ i, cS (M i)) (hi : ids Q1 Q) (ho : ∀ i, i < n → (Q i).ro < n) (h0 : Al Q n M F) : ∀ k, k ≤ n → rndM (joQ Q1 n P1) (mrg Q n M F G) k = (joQ (rndM Q1 F k).1 n P1, mrg Q n M (rndM Q1 F k).2 G)
  | 0, _ => rfl
  | k + 1, hk => by
    have ih := rnd_left (P1 := P1) (G := G) c hi ho h0 k (by omega)
    have h := rnd_al c hi h0 k (by omega)
    obtain ⟨a1, a2, a3⟩ := hi.rnd F k k
    have hok := ho k (by omega)
    have ht := tch_at (Q := Q) (n := n) (k := k) (by omega)
    obtain ⟨Q2, F2, eP⟩ : ∃ Q2 F2, rndM Q1 F k = (Q2, F2) := ⟨_, _, rfl⟩
    rw [eP] at h a1 a2 a3 ih
    rw [rnd_succ ih, rnd_succ eP]
    dsimp only at h a1 a2 a3 ⊢
    rw [jo_lt (show k < n by omega), to_left (show k < n by omega) (by rw [a3]; exact hok), a1, a2, mrg_q h ht.1, mrg_q h ht.2, set_left (show k < n by omega)]
    congr 1
    refine (mrg_left (by omega) (fun e => ?_) (fun e => ?_)).symm
    · rw [h.st _ (.inl e)]; exact no_one e (c _)
    · rw [h.st _ (.inl e)]; exact no_oneB e (c _)
theorem rnd_both {Q Q1 P P1 : Nat → RD} {n m : Nat} {M F G : Nat → SD} (c : ∀ i, cS (M i)) (ap : ∀ i, mvB (M i) = true → tchB P m i = true → tchB Q n i = false) (hi : ids Q1 Q) (hj : ids P1 P) (ho : ∀ i, i < n → (Q i).ro < n) (h0 : Al Q n M F) (g0 : Al P m M G) : ∀ k, k ≤ m → rndM (joQ Q1 n P1) (mrg Q n M F G) (n + k) = (joQ (rndM Q1 F n).1 n (rndM P1 G k).1, mrg Q n M (rndM Q1 F n).2 (rndM P1 G k).2)
  | 0, _ => rnd_left c hi ho h0 n (Nat.le_refl _)
  | k + 1, hk => by
    have ih := rnd_both c ap hi hj ho h0 g0 k (by omega)
    have h := rnd_al c hj g0 k (by omega)
    obtain ⟨a1, a2, a3⟩ := hj.rnd G k k
    have ht := tch_at (Q := P) (n := m) (k := k) (by omega)
    obtain ⟨P2, G2, eP⟩ : ∃ P2 G2, rndM P1 G k = (P2, G2) := ⟨_, _, rfl⟩
    rw [eP] at h a1 a2 a3 ih
    rw [show n + (k + 1) = (n + k) + 1 from rfl, rnd_succ ih, rnd_succ eP]
    dsimp only at h a1 a2 a3 ⊢
    obtain ⟨f1, f2, _⟩ := sh_f n (P2 k)
    rw [jo_ge, to_right, f1, f2, a1, a2, mrg_p ap h ht.1, mrg_p ap h ht.2]
    obtain ⟨s1, s2, s3⟩ := sh_on n (toR P2 k) (G2 (P k).ra.toNat) (G2 (P k).rb.toNat)
    rw [s1, s2, s3, set_right]
    congr 1
    refine (mrg_right ap (by omega) (fun e => ?_) (fun e => ?_)).symm
    · rw [h.st _ (.inl e)]; exact no_one e (c _)
    · rw [h.st _ (.inl e)]; exact no_oneB e (c _)
/-- WHAT IS APART IS SOLVED APART, of the model: all rounds -/
theorem it_apart {Q P : Nat → RD} {n m : Nat} {M : Nat → SD} (c : ∀ i, cS (M i)) (ap : ∀ i, mvB (M i) = true → tchB P m i = true → tchB Q n i = false) (ho : ∀ i, i < n → (Q i).ro < n) : ∀ t, itM (joQ Q n P) M (n + m) t = (joQ (itM Q M n t).1 n (itM P M m t).1, mrg Q n M (itM Q M n t).2 (itM P M m t).2) ∧ ids (itM Q M n t).1 Q ∧ ids (itM P M m t).1 P ∧ Al Q n M (itM Q M n t).2 ∧ Al P m M (itM P M m t).2
  | 0 => ⟨by show (_, _) = (_, _); rw [warm_both c ap m (Nat.le_refl _)]; rfl, fun _ => ⟨rfl, rfl, rfl⟩, fun _ => ⟨rfl, rfl, rfl⟩, warm_al c n (Nat.le_refl _), warm_al c m (Nat.le_refl _)⟩
  | t + 1 => by
    obtain ⟨h1, h2, h3, h4, h5⟩ := it_apart (M := M) c ap ho t
    refine ⟨?_, h2.rnd _ n, h3.rnd _ m, rnd_al c h2 h4 n (Nat.le_refl _), rnd_al c h3 h5 m (Nat.le_refl _)⟩
    show rndM (itM (joQ Q n P) M (n + m) t).1 (itM (joQ Q n P) M (n + m) t).2 (n + m) = _
    rw [h1]
    exact rnd_both c ap h2 h3 ho h4 h5 m (Nat.le_refl _)

end Go.Proofs.Ytchfgaooogfkdaa
