/-
  What each function of package poly answers, and what the reference of its chapter answers: one contract a function, for every float: the answer stands in the relation of its formula to what was given; of the memory that was there nothing has turned.
-/
import Derived.Test.YtchfgaooogfkdaaVec
import Derived.Test.YtchfgaooogfkdaaXz
import Derived.Below
import Derived.OwnWalk
import Derived.Laws.AppendOwn
import Derived.Lib.SliceRun
import Derived.Laws.MakeOwn
import Derived.WalkKit
import Derived.WalkLawsBesides
import Derived.WalkSpells
import Derived.ProofKit
import Derived.OpenShut
import Derived.Deep.RegionHeld3
namespace Go.Proofs.Ytchfgaooogfkdaa
open Go.ChangeShapes Go.WideShapes Go.ChangeAt Go.RowKit
set_option linter.unusedVariables false
set_option linter.unusedSimpArgs false


theorem pick_p {p : Nat → Bool} : ∀ {k i : Nat}, i ∈ pickN p k → p i = true
  | 0, i, h => by cases h
  | k + 1, i, h => by
    unfold pickN at h
    cases hp : p k
    · rw [hp] at h; exact pick_p h
    · rw [hp] at h
      simp only [cond_true, List.mem_append, List.mem_singleton] at h
      rcases h with h | h
      · exact pick_p h
      · subst h; exact hp
theorem pick_yes {p : Nat → Bool} {k : Nat} (h : p k = true) : pickN p (k + 1) = pickN p k ++ [k] := by unfold pickN; rw [h]; cases k <;> rfl
theorem pick_no {p : Nat → Bool} {k : Nat} (h : p k = false) : pickN p (k + 1) = pickN p k := by
  show (bif p k then _ else _) = _
  rw [h]; rfl
theorem pick_pre (p : Nat → Bool) (k : Nat) : ∀ d, ∃ l, pickN p (k + d) = pickN p k ++ l
  | 0 => ⟨[], by simp⟩
  | d + 1 => by
    obtain ⟨l, h⟩ := pick_pre p k d
    show ∃ l, pickN p ((k + d) + 1) = _
    cases hp : p (k + d)
    · exact ⟨l, by rw [pick_no hp, h]⟩
    · exact ⟨l ++ [k + d], by rw [pick_yes hp, h, List.append_assoc]⟩
theorem pick_at {p : Nat → Bool} {k n : Nat} (hk : k < n) (h : p k = true) : (pickN p k).length < (pickN p n).length ∧ LN (pickN p n) (pickN p k).length = k := by
  obtain ⟨l, e⟩ := pick_pre p (k + 1) (n - (k + 1))
  rw [show k + 1 + (n - (k + 1)) = n by omega, pick_yes h, List.append_assoc] at e
  rw [e]
  refine ⟨by simp, ?_⟩
  unfold LN
  simp
theorem pick_is {p : Nat → Bool} {n j : Nat} (h : j < (pickN p n).length) : p (LN (pickN p n) j) = true ∧ LN (pickN p n) j < n := by
  rw [LN_get h]
  exact ⟨pick_p (List.getElem_mem h), pick_mem (List.getElem_mem h)⟩
theorem LN_inj {L : List Nat} (hL : L.Pairwise (· < ·)) {i j : Nat} (hi : i < L.length) (hj : j < L.length) (h : LN L i = LN L j) : i = j := by
  rw [LN_get hi, LN_get hj] at h
  rcases Nat.lt_trichotomy i j with g | g | g
  · have := List.pairwise_iff_getElem.1 hL i j hi hj g; omega
  · exact g
  · have := List.pairwise_iff_getElem.1 hL j i hj hi g; omega
theorem pos_ge {L : List Nat} {t : Int} (h : 0 ≤ posI L t) : ∃ r, r < L.length ∧ posI L t = (r : Int) ∧ (LN L r : Int) = t := by
  unfold posI at h ⊢
  cases e : L.findIdx? (fun n : Nat => decide ((n : Int) = t)) with
  | none => rw [e] at h; exact absurd h (by decide)
  | some r =>
    obtain ⟨hr, h2, _⟩ := List.findIdx?_eq_some_iff_getElem.1 e
    exact ⟨r, hr, rfl, by rw [LN_get hr]; exact of_decide_eq_true h2⟩
theorem pos_lt {L : List Nat} {t : Int} : posI L t < L.length ∧ -1 ≤ posI L t := by
  by_cases h : 0 ≤ posI L t
  · obtain ⟨r, h1, h2, _⟩ := pos_ge h; omega
  · unfold posI at h ⊢
    cases e : L.findIdx? (fun n : Nat => decide ((n : Int) = t)) with
    | none => simp only []; omega
    | some r => rw [e] at h; simp only [] at h; omega
theorem pos_neg {L : List Nat} {t : Int} (h : t < 0) : posI L t = -1 := pos_no (fun i _ => by omega)
theorem ro_on (x : Int) (T : RD) (a b : SD) : onR { T with ro := x } a b = { onR T a b with ro := x } ∧ onA { T with ro := x } a b = onA T a b ∧ onB { T with ro := x } a b = onB T a b := by
  have k1 : slB { T with ro := x } a b = slB T a b := rfl
  have k2 : quF { T with ro := x } a b = quF T a b := rfl
  have k3 : dfF { T with ro := x } a b = dfF T a b := rfl
  refine ⟨?_, ?_, ?_⟩
  · unfold onR onQ
    rw [k1, k2]
    cases mvB a || mvB b
    · rfl
    · cases slB T a b <;> rfl
  · unfold onA onX; rw [k1, k3]
  · unfold onB onY; rw [k1, k3]
section
variable {Q : Nat → RD} {p : Nat → Bool} {rn : Nat} {M : Nat → SD}
/-- the picks' rows, Of told anew -/
abbrev QO (Q : Nat → RD) (p : Nat → Bool) (rn : Nat) : Nat → RD := onlyR Q (pickN p rn)
abbrev TO (Q : Nat → RD) (p : Nat → Bool) (rn : Nat) (i : Nat) : Bool := tchB (QO Q p rn) (pickN p rn).length i
theorem warm_only (c : ∀ i, cS (M i)) (ap : ∀ k, k < rn → p k = false → ∀ i, (i = (Q k).ra.toNat ∨ i = (Q k).rb.toNat) → mvB (M i) = true → TO Q p rn i = false) : ∀ k, k ≤ rn → ∀ i, TO Q p rn i = true → warmM Q M k i = warmM (QO Q p rn) M (pickN p k).length i
  | 0, _, _, _ => rfl
  | k + 1, hk, i, hi => by
    have ih := warm_only c ap k (by omega)
    have al := warm_al (Q := Q) (n := rn) c k (by omega)
    cases hp : p k
    · rw [pick_no hp, warm_succ, ← ih i hi]
      have un : ∀ j, (j = (Q k).ra.toNat ∨ j = (Q k).rb.toNat) → j = i → mvB (M j) = false := fun j hj e => by
        cases hm : mvB (M j)
        · rfl
        · rw [ap k (by omega) hp i (e ▸ hj) (e ▸ hm)] at hi; cases hi
      by_cases e1 : i = (Q k).rb.toNat
      · have hm := un _ (.inr rfl) e1.symm
        subst e1
        rw [setF_at, al.st _ (.inl hm)]
        exact no_push hm (c _) _ _ _ _
      · rw [setF_ne _ _ e1]
        by_cases e2 : i = (Q k).ra.toNat
        · have hm := un _ (.inl rfl) e2.symm
          subst e2
          rw [setF_at, al.st _ (.inl hm)]
          exact no_push hm (c _) _ _ _ _
        · rw [setF_ne _ _ e2]
    · obtain ⟨h1, h2⟩ := pick_at (p := p) (show k < rn by omega) hp
      rw [pick_yes hp, List.length_append, List.length_singleton, warm_succ, warm_succ]
      have eQ : QO Q p rn (pickN p k).length = { Q k with ro := posI (pickN p rn) (Q k).ro } := by show onlyR _ _ _ = _; unfold onlyR; rw [h2]
      have ht := tch_at (Q := QO Q p rn) (n := (pickN p rn).length) h1
      rw [eQ] at ht ⊢
      dsimp only at ht ⊢
      rw [← ih _ ht.1, ← ih _ ht.2]
      unfold setF
      split
      · rfl
      · split
        · rfl
        · exact ih i hi
theorem rnd_only {Q1 P1 : Nat → RD} {F G : Nat → SD} (c : ∀ i, cS (M i)) (ap : ∀ k, k < rn → p k = false → ∀ i, (i = (Q k).ra.toNat ∨ i = (Q k).rb.toNat) → mvB (M i) = true → TO Q p rn i = false)
    (of : ∀ j, j < (pickN p rn).length → 0 ≤ (Q (LN (pickN p rn) j)).ro → 0 ≤ (QO Q p rn j).ro) (hi : ids Q1 Q) (hj : ids P1 (QO Q p rn)) (h0 : Al Q rn M F)
    (hR : ∀ j, j < (pickN p rn).length → P1 j = { Q1 (LN (pickN p rn) j) with ro := (QO Q p rn j).ro }) (hS : ∀ i, TO Q p rn i = true → F i = G i) :
    ∀ k, k ≤ rn → (∀ j, j < (pickN p rn).length → (rndM P1 G (pickN p k).length).1 j = { (rndM Q1 F k).1 (LN (pickN p rn) j) with ro := (QO Q p rn j).ro }) ∧ ∀ i, TO Q p rn i = true → (rndM Q1 F k).2 i = (rndM P1 G (pickN p k).length).2 i
  | 0, _ => ⟨hR, hS⟩
  | k + 1, hk => by
    obtain ⟨ih1, ih2⟩ := rnd_only c ap of hi hj h0 hR hS k (by omega)
    have al := rnd_al c hi h0 k (by omega)
    obtain ⟨a1, a2, a3⟩ := hi.rnd F k k
    obtain ⟨Q2, F2, eA⟩ : ∃ Q2 F2, rndM Q1 F k = (Q2, F2) := ⟨_, _, rfl⟩
    obtain ⟨P2, G2, eB⟩ : ∃ P2 G2, rndM P1 G (pickN p k).length = (P2, G2) := ⟨_, _, rfl⟩
    have hjd := hj.rnd G (pickN p k).length
    rw [eB] at hjd
    rw [eA] at al a1 a2 a3
    rw [eA, eB] at ih1 ih2
    dsimp only at al a1 a2 a3 ih1 ih2 hjd
    cases hp : p k
    · rw [pick_no hp, eB, rnd_succ eA]
      dsimp only
      rw [a1, a2]
      refine ⟨fun j hj' => ?_, fun i ht => ?_⟩
      · have hne : LN (pickN p rn) j ≠ k := fun e => by have := (pick_is hj').1; rw [e, hp] at this; cases this
        rw [setF_ne _ _ hne]; exact ih1 j hj'
      · rw [← ih2 i ht]
        have un : ∀ j, (j = (Q k).ra.toNat ∨ j = (Q k).rb.toNat) → j = i → mvB (M j) = false := fun j hj e => by
          cases hm : mvB (M j)
          · rfl
          · rw [ap k (by omega) hp i (e ▸ hj) (e ▸ hm)] at ht; cases ht
        by_cases e1 : i = (Q k).rb.toNat
        · have hm := un _ (.inr rfl) e1.symm
          subst e1
          rw [setF_at, al.st _ (.inl hm)]
          exact no_oneB hm (c _)
        · rw [setF_ne _ _ e1]
          by_cases e2 : i = (Q k).ra.toNat
          · have hm := un _ (.inl rfl) e2.symm
            subst e2
            rw [setF_at, al.st _ (.inl hm)]
            exact no_one hm (c _)
          · rw [setF_ne _ _ e2]
    · obtain ⟨h1, h2⟩ := pick_at (p := p) (show k < rn by omega) hp
      have eB2 : P2 (pickN p k).length = { Q2 k with ro := (QO Q p rn (pickN p k).length).ro } := by have h := ih1 _ h1; rw [h2] at h; exact h
      have ht := tch_at (Q := QO Q p rn) (n := (pickN p rn).length) h1
      have eQ : QO Q p rn (pickN p k).length = { Q k with ro := posI (pickN p rn) (Q k).ro } := by show onlyR _ _ _ = _; unfold onlyR; rw [h2]
      have era : (P2 (pickN p k).length).ra = (Q k).ra := by rw [eB2]; exact a1
      have erb : (P2 (pickN p k).length).rb = (Q k).rb := by rw [eB2]; exact a2
      have f1 : F2 (Q k).ra.toNat = G2 (Q k).ra.toNat := ih2 _ (by have h := ht.1; rw [eQ] at h; exact h)
      have f2 : F2 (Q k).rb.toNat = G2 (Q k).rb.toNat := ih2 _ (by have h := ht.2; rw [eQ] at h; exact h)
      have eT : toR P2 (pickN p k).length = { toR Q2 k with ro := (QO Q p rn (pickN p k).length).ro } := by
        unfold toR
        by_cases hro : 0 ≤ (Q k).ro
        · have g1 : 0 ≤ (QO Q p rn (pickN p k).length).ro := of _ h1 (by rw [h2]; exact hro)
          have g2 : 0 ≤ posI (pickN p rn) (Q k).ro := by rw [eQ] at g1; exact g1
          obtain ⟨r, r1, r2, r3⟩ := pos_ge g2
          have e3 : (P2 (pickN p k).length).ro = (r : Int) := by rw [eB2, eQ]; exact r2
          have e4 : (Q2 k).ro.toNat = LN (pickN p rn) r := by rw [a3, ← r3]; simp
          rw [if_pos (by rw [e3]; omega), if_pos (by rw [a3]; exact hro), e3]
          have e5 : (P2 ((r : Int)).toNat).r11 = (Q2 (Q2 k).ro.toNat).r11 := by rw [Int.toNat_natCast, ih1 r r1, e4]
          rw [e5, eB2]
          rfl
        · have g2 : ¬ 0 ≤ (P2 (pickN p k).length).ro := by rw [eB2, eQ]; show ¬ 0 ≤ posI _ _; rw [pos_neg (by omega)]; decide
          rw [if_neg g2, if_neg (by rw [a3]; exact hro), eB2]
      obtain ⟨s1, s2, s3⟩ := ro_on (QO Q p rn (pickN p k).length).ro (toR Q2 k) (G2 (Q k).ra.toNat) (G2 (Q k).rb.toNat)
      rw [pick_yes hp, List.length_append, List.length_singleton, rnd_succ eA, rnd_succ eB]
      dsimp only
      rw [era, erb, a1, a2, eT, f1, f2, s1, s2, s3]
      refine ⟨fun j hj' => ?_, fun i hti => ?_⟩
      · by_cases e : j = (pickN p k).length
        · subst e
          rw [setF_at, h2, setF_at]
        · have hne : LN (pickN p rn) j ≠ k := fun e2 => e (LN_inj (pick_up p rn) hj' h1 (by rw [h2, e2]))
          rw [setF_ne _ _ e, setF_ne _ _ hne]; exact ih1 j hj'
      · unfold setF
        split
        · rfl
        · split
          · rfl
          · exact ih2 i hti
/-- THE ROWS OF SOME STILLS, SOLVED BY THEMSELVES, COME TO WHAT THEY COME TO AMONG ALL, of the model: all rounds -/
theorem it_only (c : ∀ i, cS (M i)) (ap : ∀ k, k < rn → p k = false → ∀ i, (i = (Q k).ra.toNat ∨ i = (Q k).rb.toNat) → mvB (M i) = true → TO Q p rn i = false)
    (of : ∀ j, j < (pickN p rn).length → 0 ≤ (Q (LN (pickN p rn) j)).ro → 0 ≤ (QO Q p rn j).ro) : ∀ t, (∀ j, j < (pickN p rn).length → (itM (QO Q p rn) M (pickN p rn).length t).1 j = { (itM Q M rn t).1 (LN (pickN p rn) j) with ro := (QO Q p rn j).ro }) ∧ (∀ i, TO Q p rn i = true → (itM Q M rn t).2 i = (itM (QO Q p rn) M (pickN p rn).length t).2 i) ∧ ids (itM Q M rn t).1 Q ∧ ids (itM (QO Q p rn) M (pickN p rn).length t).1 (QO Q p rn) ∧ Al Q rn M (itM Q M rn t).2
  | 0 => ⟨fun j hj => by show onlyR _ _ _ = _; unfold onlyR; rfl, warm_only c ap rn (Nat.le_refl _), fun _ => ⟨rfl, rfl, rfl⟩, fun _ => ⟨rfl, rfl, rfl⟩, warm_al c rn (Nat.le_refl _)⟩
  | t + 1 => by
    obtain ⟨h1, h2, h3, h4, h5⟩ := it_only c ap of t
    obtain ⟨g1, g2⟩ := rnd_only c ap of h3 h4 h5 h1 h2 rn (Nat.le_refl _)
    exact ⟨g1, g2, h3.rnd _ rn, h4.rnd _ _, rnd_al c h3 h5 rn (Nat.le_refl _)⟩
end

end Go.Proofs.Ytchfgaooogfkdaa
