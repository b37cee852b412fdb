/-
  What each function of package poly answers, and what the reference of its chapter answers: one contract a function, for every float: the answer stands in the relation of its formula to what was given; of the memory that was there nothing has turned.
-/
import Derived.Test.YtchfgaooogfkdaaVec
import Derived.Test.YtchfgaooogfkdaaXzb
import Derived.Below
import Derived.OwnWalk
import Derived.Laws.AppendOwn
import Derived.Lib.SliceRun
import Derived.Laws.MakeOwn
import Derived.WalkKit
import Derived.WalkLawsBesides
import Derived.WalkSpells
import Derived.ProofKit
import Derived.OpenShut
import Derived.Deep.RegionHeld3
namespace Go.Proofs.Ytchfgaooogfkdaa
open Go.ChangeShapes Go.WideShapes Go.ChangeAt Go.RowKit
set_option linter.unusedVariables false
set_option linter.unusedSimpArgs false


theorem only_ch {Q : Nat → RD} {L : List Nat} {n : Int} {m : Int} {j : Nat} (h : chB (Q (LN L j)) n m = true) : chB (onlyR Q L j) L.length m = true := by
  unfold onlyR
  unfold chB mayB at h ⊢
  simp only [Bool.and_eq_true, decide_eq_true_eq] at h ⊢
  obtain ⟨⟨a1, a2, a3, _, rest⟩, b1, b2, _⟩ := h
  exact ⟨⟨a1, a2, a3, pos_lt.2, rest⟩, b1, b2, pos_lt.1⟩
theorem only_as {Q : Nat → RD} {p : Nat → Bool} {rn sn : Nat} {S : Nat → SD} (h : asE Q rn S sn = 0) : asE (QO Q p rn) (pickN p rn).length S sn = 0 := by
  obtain ⟨h1, h2, h3, h4⟩ := asE_zero h
  exact asE_of (Nat.le_trans (pick_le p rn) h1) h2 (fun j hj => only_ch (h3 _ (pick_is hj).2)) h4
abbrev QN (Q : Nat → RD) (p : Nat → Bool) (rn : Nat) : Nat → RD := fun j => Q (LN (pickN (fun i => !p i) rn) j)
theorem rest_as {Q : Nat → RD} {p : Nat → Bool} {rn sn : Nat} {S : Nat → SD} (h : asE Q rn S sn = 0) (hneg : ∀ i, i < rn → p i = false → (Q i).ro < 0) : asE (QN Q p rn) (pickN (fun i => !p i) rn).length S sn = 0 := by
  obtain ⟨h1, h2, h3, h4⟩ := asE_zero h
  refine asE_of (Nat.le_trans (pick_le _ rn) h1) h2 (fun j hj => ?_) h4
  obtain ⟨g1, g2⟩ := pick_is hj
  have g3 := hneg _ g2 (by simpa using g1)
  have g4 := h3 _ g2
  show chB (Q (LN _ j)) _ _ = true
  unfold chB at g4 ⊢
  simp only [Bool.and_eq_true, decide_eq_true_eq] at g4 ⊢
  exact ⟨g4.1, g4.2.1, g4.2.2.1, by omega⟩
theorem only_ap {Q : Nat → RD} {p : Nat → Bool} {rn : Nat} {S : Nat → SD} (h : apB (QO Q p rn) (pickN p rn).length (QN Q p rn) (pickN (fun i => !p i) rn).length S = true) : ∀ k, k < rn → p k = false → ∀ i, (i = (Q k).ra.toNat ∨ i = (Q k).rb.toNat) → mvB (tlS (S i)) = true → TO Q p rn i = false := fun k hk hp i hi hm => by
  have hq : (fun i => !p i) k = true := by simp [hp]
  obtain ⟨h1, h2⟩ := pick_at (p := fun i => !p i) hk hq
  refine ap_iff.1 h i hm (tch_iff.2 ⟨_, h1, ?_⟩)
  show (Q (LN _ _)).ra.toNat = i ∨ (Q (LN _ _)).rb.toNat = i
  rw [h2]
  rcases hi with rfl | rfl
  · exact .inl rfl
  · exact .inr rfl
theorem own_ints2 {base : Nat} {w : World} {v : Value} {n : Nat} {L : List Nat} (hn : L.length = n) (h : OwnR 1 base w v n (intsV L)) : ∃ g c sl, v = .slice sl n c ∧ (n = 0 ∨ sl = some ⟨g, 0, none⟩) ∧ n ≤ c ∧ c ≤ maxLen ∧ ∀ i, i < n → w.cell? ⟨g, i, none⟩ = some (.int .i64 (LN L i : Int)) := by
  rcases h.2 with ⟨rfl, rfl⟩ | ⟨g, c, rfl, h1, h2, h3, h4, _⟩
  · exact ⟨0, 0, none, rfl, .inl rfl, Nat.le_refl _, Nat.zero_le _, fun i hi => by omega⟩
  · refine ⟨g, c, some ⟨g, 0, none⟩, rfl, .inr rfl, h2, h3, fun i hi => ?_⟩
    have hiL : i < L.length := by omega
    have h5 := h4 i (.int .i64 (LN L i : Int)) (by unfold intsV; rw [List.getElem?_map, List.getElem?_eq_getElem hiL, LN_get hiL]; rfl)
    rwa [Nat.zero_add] at h5
theorem chk_1024 {Q : Nat → RD} {rn sn : Nat} {S : Nat → SD} (h : asE Q rn S sn = 0) : crB Q rn 1024 rn = true := by
  obtain ⟨h1, h2, h3, h4⟩ := asE_zero h
  refine crB_of (fun i hi => ?_)
  have g := h3 i hi
  unfold chB at g ⊢
  simp only [Bool.and_eq_true, decide_eq_true_eq] at g ⊢
  exact ⟨g.1, by omega, by omega, g.2.2.2⟩
theorem only_rok {Q : Nat → RD} {p : Nat → Bool} {rn : Nat} (h : ∀ i, i < rn → rok (Q i)) : ∀ j, j < (pickN p rn).length → rok (QO Q p rn j) := fun j hj => h _ (pick_is hj).2
theorem rest_rok {Q : Nat → RD} {p : Nat → Bool} {rn : Nat} (h : ∀ i, i < rn → rok (Q i)) : ∀ j, j < (pickN (fun i => !p i) rn).length → rok (QN Q p rn j) := fun j hj => h _ (pick_is hj).2

end Go.Proofs.Ytchfgaooogfkdaa
