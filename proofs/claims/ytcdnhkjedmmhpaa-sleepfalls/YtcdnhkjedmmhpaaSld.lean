/-
  What each function of package poly answers, and what the reference of its chapter answers: one contract a function, for every float: the answer stands in the relation of its formula to what was given; of the memory that was there nothing has turned.
-/
import Derived.Test.YtcdnhkjedmmhpaaVec
import Derived.Test.YtcdnhkjedmmhpaaSlc
import Derived.Below
import Derived.WalkKit
import Derived.WalkLawsBesides
import Derived.WalkSpells
import Derived.ProofKit
import Derived.OpenShut
import Derived.Deep.RegionHeld3
namespace Go.Proofs.Ytcdnhkjedmmhpaa
open Go.ChangeShapes Go.WideShapes Go.ChangeAt Go.RowKit
set_option linter.unusedVariables false
set_option linter.unusedSimpArgs false


theorem zero_bools : Try.zeroCells106 = Array.replicate 1024 (.bool false) := by kernel_rfl
/-- 1024 truths -/
def Bls (w : World) (b : Nat) (f : Nat → Bool) : Prop := ∀ i, i < 1024 → w.cell? ⟨b, i, none⟩ = some (.bool (f i)) ∧ w.frozen? ⟨b, i, none⟩ = false
theorem Bls.bel {w w' : World} {b : Nat} {f : Nat → Bool} (h : Bls w b f) (g : Bel w w') : Bls w' b f := fun i hi => ⟨keep g (h i hi).1, by rw [g.2]; exact (h i hi).2⟩
theorem bls_new (w : World) (t : TypeId) : Bls (w.alloc (.cells (Array.replicate 1024 (.bool false)) t)) w.heap.size (fun _ => false) := fun i hi => ⟨by
  rw [World.cell?_alloc_new, Array.getElem?_replicate, if_pos hi], fz_new i⟩
theorem Bls.set {w : World} {b k : Nat} {f : Nat → Bool} (h : Bls w b f) (hk : k < 1024) (x : Bool) : Bls (w.setCell ⟨b, k, none⟩ (.bool x)) b (fun i => if i = k then x else f i) := fun i hi => by
  refine ⟨?_, by rw [World.frozen?_setCell]; exact (h i hi).2⟩
  by_cases e : i = k
  · subst e
    rw [World.cell?_setCell_same _ _ _ (h i hi).1]
    simp
  · rw [World.cell?_setCell_other _ _ _ _ (by intro e9; injection e9 with e1 e2; omega), (h i hi).1]
    simp [e]
def ltB (k : Nat) : Nat → Bool := fun i => decide (i < k)
theorem ltB_succ (k : Nat) : (fun i => if i = k then true else ltB k i) = ltB (k + 1) := by
  funext i
  unfold ltB
  by_cases e : i = k
  · rw [if_pos e]; simp; omega
  · rw [if_neg e]
    rw [Bool.eq_iff_iff]
    simp
    omega
theorem ltB_zero : (fun _ => false) = ltB 0 := by funext i; unfold ltB; simp
set_option maxRecDepth 100000 in
set_option maxHeartbeats 4000000 in
theorem mayBe_nil (js : Option Addr) (jc : Nat) (sb so sn sc_ : Nat) (ss : Option Addr) (S : Nat → SL) (w : World) : Calls Try.prog 72 #[.slice ss sn sc_, .slice js 0 jc] w fun e w' => e = .returned (.bool true) ∧ Bel w w' := by
  have B0 : Bel w (w.alloc (.cells Try.zeroCells106 106)) := bl_alloc (bl_refl w) _ _
  go_enter Try.func72, Try.ntmps72
  repeat (first | go_values | go_skip | go_guarded | go_step | go_upon | go_back | dsimp only)
  refine wp_loop_rounds 1 ?_
  rw [rounds_succ]
  repeat (first | go_values | go_skip | go_guarded | go_step | go_upon | go_back | dsimp only)
  go_ret
  exact ⟨rfl, B0⟩
set_option maxRecDepth 100000 in
set_option maxHeartbeats 4000000 in
theorem mayBe_one (sb so sn sc_ : Nat) (ss : Option Addr) (S : Nat → SL) (ib io im ic : Nat) (is_ : Option Addr) (jb jo jc : Nat) (w : World) (hss : sn = 0 ∨ ss = some ⟨sb, so, none⟩) (hsc : sn ≤ sc_) (hsm : sc_ ≤ maxLen) (hs : Sls w sb so sn S) (hi1 : im = 0 ∨ is_ = some ⟨ib, io, none⟩) (hic : im ≤ ic) (him : ic ≤ maxLen) (hin : Nts w ib io im) (hj : w.cell? ⟨jb, jo, none⟩ = some (.slice is_ im ic)) (hjc : 1 ≤ jc) (him1 : 1 ≤ im) (hmn : im ≤ sn) (hn1024 : sn ≤ 1024) (hlv : ∀ i, i < im → (S i).l = true) (hfr : ∀ i, i < im → (S i).k = 3) : Calls Try.prog 72 #[.slice ss sn sc_, .slice (some ⟨jb, jo, none⟩) 1 jc] w fun e w' => e = .returned (.bool true) ∧ Bel w w' := by
  have hsm9 := hsm
  unfold maxLen at hsm him
  have B0 : Bel w (w.alloc (.cells Try.zeroCells106 106)) := bl_alloc (bl_refl w) _ _
  have hT : Bls (w.alloc (.cells Try.zeroCells106 106)) w.heap.size (ltB 0) := by rw [← ltB_zero, zero_bools]; exact bls_new w _
  have hz : (w.alloc (.cells Try.zeroCells106 106)).heap.size = w.heap.size + 1 := by simp only [World.size_alloc]
  have hjI : (1 : Int) ≤ (jc : Int) := by omega
  have hj0 : (0 : Int) < (jc : Int) := by omega
  have kJ := keep B0 hj
  have hmI : ((im : Int) == 0) = false := by simp; omega
  have hm0 : ¬ ((im : Int) = 0) := by omega
  have e9 : is_ = some ⟨ib, io, none⟩ := by rcases hi1 with h | h; omega; exact h
  subst e9
  have e8 : ss = some ⟨sb, so, none⟩ := by rcases hss with h | h; omega; exact h
  subst e8
  go_enter Try.func72, Try.ntmps72
  repeat (first | go_values | go_skip | go_guarded | go_step | go_upon | go_back | dsimp only)
  refine wp_loop_rounds 2 ?_
  rw [rounds_succ]
  repeat (first | go_values | go_skip | go_guarded | go_step | go_upon | go_back | dsimp only)
  go_loopw [22, 8] (fun i l wr => ∃ k : Nat, k ≤ im ∧ i = .int .i64 k ∧ l = .int .i64 ((k : Int) - 1) ∧ Bel w wr ∧ Bls wr w.heap.size (ltB k)) (fun i _ _ => im - (intOf i).toNat)
  case atStart => exact ⟨0, by omega, rfl, by simp, B0, hT⟩
  case round =>
    obtain ⟨k, hk, rfl, rfl, hB, hTr⟩ := hrel
    by_cases hlt : k < im
    · have hkI : (k : Int) < (im : Int) := by omega
      have hkC : (k : Int) < (ic : Int) := by omega
      have hkN : (k : Int) < (sn : Int) := by omega
      have hkS : (k : Int) < (sc_ : Int) := by omega
      have hk4 : (k : Int) < 1024 := by omega
      have hkl : ¬ (k : Int) ≤ (k : Int) - 1 := by omega
      have kk := (hin.bel hB) k hlt
      have kf : wr.cell? ⟨sb, so + k * 18 + 2, none⟩ = some (.int .u8 3) := by have h := sl_cell (hs.bel hB) (show k < sn by omega) 2 rfl; rwa [hfr k hlt] at h
      obtain ⟨kt, ft⟩ := hTr k (by omega)
      rw [show ltB k k = false by unfold ltB; simp] at kt
      repeat (first | (go_at_call 78; (with_reducible refine (lies_w k sb so sn sc_ (some ⟨sb, so, none⟩) S _ (.inr rfl) hsc hsm9 (hs.bel hB) (by omega) (hlv k hlt)).mono ?_); rintro e w' ⟨rfl, rfl⟩) | go_values | go_skip | go_guarded | go_step | go_upon | go_back | dsimp only)
      refine ⟨⟨k + 1, by omega, by go_num, by go_num, bl_set hB (Nat.le_refl _), by rw [← ltB_succ]; exact hTr.set (by omega) true⟩, by simp [intOf]; omega⟩
    · have hnl : ¬ (k : Int) < (im : Int) := by omega
      repeat (first | go_values | go_skip | go_guarded | go_step | go_upon | go_back | dsimp only)
      rw [rounds_succ]
      repeat (first | go_values | go_skip | go_guarded | go_step | go_upon | go_back | dsimp only)
      go_ret
      exact ⟨rfl, hB⟩

end Go.Proofs.Ytcdnhkjedmmhpaa
