/-
  What each function of package poly answers, and what the reference of its chapter answers: one contract a function, for every float: the answer stands in the relation of its formula to what was given; of the memory that was there nothing has turned.
-/
import Derived.Test.YtcdnhkjedmmhpaaVec
import Derived.Test.YtcdnhkjedmmhpaaSlb
import Derived.Below
import Derived.WalkKit
import Derived.WalkLawsBesides
import Derived.WalkSpells
import Derived.ProofKit
import Derived.OpenShut
import Derived.Deep.RegionHeld3
namespace Go.Proofs.Ytcdnhkjedmmhpaa
open Go.ChangeShapes Go.WideShapes Go.ChangeAt Go.RowKit
set_option linter.unusedVariables false
set_option linter.unusedSimpArgs false


def anyN (p : Nat → Bool) : Nat → Bool
  | 0 => false
  | k + 1 => anyN p k || p k
theorem anyN_at {p : Nat → Bool} {k : Nat} (h : p k = true) : ∀ {n : Nat}, k < n → anyN p n = true
  | 0, hk => by omega
  | n + 1, hk => by
    unfold anyN
    rcases Nat.lt_or_ge k n with g | g
    · rw [anyN_at h g]; rfl
    · have e : k = n := by omega
      subst e; rw [h]; simp
theorem anyN_not {p : Nat → Bool} : ∀ {n : Nat}, anyN p n = false → ∀ k, k < n → p k = false
  | 0, _, k, hk => by omega
  | n + 1, h, k, hk => by
    unfold anyN at h
    rw [Bool.or_eq_false_iff] at h
    rcases Nat.lt_or_ge k n with g | g
    · exact anyN_not h.1 k g
    · have e : k = n := by omega
      subst e; exact h.2
/-- the numbers 0, 1, 2 .. -/
def Nts (w : World) (b off n : Nat) : Prop := ∀ i, i < n → w.cell? ⟨b, off + i, none⟩ = some (.int .i64 (i : Int))
theorem Nts.bel {w w' : World} {b off n : Nat} (h : Nts w b off n) (g : Bel w w') : Nts w' b off n := fun i hi => keep g (h i hi)
/-- a body of the first so many that is not asleep -/
def awB (S : Nat → SL) (n : Nat) : Bool := anyN (fun i => !(S i).a) n
theorem sl_cell {w : World} {b off n i : Nat} {S : Nat → SL} (h : Sls w b off n S) (hi : i < n) (j : Nat) {v : Value} (hv : (slc (S i))[j]? = some v) : w.cell? ⟨b, off + i * 18 + j, none⟩ = some v := h i hi j v hv
set_option maxRecDepth 100000 in
set_option maxHeartbeats 4000000 in
theorem aw1_w (c i : Nat) (sb so sn sc_ : Nat) (ss : Option Addr) (S : Nat → SL) (w : World) (hss : sn = 0 ∨ ss = some ⟨sb, so, none⟩) (hsc : sn ≤ sc_) (hsm : sc_ ≤ maxLen) (hs : Sls w sb so sn S) (hc : w.cell? ⟨c, 10, none⟩ = some (.slice ss sn sc_)) (hi : i < sn) : Calls Try.prog 84 #[.int .i64 (i : Int), .pointer (some ⟨c, 0, none⟩)] w fun e w' => e = .returned (.bool (!(S i).a)) ∧ Bel w w' := by
  unfold maxLen at hsm
  have e9 : ss = some ⟨sb, so, none⟩ := by rcases hss with h | h; omega; exact h
  subst e9
  have hiI : (i : Int) < (sn : Int) := by omega
  have hiC : (i : Int) < (sc_ : Int) := by omega
  have k15 : w.cell? ⟨sb, so + i * 18 + 15, none⟩ = some (.bool (S i).a) := sl_cell hs hi 15 rfl
  go_enter Try.func84, Try.ntmps84
  repeat (first | go_values | go_skip | go_guarded | go_step | go_upon | go_back | dsimp only)
  go_ret
  exact ⟨rfl, bl_refl _⟩
set_option maxRecDepth 100000 in
set_option maxHeartbeats 4000000 in
theorem idxA_w (c : Nat) (sb so sn sc_ : Nat) (ss : Option Addr) (S : Nat → SL) (ib io im ic : Nat) (is_ : Option Addr) (w : World) (hss : sn = 0 ∨ ss = some ⟨sb, so, none⟩) (hsc : sn ≤ sc_) (hsm : sc_ ≤ maxLen) (hs : Sls w sb so sn S) (hi1 : im = 0 ∨ is_ = some ⟨ib, io, none⟩) (hic : im ≤ ic) (him : ic ≤ maxLen) (hin : Nts w ib io im) (hc : w.cell? ⟨c, 10, none⟩ = some (.slice ss sn sc_)) (hmn : im ≤ sn) : Calls Try.prog 117 #[.slice is_ im ic, .func (.func 84) #[] #[.pointer (some ⟨c, 0, none⟩)]] w fun e w' => ∃ r : Int, decide (0 ≤ r) = awB S im ∧ e = .returned (.int .i64 r) ∧ Bel w w' := by
  unfold maxLen at him
  go_enter Try.func117, Try.ntmps117
  repeat (first | go_values | go_skip | go_guarded | go_step | go_upon | go_back | dsimp only)
  go_loopw [8] (fun i wr => ∃ k : Nat, k ≤ im ∧ i = .int .i64 k ∧ Bel w wr ∧ awB S k = false) (fun i _ => im - (intOf i).toNat)
  case atStart => exact ⟨0, by omega, rfl, bl_refl _, rfl⟩
  case round =>
    obtain ⟨k, hk, rfl, hB, hq⟩ := hrel
    by_cases hlt : k < im
    · have e9 : is_ = some ⟨ib, io, none⟩ := by rcases hi1 with h | h; omega; exact h
      subst e9
      have hkI : (k : Int) < (im : Int) := by omega
      have hkC : (k : Int) < (ic : Int) := by omega
      have kk := (hin.bel hB) k hlt
      repeat (first | (go_at_call 84; (with_reducible refine (aw1_w c k sb so sn sc_ ss S _ hss hsc hsm (hs.bel hB) (keep hB hc) (by omega)).mono ?_); rintro e w' ⟨rfl, hb⟩; cases h : (S k).a <;> simp only [Bool.not_true, Bool.not_false]) | go_values | go_skip | go_guarded | go_step | go_upon | go_back | dsimp only)
      · repeat (first | go_values | go_skip | go_guarded | go_step | go_upon | go_back | dsimp only)
        go_ret
        refine ⟨k, ?_, rfl, bl_trans hB hb⟩
        unfold awB
        rw [anyN_at (p := fun i => !(S i).a) (by simp [h]) hlt]
        simp
      · repeat (first | go_values | go_skip | go_guarded | go_step | go_upon | go_back | dsimp only)
        refine ⟨⟨k + 1, by omega, by go_num, bl_trans hB hb, ?_⟩, by simp [intOf]; omega⟩
        unfold awB at hq
        unfold awB anyN
        rw [hq, h]
        rfl
    · have hnl : ¬ (k : Int) < (im : Int) := by omega
      have e9 : k = im := by omega
      rw [e9] at hq
      repeat (first | go_values | go_skip | go_guarded | go_step | go_upon | go_back | dsimp only)
      go_ret
      exact ⟨-1, by rw [hq]; rfl, rfl, hB⟩
set_option maxRecDepth 100000 in
set_option maxHeartbeats 4000000 in
theorem hasA_w (c : Nat) (sb so sn sc_ : Nat) (ss : Option Addr) (S : Nat → SL) (ib io im ic : Nat) (is_ : Option Addr) (w : World) (hss : sn = 0 ∨ ss = some ⟨sb, so, none⟩) (hsc : sn ≤ sc_) (hsm : sc_ ≤ maxLen) (hs : Sls w sb so sn S) (hi1 : im = 0 ∨ is_ = some ⟨ib, io, none⟩) (hic : im ≤ ic) (him : ic ≤ maxLen) (hin : Nts w ib io im) (hc : w.cell? ⟨c, 10, none⟩ = some (.slice ss sn sc_)) (hmn : im ≤ sn) : Calls Try.prog 83 #[.slice is_ im ic, .func (.func 84) #[] #[.pointer (some ⟨c, 0, none⟩)]] w fun e w' => e = .returned (.bool (awB S im)) ∧ Bel w w' := by
  go_enter Try.func83, Try.ntmps83
  go_wp2_with (first | (go_at_call 117; (with_reducible refine (idxA_w c sb so sn sc_ ss S ib io im ic is_ _ hss hsc hsm hs hi1 hic him hin hc hmn).mono ?_); rintro e w' ⟨r, hr9, rfl, hb⟩))
  go_ret
  exact ⟨by rw [← hr9]; rfl, hb⟩
set_option maxRecDepth 100000 in
set_option maxHeartbeats 4000000 in
theorem isAwake_w (cs : Int) (sb so sn sc_ : Nat) (ss : Option Addr) (S : Nat → SL) (ib io im ic : Nat) (is_ : Option Addr) (w : World) (hss : sn = 0 ∨ ss = some ⟨sb, so, none⟩) (hsc : sn ≤ sc_) (hsm : sc_ ≤ maxLen) (hs : Sls w sb so sn S) (hi1 : im = 0 ∨ is_ = some ⟨ib, io, none⟩) (hic : im ≤ ic) (him : ic ≤ maxLen) (hin : Nts w ib io im) (hmn : im ≤ sn) : Calls Try.prog 51 #[.agg #[.float .f64 0, .float .f64 0, .float .f64 0, .int .i64 0, .float .f64 0, .float .f64 0, .float .f64 0, .float .f64 4607182418800017408, .float .f64 4607182418800017408, .int .i64 cs, .slice ss sn sc_, .slice none 0 0, .slice none 0 0, .int .i64 0], .slice is_ im ic] w fun e w' => e = .returned (.bool (awB S im)) ∧ Bel w w' := by
  have hA : (w.alloc (.cells #[.float .f64 0, .float .f64 0, .float .f64 0, .int .i64 0, .float .f64 0, .float .f64 0, .float .f64 0, .float .f64 4607182418800017408, .float .f64 4607182418800017408, .int .i64 cs, .slice ss sn sc_, .slice none 0 0, .slice none 0 0, .int .i64 0] 31)).rangeAt w.heap.size 0 [.float .f64 0, .float .f64 0, .float .f64 0, .int .i64 0, .float .f64 0, .float .f64 0, .float .f64 0, .float .f64 4607182418800017408, .float .f64 4607182418800017408, .int .i64 cs, .slice ss sn sc_, .slice none 0 0, .slice none 0 0, .int .i64 0] := rng_new w [.float .f64 0, .float .f64 0, .float .f64 0, .int .i64 0, .float .f64 0, .float .f64 0, .float .f64 0, .float .f64 4607182418800017408, .float .f64 4607182418800017408, .int .i64 cs, .slice ss sn sc_, .slice none 0 0, .slice none 0 0, .int .i64 0] 31
  have k10 : (w.alloc (.cells #[.float .f64 0, .float .f64 0, .float .f64 0, .int .i64 0, .float .f64 0, .float .f64 0, .float .f64 0, .float .f64 4607182418800017408, .float .f64 4607182418800017408, .int .i64 cs, .slice ss sn sc_, .slice none 0 0, .slice none 0 0, .int .i64 0] 31)).cell? ⟨w.heap.size, 10, none⟩ = some (.slice ss sn sc_) := by have h := hA 10 _ rfl; rwa [Nat.zero_add] at h
  have B0 : Bel w (w.alloc (.cells #[.float .f64 0, .float .f64 0, .float .f64 0, .int .i64 0, .float .f64 0, .float .f64 0, .float .f64 0, .float .f64 4607182418800017408, .float .f64 4607182418800017408, .int .i64 cs, .slice ss sn sc_, .slice none 0 0, .slice none 0 0, .int .i64 0] 31)) := bl_alloc (bl_refl w) _ _
  go_enter Try.func51, Try.ntmps51
  repeat (first | (go_at_call 83; (with_reducible refine (hasA_w w.heap.size sb so sn sc_ ss S ib io im ic is_ _ hss hsc hsm (hs.bel B0) hi1 hic him (hin.bel B0) k10 hmn).mono ?_); rintro e w' ⟨rfl, hb⟩) | go_values | go_skip | go_guarded | go_step | go_upon | go_back | dsimp only)
  go_ret
  exact ⟨rfl, bl_trans B0 hb⟩
set_option maxRecDepth 100000 in
set_option maxHeartbeats 4000000 in
theorem lies_w (i : Nat) (sb so sn sc_ : Nat) (ss : Option Addr) (S : Nat → SL) (w : World) (hss : sn = 0 ∨ ss = some ⟨sb, so, none⟩) (hsc : sn ≤ sc_) (hsm : sc_ ≤ maxLen) (hs : Sls w sb so sn S) (hi : i < sn) (hl : (S i).l = true) : Calls Try.prog 78 #[.slice ss sn sc_, .int .i64 (i : Int)] w fun e w' => e = .returned (.bool true) ∧ w' = w := by
  unfold maxLen at hsm
  have e9 : ss = some ⟨sb, so, none⟩ := by rcases hss with h | h; omega; exact h
  subst e9
  have hiI : (i : Int) < (sn : Int) := by omega
  have hiC : (i : Int) < (sc_ : Int) := by omega
  have h0 : (0 : Int) ≤ (i : Int) := by omega
  have k1 : w.cell? ⟨sb, so + i * 18 + 1, none⟩ = some (.bool true) := by have h := sl_cell hs hi 1 rfl; rwa [hl] at h
  go_enter Try.func78, Try.ntmps78
  repeat (first | go_values | go_skip | go_guarded | go_step | go_upon | go_back | dsimp only)
  go_ret
  exact ⟨rfl, rfl⟩

end Go.Proofs.Ytcdnhkjedmmhpaa
