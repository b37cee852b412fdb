/-
  What each function of package poly answers, and what the reference of its chapter answers: one contract a function, for every float: the answer stands in the relation of its formula to what was given; of the memory that was there nothing has turned.
-/
import Derived.Test.YtcdnhkjedmmhpaaVec
import Derived.Test.YtcdnhkjedmmhpaaSlr
import Derived.Below
import Derived.WalkKit
import Derived.WalkLawsBesides
import Derived.WalkSpells
import Derived.ProofKit
import Derived.OpenShut
import Derived.Deep.RegionHeld3
namespace Go.Proofs.Ytcdnhkjedmmhpaa
open Go.ChangeShapes Go.WideShapes Go.ChangeAt Go.RowKit
set_option linter.unusedVariables false
set_option linter.unusedSimpArgs false


/-- how many of the first so many sleep -/
def asN (S : Nat → SL) : Nat → Nat
  | 0 => 0
  | k + 1 => asN S k + if (S k).a then 1 else 0
theorem asN_le (S : Nat → SL) : ∀ n, asN S n ≤ n
  | 0 => Nat.le_refl _
  | n + 1 => by unfold asN; have := asN_le S n; split <;> omega
set_option maxRecDepth 100000 in
set_option maxHeartbeats 4000000 in
theorem asleep_w (cs : Int) (sb so sn sc_ : Nat) (ss : Option Addr) (S : Nat → SL) (ib io im ic : Nat) (is_ : Option Addr) (w : World) (hss : sn = 0 ∨ ss = some ⟨sb, so, none⟩) (hsc : sn ≤ sc_) (hsm : sc_ ≤ maxLen) (hs : Sls w sb so sn S) (hi1 : im = 0 ∨ is_ = some ⟨ib, io, none⟩) (hic : im ≤ ic) (him : ic ≤ maxLen) (hin : Nts w ib io im) (hmn : im ≤ sn) (hsn : sn ≤ 1024) : Calls Try.prog 25 #[.agg #[.float .f64 0, .float .f64 0, .float .f64 0, .int .i64 0, .float .f64 0, .float .f64 0, .float .f64 0, .float .f64 4607182418800017408, .float .f64 4607182418800017408, .int .i64 cs, .slice ss sn sc_, .slice none 0 0, .slice none 0 0, .int .i64 0], .slice is_ im ic] w fun e w' => e = .returned (.int .i64 (asN S im : Int)) ∧ Bel w w' := by
  have hA : (w.alloc (.cells #[.float .f64 0, .float .f64 0, .float .f64 0, .int .i64 0, .float .f64 0, .float .f64 0, .float .f64 0, .float .f64 4607182418800017408, .float .f64 4607182418800017408, .int .i64 cs, .slice ss sn sc_, .slice none 0 0, .slice none 0 0, .int .i64 0] 31)).rangeAt w.heap.size 0 [.float .f64 0, .float .f64 0, .float .f64 0, .int .i64 0, .float .f64 0, .float .f64 0, .float .f64 0, .float .f64 4607182418800017408, .float .f64 4607182418800017408, .int .i64 cs, .slice ss sn sc_, .slice none 0 0, .slice none 0 0, .int .i64 0] := rng_new w [.float .f64 0, .float .f64 0, .float .f64 0, .int .i64 0, .float .f64 0, .float .f64 0, .float .f64 0, .float .f64 4607182418800017408, .float .f64 4607182418800017408, .int .i64 cs, .slice ss sn sc_, .slice none 0 0, .slice none 0 0, .int .i64 0] 31
  have k10 : (w.alloc (.cells #[.float .f64 0, .float .f64 0, .float .f64 0, .int .i64 0, .float .f64 0, .float .f64 0, .float .f64 0, .float .f64 4607182418800017408, .float .f64 4607182418800017408, .int .i64 cs, .slice ss sn sc_, .slice none 0 0, .slice none 0 0, .int .i64 0] 31)).cell? ⟨w.heap.size, 10, none⟩ = some (.slice ss sn sc_) := by have h := hA 10 _ rfl; rwa [Nat.zero_add] at h
  have B0 : Bel w (w.alloc (.cells #[.float .f64 0, .float .f64 0, .float .f64 0, .int .i64 0, .float .f64 0, .float .f64 0, .float .f64 0, .float .f64 4607182418800017408, .float .f64 4607182418800017408, .int .i64 cs, .slice ss sn sc_, .slice none 0 0, .slice none 0 0, .int .i64 0] 31)) := bl_alloc (bl_refl w) _ _
  have hsm9 := hsm
  unfold maxLen at hsm him
  clear hA
  go_enter Try.func25, Try.ntmps25
  repeat (first | go_values | go_skip | go_guarded | go_step | go_upon | go_back | dsimp only)
  go_loopw [6, 5] (fun i l wr => ∃ k : Nat, k ≤ im ∧ i = .int .i64 k ∧ l = .int .i64 (asN S k : Int) ∧ Bel (w.alloc (.cells #[.float .f64 0, .float .f64 0, .float .f64 0, .int .i64 0, .float .f64 0, .float .f64 0, .float .f64 0, .float .f64 4607182418800017408, .float .f64 4607182418800017408, .int .i64 cs, .slice ss sn sc_, .slice none 0 0, .slice none 0 0, .int .i64 0] 31)) wr) (fun i _ _ => im - (intOf i).toNat)
  case atStart => exact ⟨0, by omega, rfl, rfl, bl_refl _⟩
  case round =>
    obtain ⟨k, hk, rfl, rfl, hB⟩ := hrel
    have hB9 := bl_trans B0 hB
    by_cases hlt : k < im
    · have e9 : is_ = some ⟨ib, io, none⟩ := by rcases hi1 with h | h; omega; exact h
      subst e9
      have e8 : ss = some ⟨sb, so, none⟩ := by rcases hss with h | h; omega; exact h
      subst e8
      have hkI : (k : Int) < (im : Int) := by omega
      have hkC : (k : Int) < (ic : Int) := by omega
      have hkN : (k : Int) < (sn : Int) := by omega
      have hkS : (k : Int) < (sc_ : Int) := by omega
      have kk := (hin.bel hB9) k hlt
      have kS := keep hB k10
      have k15 := sl_cell (hs.bel hB9) (show k < sn by omega) 15 rfl
      have hl9 := asN_le S k
      haveI := belBy_some wr
      have v1 := belBy_cell kk
      have v2 := belBy_cell kS
      have v3 := belBy_cell k15
      have hnx : asN S (k + 1) = asN S k + if (S k).a then 1 else 0 := rfl
      cases ha : (S k).a
      · rw [ha] at v3 hnx
        repeat (first | go_values | go_skip | go_guarded | go_step | go_upon | go_back | dsimp only)
        refine wp_region_quiet_bel (by kernel_rfl) (by kernel_rfl) ?_
        repeat (go_big_quiet_step (fail))
        refine wpQuiet_nil ?_
        rintro _ ⟨nq, rfl⟩
        repeat (first | go_values | go_skip | go_guarded | go_step | go_upon | go_back | dsimp only)
        exact ⟨⟨k + 1, by omega, by go_num, by rw [hnx]; simp, bl_trans hB nq.h⟩, by simp [intOf]; omega⟩
      · rw [ha] at v3 hnx
        repeat (first | go_values | go_skip | go_guarded | go_step | go_upon | go_back | dsimp only)
        refine wp_region_quiet_bel (by kernel_rfl) (by kernel_rfl) ?_
        repeat (go_big_quiet_step (fail))
        refine wpQuiet_nil ?_
        rintro _ ⟨nq, rfl⟩
        repeat (first | go_values | go_skip | go_guarded | go_step | go_upon | go_back | dsimp only)
        exact ⟨⟨k + 1, by omega, by go_num, by rw [hnx]; simp, bl_trans hB nq.h⟩, by simp [intOf]; omega⟩
    · have hnl : ¬ (k : Int) < (im : Int) := by omega
      have e9 : k = im := by omega
      subst e9
      repeat (first | go_values | go_skip | go_guarded | go_step | go_upon | go_back | dsimp only)
      go_ret
      exact ⟨rfl, hB9⟩

end Go.Proofs.Ytcdnhkjedmmhpaa
