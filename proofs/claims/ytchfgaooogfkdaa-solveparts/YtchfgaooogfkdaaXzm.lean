/-
  What each function of package poly answers, and what the reference of its chapter answers: one contract a function, for every float: the answer stands in the relation of its formula to what was given; of the memory that was there nothing has turned.
-/
import Derived.Test.YtchfgaooogfkdaaVec
import Derived.Test.YtchfgaooogfkdaaXzl
import Derived.Below
import Derived.OwnWalk
import Derived.Laws.AppendOwn
import Derived.Lib.SliceRun
import Derived.Laws.MakeOwn
import Derived.WalkKit
import Derived.WalkLawsBesides
import Derived.WalkSpells
import Derived.ProofKit
import Derived.OpenShut
import Derived.Deep.RegionHeld3
namespace Go.Proofs.Ytchfgaooogfkdaa
open Go.ChangeShapes Go.WideShapes Go.ChangeAt Go.RowKit
set_option linter.unusedVariables false
set_option linter.unusedSimpArgs false


theorem only_rok9 {Q : Nat → RD} {p : Nat → Bool} {rn : Nat} (h : ∀ i, i < rn → rok (Q i)) : ∀ j, j < (pickN p rn).length → rok (onlyR Q (pickN p rn) j) := fun j hj => h _ (pick_is hj).2
set_option maxRecDepth 100000 in
set_option maxHeartbeats 4000000 in
theorem sp_large (rb ro rn rc_ : Nat) (rs : Option Addr) (Q : Nat → RD) (qb qo qn qc_ : Nat) (qs : Option Addr) (Q2 : Nat → RD) (sb so sn sc_ : Nat) (ss : Option Addr) (S : Nat → SD) (ib io inn ic_ : Nat) (is_ : Option Addr) (X : Nat → Int) (w : World) (h : lgB rn sn = true ∨ lgB qn sn = true ∨ (60 < inn ∧ inn ≤ 1024)) : Calls Try.prog 5 #[.slice rs rn rc_, .slice qs qn qc_, .slice ss sn sc_, .slice is_ inn ic_] w fun e w' => e = .returned (.bool true) ∧ Bel w w' := by
  have t1 : Stg 1 := trivial
  cases hg1 : lgB rn sn
  · cases hg2 : lgB qn sn
    · rw [hg1, hg2] at h
      have a1 : (60 : Int) < (inn : Int) := by simp at h; omega
      have a2 : (inn : Int) ≤ 1024 := by simp at h; omega
      go_enter Try.func5, Try.ntmps5
      repeat (first | (go_at_call 9; (with_reducible refine (awake21 _).mono ?_); rintro e w1 ⟨rfl, BB⟩) | (have zz := t1; clear zz t1; have t2 : Stg 2 := trivial; go_at_call 17; (with_reducible refine (large_w rs ss rn rc_ sn sc_ _).mono ?_); rintro e wz ⟨rfl, rfl⟩; rw [hg1]) | (have zz := t2; clear zz t2; have t3 : Stg 3 := trivial; go_at_call 17; (with_reducible refine (large_w qs ss qn qc_ sn sc_ _).mono ?_); rintro e wz ⟨rfl, rfl⟩; rw [hg2]) | go_values | go_skip | go_guarded | go_step | go_upon | go_back | dsimp only)
      go_ret
      exact ⟨rfl, BB⟩
    · go_enter Try.func5, Try.ntmps5
      repeat (first | (go_at_call 9; (with_reducible refine (awake21 _).mono ?_); rintro e w1 ⟨rfl, BB⟩) | (have zz := t1; clear zz t1; have t2 : Stg 2 := trivial; go_at_call 17; (with_reducible refine (large_w rs ss rn rc_ sn sc_ _).mono ?_); rintro e wz ⟨rfl, rfl⟩; rw [hg1]) | (have zz := t2; clear zz t2; have t3 : Stg 3 := trivial; go_at_call 17; (with_reducible refine (large_w qs ss qn qc_ sn sc_ _).mono ?_); rintro e wz ⟨rfl, rfl⟩; rw [hg2]) | go_values | go_skip | go_guarded | go_step | go_upon | go_back | dsimp only)
      go_ret
      exact ⟨rfl, BB⟩
  · go_enter Try.func5, Try.ntmps5
    repeat (first | (go_at_call 9; (with_reducible refine (awake21 _).mono ?_); rintro e w1 ⟨rfl, BB⟩) | (have zz := t1; clear zz t1; have t2 : Stg 2 := trivial; go_at_call 17; (with_reducible refine (large_w rs ss rn rc_ sn sc_ _).mono ?_); rintro e wz ⟨rfl, rfl⟩; rw [hg1]) | (have zz := t2; clear zz t2; have t3 : Stg 3 := trivial; go_at_call 17; (with_reducible refine (large_w qs ss qn qc_ sn sc_ _).mono ?_); rintro e wz ⟨rfl, rfl⟩; rw [hg2]) | go_values | go_skip | go_guarded | go_step | go_upon | go_back | dsimp only)
    go_ret
    exact ⟨rfl, BB⟩
theorem same_nil (w : World) : Calls Try.prog 16 #[.slice none 0 0, .slice none 0 0] w fun e w' => e = .returned (.bool true) ∧ Bel w w' :=
  sameRows9 0 0 0 0 0 0 0 none none (fun _ => ⟨0, 0, 0, 0, 0, 0, 0, 0, 0, 0, 0, 0, 0, 0⟩) w (.inl rfl) (.inl rfl) (Nat.le_refl _) (Nat.le_refl _) (by omega) (fun i hi => by omega) (fun i hi => by omega) (fun i hi => by omega)
theorem spoil_nil (w W0 : World) (h : Bel W0 w) : Calls Try.prog 25 #[.slice none 0 0, .slice none 0 0] w fun e w' => e = .returned (.tuple #[]) ∧ Bel W0 w' :=
  spoil_w (W0.heap.size) 0 none w W0 (.inl ⟨rfl, rfl⟩) (fun j hj => by omega) h (Nat.le_refl _) (by omega)

set_option maxRecDepth 100000 in
set_option maxHeartbeats 8000000 in
theorem sp_e1 (rb ro rn rc_ : Nat) (rs : Option Addr) (Q : Nat → RD) (qb qo qn qc_ : Nat) (qs : Option Addr) (Q2 : Nat → RD) (sb so sn sc_ : Nat) (ss : Option Addr) (S : Nat → SD) (ib io inn ic_ : Nat) (is_ : Option Addr) (X : Nat → Int) (w : World) (hrs : rn = 0 ∨ rs = some ⟨rb, ro, none⟩) (hrc : rn ≤ rc_) (hrm : rc_ ≤ maxLen) (hr : Rws w rb ro rn Q) (or_ : ∀ i, i < rn → rok (Q i)) (hqs : qn = 0 ∨ qs = some ⟨qb, qo, none⟩) (hqc : qn ≤ qc_) (hqm : qc_ ≤ maxLen) (hq : Rws w qb qo qn Q2) (oq_ : ∀ i, i < qn → rok (Q2 i)) (hss : sn = 0 ∨ ss = some ⟨sb, so, none⟩) (hsc : sn ≤ sc_) (hsm : sc_ ≤ maxLen) (hs : Sts w sb so sn S) (os : ∀ i, i < sn → sok (S i)) (his : inn = 0 ∨ is_ = some ⟨ib, io, none⟩) (hic : inn ≤ ic_) (him : ic_ ≤ maxLen) (hi_ : Ints w ib io inn X) (hb1 : rn * 112 ≤ 140737488351232) (hb2 : sn * 40 ≤ 140737488351232) (hg1 : lgB rn sn = false) (hg2 : lgB qn sn = false) (hi1 : inn ≤ 60) (hx : 1048576 < rn) : Calls Try.prog 5 #[.slice rs rn rc_, .slice qs qn qc_, .slice ss sn sc_, .slice is_ inn ic_] w fun e w' => e = .returned (.bool true) ∧ Bel w w' := by
  have t1 : Stg 1 := trivial
  have q1 : (axE Q rn Q2 qn S sn == axE Q rn Q2 qn S sn) = true := by simp
  have q2 : (axB Q rn Q2 qn S sn == axB Q rn Q2 qn S sn) = true := by simp
  have a1 : ¬ (60 : Int) < (inn : Int) := by omega
  go_enter Try.func5, Try.ntmps5
  repeat (first | (go_at_call 9; (with_reducible refine (awake21 _).mono ?_); rintro e w1 ⟨rfl, BB⟩) | (have zz := t1; clear zz t1; have t2 : Stg 2 := trivial; go_at_call 17; (with_reducible refine (large_w rs ss rn rc_ sn sc_ _).mono ?_); rintro e wz ⟨rfl, rfl⟩; rw [hg1]) | (have zz := t2; clear zz t2; have t3 : Stg 3 := trivial; go_at_call 17; (with_reducible refine (large_w qs ss qn qc_ sn sc_ _).mono ?_); rintro e wz ⟨rfl, rfl⟩; rw [hg2]) | (go_at_call 18; (with_reducible refine (rowsLent_w rb ro rn rc_ rs Q _ hrs hrc hrm (hr.bel BB) or_ hb1).mono ?_); rintro e w2 ⟨g1, c1, hg1w, hc1, hm1, hL1, hL2, rfl, hbw2⟩; have BC := bl_trans BB hbw2) | (go_at_call 19; (with_reducible refine (stillsLent_w sb so sn sc_ ss S _ hss hsc hsm (hs.bel BC) os hb2).mono ?_); rintro e w3 ⟨g2, c2, hg2w, hc2, hm2, hM1, hM2, rfl, hbw3⟩; have BD := bl_trans BC hbw3; have L3 := hL1.bel hbw3; have N3 := rng_bel hL2 hbw3) | (go_at_call 10; (with_reducible refine (apart_all g1 0 rn c1 (some ⟨g1, 0, none⟩) Q qb qo qn qc_ qs Q2 g2 0 sn c2 (some ⟨g2, 0, none⟩) S _ (.inr rfl) (by omega) hm1 L3 or_ hqs hqc hqm (hq.bel BD) oq_ (.inr rfl) (by omega) hm2 hM1 os).mono ?_); rintro e w4 ⟨rfl, hbw4⟩; have BE := bl_trans BD hbw4) | (go_at_call 27; (with_reducible refine (rapart_all rb ro rn rc_ rs Q qb qo qn qc_ qs Q2 sb so sn sc_ ss S _ hrs hrc hrm (hr.bel BE) or_ hqs hqc hqm (hq.bel BE) oq_ hss hsc hsm (hs.bel BE) os).mono ?_); rintro e w5 ⟨rfl, hbw5⟩; have BF := bl_trans BE hbw5; have L5 := (L3.bel hbw4).bel hbw5; have N5 := rng_bel (rng_bel N3 hbw4) hbw5; have M5 := (hM1.bel hbw4).bel hbw5; have O5 := rng_bel (rng_bel hM2 hbw4) hbw5) | (go_at_call 28; (with_reducible refine (only_many g1 0 rn c1 (some ⟨g1, 0, none⟩) Q ib io inn ic_ is_ _ (.inl hx)).mono ?_); rintro e w6 ⟨rfl, hbw6⟩) | (go_at_call 29; (with_reducible refine (ronly_many rb ro rn rc_ rs Q ib io inn ic_ is_ X _ (.inl hx)).mono ?_); rintro e w7 ⟨rfl, hbw7⟩) | go_values | go_skip | go_guarded | go_step | go_upon | go_back | dsimp only)
  go_loopw [22] (fun i wr => i = .int .i64 0 ∧ wr = w7) (fun _ _ => 0)
  case atStart => exact ⟨rfl, rfl⟩
  case round =>
    obtain ⟨h9, hw9⟩ := hrel
    subst h9
    subst hw9
    repeat (first | (go_at_call 16; (with_reducible refine (same_nil _).mono ?_); rintro e w8 ⟨rfl, hbw8⟩) | (go_at_call 25; (with_reducible refine (spoil_nil _ w5 (bl_trans (bl_trans hbw6 hbw7) hbw8)).mono ?_); rintro e w9 ⟨rfl, B5z⟩; have BZ := bl_trans BF B5z) | (go_at_call 26; (with_reducible refine (kept_w rb ro rn rc_ rs Q sb so sn sc_ ss S g1 c1 g2 c2 _ hrs hrc hrm (hr.bel BZ) or_ hss hsc hsm (hs.bel BZ) os (L5.bel B5z) (rng_bel N5 B5z) hc1 hm1 (M5.bel B5z) (rng_bel O5 B5z) hc2 hm2).mono ?_); rintro e wk ⟨rfl, hbk⟩) | go_values | go_skip | go_guarded | go_step | go_upon | go_back | dsimp only)
    go_ret
    exact ⟨rfl, bl_trans BZ hbk⟩

set_option maxRecDepth 100000 in
set_option maxHeartbeats 8000000 in
theorem sp_e2 (rb ro rn rc_ : Nat) (rs : Option Addr) (Q : Nat → RD) (qb qo qn qc_ : Nat) (qs : Option Addr) (Q2 : Nat → RD) (sb so sn sc_ : Nat) (ss : Option Addr) (S : Nat → SD) (ib io inn ic_ : Nat) (is_ : Option Addr) (X : Nat → Int) (w : World) (hrs : rn = 0 ∨ rs = some ⟨rb, ro, none⟩) (hrc : rn ≤ rc_) (hrm : rc_ ≤ maxLen) (hr : Rws w rb ro rn Q) (or_ : ∀ i, i < rn → rok (Q i)) (hqs : qn = 0 ∨ qs = some ⟨qb, qo, none⟩) (hqc : qn ≤ qc_) (hqm : qc_ ≤ maxLen) (hq : Rws w qb qo qn Q2) (oq_ : ∀ i, i < qn → rok (Q2 i)) (hss : sn = 0 ∨ ss = some ⟨sb, so, none⟩) (hsc : sn ≤ sc_) (hsm : sc_ ≤ maxLen) (hs : Sts w sb so sn S) (os : ∀ i, i < sn → sok (S i)) (his : inn = 0 ∨ is_ = some ⟨ib, io, none⟩) (hic : inn ≤ ic_) (him : ic_ ≤ maxLen) (hi_ : Ints w ib io inn X) (hb1 : rn * 112 ≤ 140737488351232) (hb2 : sn * 40 ≤ 140737488351232) (hg1 : lgB rn sn = false) (hg2 : lgB qn sn = false) (hx : 1024 < inn) : Calls Try.prog 5 #[.slice rs rn rc_, .slice qs qn qc_, .slice ss sn sc_, .slice is_ inn ic_] w fun e w' => e = .returned (.bool true) ∧ Bel w w' := by
  have t1 : Stg 1 := trivial
  have q1 : (axE Q rn Q2 qn S sn == axE Q rn Q2 qn S sn) = true := by simp
  have q2 : (axB Q rn Q2 qn S sn == axB Q rn Q2 qn S sn) = true := by simp
  have a1 : (60 : Int) < (inn : Int) := by omega
  have a2 : ¬ (inn : Int) ≤ 1024 := by omega
  go_enter Try.func5, Try.ntmps5
  repeat (first | (go_at_call 9; (with_reducible refine (awake21 _).mono ?_); rintro e w1 ⟨rfl, BB⟩) | (have zz := t1; clear zz t1; have t2 : Stg 2 := trivial; go_at_call 17; (with_reducible refine (large_w rs ss rn rc_ sn sc_ _).mono ?_); rintro e wz ⟨rfl, rfl⟩; rw [hg1]) | (have zz := t2; clear zz t2; have t3 : Stg 3 := trivial; go_at_call 17; (with_reducible refine (large_w qs ss qn qc_ sn sc_ _).mono ?_); rintro e wz ⟨rfl, rfl⟩; rw [hg2]) | (go_at_call 18; (with_reducible refine (rowsLent_w rb ro rn rc_ rs Q _ hrs hrc hrm (hr.bel BB) or_ hb1).mono ?_); rintro e w2 ⟨g1, c1, hg1w, hc1, hm1, hL1, hL2, rfl, hbw2⟩; have BC := bl_trans BB hbw2) | (go_at_call 19; (with_reducible refine (stillsLent_w sb so sn sc_ ss S _ hss hsc hsm (hs.bel BC) os hb2).mono ?_); rintro e w3 ⟨g2, c2, hg2w, hc2, hm2, hM1, hM2, rfl, hbw3⟩; have BD := bl_trans BC hbw3; have L3 := hL1.bel hbw3; have N3 := rng_bel hL2 hbw3) | (go_at_call 10; (with_reducible refine (apart_all g1 0 rn c1 (some ⟨g1, 0, none⟩) Q qb qo qn qc_ qs Q2 g2 0 sn c2 (some ⟨g2, 0, none⟩) S _ (.inr rfl) (by omega) hm1 L3 or_ hqs hqc hqm (hq.bel BD) oq_ (.inr rfl) (by omega) hm2 hM1 os).mono ?_); rintro e w4 ⟨rfl, hbw4⟩; have BE := bl_trans BD hbw4) | (go_at_call 27; (with_reducible refine (rapart_all rb ro rn rc_ rs Q qb qo qn qc_ qs Q2 sb so sn sc_ ss S _ hrs hrc hrm (hr.bel BE) or_ hqs hqc hqm (hq.bel BE) oq_ hss hsc hsm (hs.bel BE) os).mono ?_); rintro e w5 ⟨rfl, hbw5⟩; have BF := bl_trans BE hbw5; have L5 := (L3.bel hbw4).bel hbw5; have N5 := rng_bel (rng_bel N3 hbw4) hbw5; have M5 := (hM1.bel hbw4).bel hbw5; have O5 := rng_bel (rng_bel hM2 hbw4) hbw5) | (go_at_call 28; (with_reducible refine (only_many g1 0 rn c1 (some ⟨g1, 0, none⟩) Q ib io inn ic_ is_ _ (.inr hx)).mono ?_); rintro e w6 ⟨rfl, hbw6⟩) | (go_at_call 29; (with_reducible refine (ronly_many rb ro rn rc_ rs Q ib io inn ic_ is_ X _ (.inr hx)).mono ?_); rintro e w7 ⟨rfl, hbw7⟩) | go_values | go_skip | go_guarded | go_step | go_upon | go_back | dsimp only)
  go_loopw [22] (fun i wr => i = .int .i64 0 ∧ wr = w7) (fun _ _ => 0)
  case atStart => exact ⟨rfl, rfl⟩
  case round =>
    obtain ⟨h9, hw9⟩ := hrel
    subst h9
    subst hw9
    repeat (first | (go_at_call 16; (with_reducible refine (same_nil _).mono ?_); rintro e w8 ⟨rfl, hbw8⟩) | (go_at_call 25; (with_reducible refine (spoil_nil _ w5 (bl_trans (bl_trans hbw6 hbw7) hbw8)).mono ?_); rintro e w9 ⟨rfl, B5z⟩; have BZ := bl_trans BF B5z) | (go_at_call 26; (with_reducible refine (kept_w rb ro rn rc_ rs Q sb so sn sc_ ss S g1 c1 g2 c2 _ hrs hrc hrm (hr.bel BZ) or_ hss hsc hsm (hs.bel BZ) os (L5.bel B5z) (rng_bel N5 B5z) hc1 hm1 (M5.bel B5z) (rng_bel O5 B5z) hc2 hm2).mono ?_); rintro e wk ⟨rfl, hbk⟩) | go_values | go_skip | go_guarded | go_step | go_upon | go_back | dsimp only)
    go_ret
    exact ⟨rfl, bl_trans BZ hbk⟩

theorem ronly_no (rb ro rn rc_ : Nat) (rs : Option Addr) (Q : Nat → RD) (ib io inn ic_ : Nat) (is_ : Option Addr) (X : Nat → Int) (w : World) (hrs : rn = 0 ∨ rs = some ⟨rb, ro, none⟩) (hrc : rn ≤ rc_) (hrm : rc_ ≤ maxLen) (hr : Rws w rb ro rn Q) (or_ : ∀ i, i < rn → rok (Q i)) (his : inn = 0 ∨ is_ = some ⟨ib, io, none⟩) (hic : inn ≤ ic_) (him : ic_ ≤ maxLen) (hi_ : Ints w ib io inn X) (hl1 : rn ≤ 1048576) (hl2 : inn ≤ 1024) (hcr : crB Q rn 1024 rn = false) : Calls Try.prog 29 #[.slice rs rn rc_, .slice is_ inn ic_] w fun e w' => e = .returned (.tuple #[.slice none 0 0, .slice none 0 0, .int .i64 200]) ∧ Bel w w' :=
  (ronly_ch rb ro rn rc_ rs Q ib io inn ic_ is_ X w hrs hrc hrm hr or_ his hic him hi_ hl1 hl2).mono fun e w' h => by
    rcases h with ⟨_, h1, h2⟩ | ⟨h1, _⟩
    · exact ⟨h1, h2⟩
    · rw [hcr] at h1; cases h1

set_option maxRecDepth 100000 in
set_option maxHeartbeats 8000000 in
theorem sp_e3 (rb ro rn rc_ : Nat) (rs : Option Addr) (Q : Nat → RD) (qb qo qn qc_ : Nat) (qs : Option Addr) (Q2 : Nat → RD) (sb so sn sc_ : Nat) (ss : Option Addr) (S : Nat → SD) (ib io inn ic_ : Nat) (is_ : Option Addr) (X : Nat → Int) (w : World) (hrs : rn = 0 ∨ rs = some ⟨rb, ro, none⟩) (hrc : rn ≤ rc_) (hrm : rc_ ≤ maxLen) (hr : Rws w rb ro rn Q) (or_ : ∀ i, i < rn → rok (Q i)) (hqs : qn = 0 ∨ qs = some ⟨qb, qo, none⟩) (hqc : qn ≤ qc_) (hqm : qc_ ≤ maxLen) (hq : Rws w qb qo qn Q2) (oq_ : ∀ i, i < qn → rok (Q2 i)) (hss : sn = 0 ∨ ss = some ⟨sb, so, none⟩) (hsc : sn ≤ sc_) (hsm : sc_ ≤ maxLen) (hs : Sts w sb so sn S) (os : ∀ i, i < sn → sok (S i)) (his : inn = 0 ∨ is_ = some ⟨ib, io, none⟩) (hic : inn ≤ ic_) (him : ic_ ≤ maxLen) (hi_ : Ints w ib io inn X) (hb1 : rn * 112 ≤ 140737488351232) (hb2 : sn * 40 ≤ 140737488351232) (hg1 : lgB rn sn = false) (hg2 : lgB qn sn = false) (hi1 : inn ≤ 60) (hl1 : rn ≤ 1048576) (hcr : crB Q rn 1024 rn = false) : Calls Try.prog 5 #[.slice rs rn rc_, .slice qs qn qc_, .slice ss sn sc_, .slice is_ inn ic_] w fun e w' => e = .returned (.bool true) ∧ Bel w w' := by
  have t1 : Stg 1 := trivial
  have q1 : (axE Q rn Q2 qn S sn == axE Q rn Q2 qn S sn) = true := by simp
  have q2 : (axB Q rn Q2 qn S sn == axB Q rn Q2 qn S sn) = true := by simp
  have a1 : ¬ (60 : Int) < (inn : Int) := by omega
  go_enter Try.func5, Try.ntmps5
  repeat (first | (go_at_call 9; (with_reducible refine (awake21 _).mono ?_); rintro e w1 ⟨rfl, BB⟩) | (have zz := t1; clear zz t1; have t2 : Stg 2 := trivial; go_at_call 17; (with_reducible refine (large_w rs ss rn rc_ sn sc_ _).mono ?_); rintro e wz ⟨rfl, rfl⟩; rw [hg1]) | (have zz := t2; clear zz t2; have t3 : Stg 3 := trivial; go_at_call 17; (with_reducible refine (large_w qs ss qn qc_ sn sc_ _).mono ?_); rintro e wz ⟨rfl, rfl⟩; rw [hg2]) | (go_at_call 18; (with_reducible refine (rowsLent_w rb ro rn rc_ rs Q _ hrs hrc hrm (hr.bel BB) or_ hb1).mono ?_); rintro e w2 ⟨g1, c1, hg1w, hc1, hm1, hL1, hL2, rfl, hbw2⟩; have BC := bl_trans BB hbw2) | (go_at_call 19; (with_reducible refine (stillsLent_w sb so sn sc_ ss S _ hss hsc hsm (hs.bel BC) os hb2).mono ?_); rintro e w3 ⟨g2, c2, hg2w, hc2, hm2, hM1, hM2, rfl, hbw3⟩; have BD := bl_trans BC hbw3; have L3 := hL1.bel hbw3; have N3 := rng_bel hL2 hbw3) | (go_at_call 10; (with_reducible refine (apart_all g1 0 rn c1 (some ⟨g1, 0, none⟩) Q qb qo qn qc_ qs Q2 g2 0 sn c2 (some ⟨g2, 0, none⟩) S _ (.inr rfl) (by omega) hm1 L3 or_ hqs hqc hqm (hq.bel BD) oq_ (.inr rfl) (by omega) hm2 hM1 os).mono ?_); rintro e w4 ⟨rfl, hbw4⟩; have BE := bl_trans BD hbw4) | (go_at_call 27; (with_reducible refine (rapart_all rb ro rn rc_ rs Q qb qo qn qc_ qs Q2 sb so sn sc_ ss S _ hrs hrc hrm (hr.bel BE) or_ hqs hqc hqm (hq.bel BE) oq_ hss hsc hsm (hs.bel BE) os).mono ?_); rintro e w5 ⟨rfl, hbw5⟩; have BF := bl_trans BE hbw5; have L5 := (L3.bel hbw4).bel hbw5; have N5 := rng_bel (rng_bel N3 hbw4) hbw5; have M5 := (hM1.bel hbw4).bel hbw5; have O5 := rng_bel (rng_bel hM2 hbw4) hbw5) | (go_at_call 28; (with_reducible refine (only_bad g1 0 rn c1 (some ⟨g1, 0, none⟩) Q ib io inn ic_ is_ _ (.inr rfl) (by omega) hm1 L5 or_ hl1 (by omega) hcr).mono ?_); rintro e w6 ⟨rfl, hbw6⟩) | (go_at_call 29; (with_reducible refine (ronly_no rb ro rn rc_ rs Q ib io inn ic_ is_ X _ hrs hrc hrm (hr.bel (bl_trans BF hbw6)) or_ his hic him (hi_.bel (bl_trans BF hbw6)) hl1 (by omega) hcr).mono ?_); rintro e w7 ⟨rfl, hbw7⟩) | go_values | go_skip | go_guarded | go_step | go_upon | go_back | dsimp only)
  go_loopw [22] (fun i wr => i = .int .i64 0 ∧ wr = w7) (fun _ _ => 0)
  case atStart => exact ⟨rfl, rfl⟩
  case round =>
    obtain ⟨h9, hw9⟩ := hrel
    subst h9
    subst hw9
    repeat (first | (go_at_call 16; (with_reducible refine (same_nil _).mono ?_); rintro e w8 ⟨rfl, hbw8⟩) | (go_at_call 25; (with_reducible refine (spoil_nil _ w5 (bl_trans (bl_trans hbw6 hbw7) hbw8)).mono ?_); rintro e w9 ⟨rfl, B5z⟩; have BZ := bl_trans BF B5z) | (go_at_call 26; (with_reducible refine (kept_w rb ro rn rc_ rs Q sb so sn sc_ ss S g1 c1 g2 c2 _ hrs hrc hrm (hr.bel BZ) or_ hss hsc hsm (hs.bel BZ) os (L5.bel B5z) (rng_bel N5 B5z) hc1 hm1 (M5.bel B5z) (rng_bel O5 B5z) hc2 hm2).mono ?_); rintro e wk ⟨rfl, hbk⟩) | go_values | go_skip | go_guarded | go_step | go_upon | go_back | dsimp only)
    go_ret
    exact ⟨rfl, bl_trans BZ hbk⟩

theorem ronly_yes (rb ro rn rc_ : Nat) (rs : Option Addr) (Q : Nat → RD) (ib io inn ic_ : Nat) (is_ : Option Addr) (X : Nat → Int) (m : Nat) (w : World) (hrs : rn = 0 ∨ rs = some ⟨rb, ro, none⟩) (hrc : rn ≤ rc_) (hrm : rc_ ≤ maxLen) (hr : Rws w rb ro rn Q) (or_ : ∀ i, i < rn → rok (Q i)) (his : inn = 0 ∨ is_ = some ⟨ib, io, none⟩) (hic : inn ≤ ic_) (him : ic_ ≤ maxLen) (hi_ : Ints w ib io inn X) (hl1 : rn ≤ 1048576) (hl2 : inn ≤ 1024) (hcr : crB Q rn 1024 rn = true) (hm : m = (pickN (ofP Q X inn) rn).length) : Calls Try.prog 29 #[.slice rs rn rc_, .slice is_ inn ic_] w fun e w' => ∃ go co so_ gn cn sn_, (m = 0 ∨ so_ = some ⟨go, 0, none⟩) ∧ (m = 0 ∨ sn_ = some ⟨gn, 0, none⟩) ∧ m ≤ co ∧ m ≤ cn ∧ w.heap.size ≤ go ∧ (m = 0 ∨ w.heap.size ≤ gn) ∧ Rws w' go 0 m (onlyR Q (pickN (ofP Q X inn) rn)) ∧ (∀ i, i < m → w'.cell? ⟨gn, i, none⟩ = some (.int .i64 (LN (pickN (ofP Q X inn) rn) i : Int))) ∧ e = .returned (.tuple #[.slice so_ m co, .slice sn_ m cn, .int .i64 0]) ∧ Bel w w' :=
  (ronly_ch rb ro rn rc_ rs Q ib io inn ic_ is_ X w hrs hrc hrm hr or_ his hic him hi_ hl1 hl2).mono fun e w' h => by
    rcases h with ⟨h1, _⟩ | ⟨_, h1⟩
    · rw [hcr] at h1; cases h1
    · rw [← hm] at h1; exact h1
theorem own_w {base : Nat} {w : World} {v : Value} {n : Nat} {L : List Nat} (hn : L.length = n) (h : OwnR 1 base w v n (intsV L)) : ∃ g c sl, v = .slice sl n c ∧ (n = 0 ∨ sl = some ⟨g, 0, none⟩) ∧ n ≤ c ∧ (0 < n → base ≤ g ∧ ∀ o, w.frozen? ⟨g, o, none⟩ = false) ∧ ∀ i, i < n → w.cell? ⟨g, i, none⟩ = some (.int .i64 (LN L i : Int)) := by
  rcases h.2 with ⟨rfl, rfl⟩ | ⟨g, c, rfl, h1, h2, h3, h4, h5, h6⟩
  · exact ⟨0, 0, none, rfl, .inl rfl, Nat.le_refl _, fun h => by omega, fun i hi => by omega⟩
  · refine ⟨g, c, some ⟨g, 0, none⟩, rfl, .inr rfl, h2, fun _ => ⟨h1, h6⟩, fun i hi => ?_⟩
    have hiL : i < L.length := by omega
    have h5 := h4 i (.int .i64 (LN L i : Int)) (by unfold intsV; rw [List.getElem?_map, List.getElem?_eq_getElem hiL, LN_get hiL]; rfl)
    rwa [Nat.zero_add] at h5

set_option maxRecDepth 100000 in
set_option maxHeartbeats 8000000 in
theorem sp_ok (rb ro rn rc_ : Nat) (rs : Option Addr) (Q : Nat → RD) (qb qo qn qc_ : Nat) (qs : Option Addr) (Q2 : Nat → RD) (sb so sn sc_ : Nat) (ss : Option Addr) (S : Nat → SD) (ib io inn ic_ : Nat) (is_ : Option Addr) (X : Nat → Int) (w : World) (hrs : rn = 0 ∨ rs = some ⟨rb, ro, none⟩) (hrc : rn ≤ rc_) (hrm : rc_ ≤ maxLen) (hr : Rws w rb ro rn Q) (or_ : ∀ i, i < rn → rok (Q i)) (hqs : qn = 0 ∨ qs = some ⟨qb, qo, none⟩) (hqc : qn ≤ qc_) (hqm : qc_ ≤ maxLen) (hq : Rws w qb qo qn Q2) (oq_ : ∀ i, i < qn → rok (Q2 i)) (hss : sn = 0 ∨ ss = some ⟨sb, so, none⟩) (hsc : sn ≤ sc_) (hsm : sc_ ≤ maxLen) (hs : Sts w sb so sn S) (os : ∀ i, i < sn → sok (S i)) (his : inn = 0 ∨ is_ = some ⟨ib, io, none⟩) (hic : inn ≤ ic_) (him : ic_ ≤ maxLen) (hi_ : Ints w ib io inn X) (hb1 : rn * 112 ≤ 140737488351232) (hb2 : sn * 40 ≤ 140737488351232) (hg1 : lgB rn sn = false) (hg2 : lgB qn sn = false) (hi1 : inn ≤ 60) (hl1 : rn ≤ 1048576) (hcr : crB Q rn 1024 rn = true) : Calls Try.prog 5 #[.slice rs rn rc_, .slice qs qn qc_, .slice ss sn sc_, .slice is_ inn ic_] w fun e w' => e = .returned (.bool true) ∧ Bel w w' := by
  have hr200 : rn ≤ 200 := by unfold lgB at hg1; simp at hg1; omega
  have t1 : Stg 1 := trivial
  have q1 : (axE Q rn Q2 qn S sn == axE Q rn Q2 qn S sn) = true := by simp
  have q2 : (axB Q rn Q2 qn S sn == axB Q rn Q2 qn S sn) = true := by simp
  have a1 : ¬ (60 : Int) < (inn : Int) := by omega
  have hpl := pick_le (ofP Q X inn) rn
  go_enter Try.func5, Try.ntmps5
  repeat (first | (go_at_call 9; (with_reducible refine (awake21 _).mono ?_); rintro e w1 ⟨rfl, BB⟩) | (have zz := t1; clear zz t1; have t2 : Stg 2 := trivial; go_at_call 17; (with_reducible refine (large_w rs ss rn rc_ sn sc_ _).mono ?_); rintro e wz ⟨rfl, rfl⟩; rw [hg1]) | (have zz := t2; clear zz t2; have t3 : Stg 3 := trivial; go_at_call 17; (with_reducible refine (large_w qs ss qn qc_ sn sc_ _).mono ?_); rintro e wz ⟨rfl, rfl⟩; rw [hg2]) | (go_at_call 18; (with_reducible refine (rowsLent_w rb ro rn rc_ rs Q _ hrs hrc hrm (hr.bel BB) or_ hb1).mono ?_); rintro e w2 ⟨g1, c1, hg1w, hc1, hm1, hL1, hL2, rfl, hbw2⟩; have BC := bl_trans BB hbw2) | (go_at_call 19; (with_reducible refine (stillsLent_w sb so sn sc_ ss S _ hss hsc hsm (hs.bel BC) os hb2).mono ?_); rintro e w3 ⟨g2, c2, hg2w, hc2, hm2, hM1, hM2, rfl, hbw3⟩; have BD := bl_trans BC hbw3; have L3 := hL1.bel hbw3; have N3 := rng_bel hL2 hbw3) | (go_at_call 10; (with_reducible refine (apart_all g1 0 rn c1 (some ⟨g1, 0, none⟩) Q qb qo qn qc_ qs Q2 g2 0 sn c2 (some ⟨g2, 0, none⟩) S _ (.inr rfl) (by omega) hm1 L3 or_ hqs hqc hqm (hq.bel BD) oq_ (.inr rfl) (by omega) hm2 hM1 os).mono ?_); rintro e w4 ⟨rfl, hbw4⟩; have BE := bl_trans BD hbw4) | (go_at_call 27; (with_reducible refine (rapart_all rb ro rn rc_ rs Q qb qo qn qc_ qs Q2 sb so sn sc_ ss S _ hrs hrc hrm (hr.bel BE) or_ hqs hqc hqm (hq.bel BE) oq_ hss hsc hsm (hs.bel BE) os).mono ?_); rintro e w5 ⟨rfl, hbw5⟩; have BF := bl_trans BE hbw5; have L5 := (L3.bel hbw4).bel hbw5; have N5 := rng_bel (rng_bel N3 hbw4) hbw5; have M5 := (hM1.bel hbw4).bel hbw5; have O5 := rng_bel (rng_bel hM2 hbw4) hbw5) | (go_at_call 28; (with_reducible refine (only_ok2 g1 0 rn c1 (some ⟨g1, 0, none⟩) Q ib io inn ic_ is_ X _ (.inr rfl) (by omega) hm1 L5 or_ his hic him (hi_.bel BF) hl1 (by omega) hcr).mono ?_); rintro e w6 ⟨gm, m, v2, hmL, hgm, hRm, htm, hOa, hdd, rfl, hbw6⟩; obtain ⟨ga, ca, sa, rfl, hsa, hca, hwa, hat⟩ := own_w hmL.symm hOa; (have hmV : Veil (m = (pickN (ofP Q X inn) rn).length) := hmL); clear hmL hOa; have BG := bl_trans BF hbw6) | (go_at_call 29; (with_reducible refine (ronly_yes rb ro rn rc_ rs Q ib io inn ic_ is_ X m _ hrs hrc hrm (hr.bel BG) or_ his hic him (hi_.bel BG) hl1 (by omega) hcr hmV.out).mono ?_); rintro e w7 ⟨go, co, so_, gn, cn, sn_, ho1, hn1, ho2, hn2, hob, hnb, hoR, hnI, rfl, hbw7⟩) | go_values | go_skip | go_guarded | go_step | go_upon | go_back | dsimp only)
  have hm200 : m ≤ 200 := by have := hmV.out; omega
  have okO : ∀ j, j < m → rok (onlyR Q (pickN (ofP Q X inn) rn) j) := fun j hj => only_rok9 or_ j (by rw [← hmV.out]; exact hj)
  go_loopw [22] (fun i wr => ∃ k : Nat, k ≤ m ∧ i = .int .i64 k ∧ Bel w5 wr ∧ (∀ i, k ≤ i → i < m → wr.cell? ⟨ga, i, none⟩ = some (.int .i64 (LN (pickN (ofP Q X inn) rn) i : Int))) ∧ (∀ i, i < m → wr.cell? ⟨gn, i, none⟩ = some (.int .i64 (LN (pickN (ofP Q X inn) rn) i : Int))) ∧ Rws wr gm 0 m (onlyR Q (pickN (ofP Q X inn) rn)) ∧ wr.there gm 0 (m * 14) ∧ Rws wr go 0 m (onlyR Q (pickN (ofP Q X inn) rn)) ∧ (0 < m → ∀ o, wr.frozen? ⟨ga, o, none⟩ = false)) (fun i _ => m - (intOf i).toNat)
  case atStart => exact ⟨0, by omega, rfl, bl_trans hbw6 hbw7, fun i _ hi => keep hbw7 (hat i hi), hnI, hRm.bel hbw7, bel_there htm hbw7, hoR, fun h0 o => by rw [hbw7.2]; exact (hwa h0).2 o⟩
  case round =>
    obtain ⟨k, hk, rfl, hB, hI1, hI2, hI3, hI4, hI5, hI6⟩ := hrel
    by_cases hlt : k < m
    · have e1 : sa = some ⟨ga, 0, none⟩ := by rcases hsa with h | h; omega; exact h
      have e2 : sn_ = some ⟨gn, 0, none⟩ := by rcases hn1 with h | h; omega; exact h
      subst e1 e2
      have hkI : (k : Int) < (m : Int) := by omega
      have ka := hI1 k (Nat.le_refl _) hlt
      have kn := hI2 k hlt
      have hfa := hI6 (by omega)
      have hwb := (hwa (by omega)).1
      have hga6 : ga < w6.heap.size := World.block_lt_of_cell? w6 _ (hat k hlt)
      have hne1 : gn ≠ ga := by rcases hnb with h | h <;> omega
      have hne2 : gm ≠ ga := by have := hdd ga ca rfl (by omega); omega
      have hne3 : go ≠ ga := by omega
      have qq : (((LN (pickN (ofP Q X inn) rn) k : Nat) : Int) == ((LN (pickN (ofP Q X inn) rn) k : Nat) : Int)) = true := by simp
      repeat (first | go_values | go_skip | go_guarded | go_step | go_upon | go_back | dsimp only)
      refine wp_region_mono 9 rfl (fun i W v => match i with | 0 => v = .slice (some ⟨ga, 0, none⟩) m ca | 1 => v = .int .i64 (k : Int) | 2 => v = .pointer (some ⟨ga, k, none⟩) | 3 => v = .int .i64 (LN (pickN (ofP Q X inn) rn) k : Int) | 4 => v = .slice (some ⟨gn, 0, none⟩) m cn | 5 => v = .int .i64 (k : Int) | 6 => v = .pointer (some ⟨gn, k, none⟩) | 7 => v = .int .i64 (LN (pickN (ofP Q X inn) rn) k : Int) | 8 => v = .bool false | _ => False) ?A_lw (by kernel_rfl) (by kernel_rfl) ?hA_lw ?hmo_lw ?hq_lw ?ht_lw
      case hA_lw =>
        intro s
        simp only [putL, dstO, Act.put, List.getElem?_toArray, List.getElem?_cons_zero, List.getElem?_cons_succ, Option.bind_some, List.setIfInBounds_toArray, List.set_cons_zero, List.set_cons_succ, if_true]
        all_goals exact rfl
      case hmo_lw =>
        intro i W W' v hi hb h
        rcases (show i = 0 ∨ i = 1 ∨ i = 2 ∨ i = 3 ∨ i = 4 ∨ i = 5 ∨ i = 6 ∨ i = 7 ∨ i = 8 by omega) with rfl | rfl | rfl | rfl | rfl | rfl | rfl | rfl | rfl
        all_goals exact h
      case hq_lw =>
        intro i o hi ho s W hs hb K hK
        have uc := keep hb ka; have un := keep hb kn
        rcases (show i = 0 ∨ i = 1 ∨ i = 2 ∨ i = 3 ∨ i = 4 ∨ i = 5 ∨ i = 6 ∨ i = 7 ∨ i = 8 by omega) with rfl | rfl | rfl | rfl | rfl | rfl | rfl | rfl | rfl
        · cases ho
          simp only [Act.put, List.setIfInBounds_toArray, List.set_cons_zero, List.set_cons_succ] at hK
          clear hs
          go_simp
          all_goals first | with_reducible exact hK.out _ _ rfl (bl_refl _) | exact hK.out _ _ rfl (bl_refl _)
        · cases ho
          simp only [Act.put, List.setIfInBounds_toArray, List.set_cons_zero, List.set_cons_succ] at hK
          clear hs
          go_simp
          all_goals first | with_reducible exact hK.out _ _ rfl (bl_refl _) | exact hK.out _ _ rfl (bl_refl _)
        · cases ho
          have e0 : s 0 = _ := hs 0 (by decide) (by kernel_rfl)
          have e1 : s 1 = _ := hs 1 (by decide) (by kernel_rfl)
          simp only [e0, e1] at hK ⊢
          simp only [Act.put, List.setIfInBounds_toArray, List.set_cons_zero, List.set_cons_succ] at hK
          clear hs
          go_simp
          all_goals first | with_reducible exact hK.out _ _ rfl (bl_refl _) | exact hK.out _ _ rfl (bl_refl _)
        · cases ho
          have e2 : s 2 = _ := hs 2 (by decide) (by kernel_rfl)
          simp only [e2] at hK ⊢
          simp only [Act.put, List.setIfInBounds_toArray, List.set_cons_zero, List.set_cons_succ] at hK
          clear hs
          go_simp
          all_goals first | with_reducible exact hK.out _ _ rfl (bl_refl _) | exact hK.out _ _ rfl (bl_refl _)
        · cases ho
          simp only [Act.put, List.setIfInBounds_toArray, List.set_cons_zero, List.set_cons_succ] at hK
          clear hs
          go_simp
          all_goals first | with_reducible exact hK.out _ _ rfl (bl_refl _) | exact hK.out _ _ rfl (bl_refl _)
        · cases ho
          simp only [Act.put, List.setIfInBounds_toArray, List.set_cons_zero, List.set_cons_succ] at hK
          clear hs
          go_simp
          all_goals first | with_reducible exact hK.out _ _ rfl (bl_refl _) | exact hK.out _ _ rfl (bl_refl _)
        · cases ho
          have e4 : s 4 = _ := hs 4 (by decide) (by kernel_rfl)
          have e5 : s 5 = _ := hs 5 (by decide) (by kernel_rfl)
          simp only [e4, e5] at hK ⊢
          simp only [Act.put, List.setIfInBounds_toArray, List.set_cons_zero, List.set_cons_succ] at hK
          clear hs
          go_simp
          all_goals first | with_reducible exact hK.out _ _ rfl (bl_refl _) | exact hK.out _ _ rfl (bl_refl _)
        · cases ho
          have e6 : s 6 = _ := hs 6 (by decide) (by kernel_rfl)
          simp only [e6] at hK ⊢
          simp only [Act.put, List.setIfInBounds_toArray, List.set_cons_zero, List.set_cons_succ] at hK
          clear hs
          go_simp
          all_goals first | with_reducible exact hK.out _ _ rfl (bl_refl _) | exact hK.out _ _ rfl (bl_refl _)
        · cases ho
          have e3 : s 3 = _ := hs 3 (by decide) (by kernel_rfl)
          have e7 : s 7 = _ := hs 7 (by decide) (by kernel_rfl)
          simp only [e3, e7] at hK ⊢
          simp only [Act.put, List.setIfInBounds_toArray, List.set_cons_zero, List.set_cons_succ] at hK
          clear hs
          go_simp
          all_goals first | with_reducible exact hK.out _ _ rfl (bl_refl _) | exact hK.out _ _ rfl (bl_refl _)
      case ht_lw =>
        intro s W hs hb
        have e0 : s 0 = _ := hs 0 (by decide)
        have e1 : s 1 = _ := hs 1 (by decide)
        have e2 : s 2 = _ := hs 2 (by decide)
        have e3 : s 3 = _ := hs 3 (by decide)
        have e4 : s 4 = _ := hs 4 (by decide)
        have e5 : s 5 = _ := hs 5 (by decide)
        have e6 : s 6 = _ := hs 6 (by decide)
        have e7 : s 7 = _ := hs 7 (by decide)
        have e8 : s 8 = _ := hs 8 (by decide)
        simp only [e0, e1, e2, e3, e4, e5, e6, e7, e8]
        clear hs e0 e1 e2 e3 e4 e5 e6 e7 e8
        have ka9 := keep hb ka
        have fa9 : W.frozen? ⟨ga, k, none⟩ = false := by rw [hb.2]; exact hfa k
        repeat (first | go_values | go_skip | go_guarded | go_step | go_upon | go_back | dsimp only)
        refine ⟨⟨k + 1, by omega, by first | go_num | rfl, bel_set1 (bl_trans hB hb) hwb, fun i hi1 hi2 => ?_, fun i hi => ?_, fun i hi => ?_, ?_, fun i hi => ?_, fun h0 o => ?_⟩, by simp [intOf]; omega⟩
        · rw [set_away (by omega)]; exact keep hb (hI1 i (by omega) hi2)
        · rw [set_block hne1]; exact keep hb (hI2 i hi)
        · exact fun c v hc => by rw [set_block hne2]; exact keep hb (hI3 i hi c v hc)
        · exact there_set (bel_there hI4 hb)
        · exact fun c v hc => by rw [set_block hne3]; exact keep hb (hI5 i hi c v hc)
        · rw [World.frozen?_setCell, hb.2]; exact hI6 h0 o
    · have hkn : m = k := by omega
      subst hkn
      repeat (first | (go_at_call 16; (with_reducible refine (sameRows9 gm 0 m go 0 co m (some ⟨gm, 0, none⟩) so_ (onlyR Q (pickN (ofP Q X inn) rn)) _ (.inr rfl) ho1 (Nat.le_refl _) ho2 (by omega) hI3 hI5 okO).mono ?_); rintro e w8 ⟨rfl, hbw8⟩) | (go_at_call 25; (with_reducible refine (spoil_w gm m (some ⟨gm, 0, none⟩) _ w5 (.inr rfl) (bel_there hI4 hbw8) (bl_trans hB hbw8) hgm (by omega)).mono ?_); rintro e w9 ⟨rfl, B5z⟩; have BZ := bl_trans BF B5z) | (go_at_call 26; (with_reducible refine (kept_w rb ro rn rc_ rs Q sb so sn sc_ ss S g1 c1 g2 c2 _ hrs hrc hrm (hr.bel BZ) or_ hss hsc hsm (hs.bel BZ) os (L5.bel B5z) (rng_bel N5 B5z) hc1 hm1 (M5.bel B5z) (rng_bel O5 B5z) hc2 hm2).mono ?_); rintro e wk ⟨rfl, hbk⟩) | go_values | go_skip | go_guarded | go_step | go_upon | go_back | dsimp only)
      go_ret
      exact ⟨rfl, bl_trans BZ hbk⟩

end Go.Proofs.Ytchfgaooogfkdaa
