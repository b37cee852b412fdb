/-
  What each function of package poly answers, and what the reference of its chapter answers: one contract a function, for every float: the answer stands in the relation of its formula to what was given; of the memory that was there nothing has turned.
-/
import Derived.Test.YtchfgaooogfkdaaVec
import Derived.Test.YtchfgaooogfkdaaXy
import Derived.Below
import Derived.OwnWalk
import Derived.Laws.AppendOwn
import Derived.Lib.SliceRun
import Derived.Laws.MakeOwn
import Derived.WalkKit
import Derived.WalkLawsBesides
import Derived.WalkSpells
import Derived.ProofKit
import Derived.OpenShut
import Derived.Deep.RegionHeld3
namespace Go.Proofs.Ytchfgaooogfkdaa
open Go.ChangeShapes Go.WideShapes Go.ChangeAt Go.RowKit
set_option linter.unusedVariables false
set_option linter.unusedSimpArgs false


theorem own_rows {base : Nat} {w : World} {v : Value} {n : Nat} {Q : Nat → RD} (h : OwnR 14 base w v n (rowsL Q n)) : ∃ g c sl, v = .slice sl n c ∧ (n = 0 ∨ sl = some ⟨g, 0, none⟩) ∧ n ≤ c ∧ c ≤ maxLen ∧ Rws w g 0 n Q := by
  rcases h.2 with ⟨rfl, rfl⟩ | ⟨g, c, rfl, h1, h2, h3, h4, _⟩
  · exact ⟨0, 0, none, rfl, .inl rfl, Nat.le_refl _, Nat.zero_le _, fun i hi => by omega⟩
  · exact ⟨g, c, some ⟨g, 0, none⟩, rfl, .inr rfl, h2, h3, rowsL_at (N := []) (by rwa [List.append_nil])⟩
set_option maxRecDepth 100000 in
set_option maxHeartbeats 4000000 in
theorem sa_rounds (rb ro rn rc_ : Nat) (rs : Option Addr) (Q : Nat → RD) (qb qo qn qc_ : Nat) (qs : Option Addr) (Q2 : Nat → RD) (sb so sn sc_ : Nat) (ss : Option Addr) (S : Nat → SD) (t : Int) (w : World) (hrs : rn = 0 ∨ rs = some ⟨rb, ro, none⟩) (hrc : rn ≤ rc_) (hrm : rc_ ≤ maxLen) (hr : Rws w rb ro rn Q) (or_ : ∀ i, i < rn → rok (Q i)) (hqs : qn = 0 ∨ qs = some ⟨qb, qo, none⟩) (hqc : qn ≤ qc_) (hqm : qc_ ≤ maxLen) (hq : Rws w qb qo qn Q2) (oq_ : ∀ i, i < qn → rok (Q2 i)) (hss : sn = 0 ∨ ss = some ⟨sb, so, none⟩) (hsc : sn ≤ sc_) (hsm : sc_ ≤ maxLen) (hs : Sts w sb so sn S) (os : ∀ i, i < sn → sok (S i)) (hl1 : rn ≤ 60) (hl2 : qn ≤ 60) (hl3 : sn ≤ 60) (he : asE Q rn S sn = 0) (hg : asE Q2 qn S sn = 0) (ht : t < 0 ∨ 64 < t) : Calls Try.prog 3 #[.slice rs rn rc_, .slice qs qn qc_, .slice ss sn sc_, .int .i64 t] w fun e w' => e = .returned (.bool true) ∧ Bel w w' := by
  have i1 : ¬ (60 : Int) < rn := by omega
  have i2 : ¬ (60 : Int) < qn := by omega
  have i3 : ¬ (60 : Int) < sn := by omega
  have t1 : Stg 1 := trivial
  cases eap : apB Q rn Q2 qn S
  all_goals
    rcases (show t < 0 ∨ (¬ t < 0 ∧ 64 < t) by omega) with j1 | ⟨j1, j2⟩
    all_goals
      go_enter Try.func3, Try.ntmps3
      repeat (first | (go_at_call 9; (with_reducible refine (awake21 _).mono ?_); rintro e w1 ⟨rfl, BB⟩) | (have zz := t1; clear zz t1; have t2 : Stg 2 := trivial; go_at_call 10; (with_reducible refine (apart_ok rb ro rn rc_ rs Q qb qo qn qc_ qs Q2 sb so sn sc_ ss S _ hrs hrc hrm (hr.bel BB) or_ hqs hqc hqm (hq.bel BB) oq_ hss hsc hsm (hs.bel BB) os he hg).mono ?_); rintro e w2 ⟨rfl, hb2⟩; rw [eap]; have BC := bl_trans BB hb2) | (have zz := t2; clear zz t2; have t3 : Stg 3 := trivial; go_at_call 10; (with_reducible refine (apart_ok qb qo qn qc_ qs Q2 rb ro rn rc_ rs Q sb so sn sc_ ss S _ hqs hqc hqm (hq.bel BC) oq_ hrs hrc hrm (hr.bel BC) or_ hss hsc hsm (hs.bel BC) os hg he).mono ?_); rintro e w3 ⟨rfl, hb3⟩; rw [ap_sym, eap]; have BD := bl_trans BC hb3) | go_values | go_skip | go_guarded | go_step | go_upon | go_back | dsimp only)
      go_ret
      exact ⟨rfl, BD⟩
set_option maxRecDepth 100000 in
set_option maxHeartbeats 8000000 in
theorem sa_not (rb ro rn rc_ : Nat) (rs : Option Addr) (Q : Nat → RD) (qb qo qn qc_ : Nat) (qs : Option Addr) (Q2 : Nat → RD) (sb so sn sc_ : Nat) (ss : Option Addr) (S : Nat → SD) (t : Nat) (w : World) (hrs : rn = 0 ∨ rs = some ⟨rb, ro, none⟩) (hrc : rn ≤ rc_) (hrm : rc_ ≤ maxLen) (hr : Rws w rb ro rn Q) (or_ : ∀ i, i < rn → rok (Q i)) (hqs : qn = 0 ∨ qs = some ⟨qb, qo, none⟩) (hqc : qn ≤ qc_) (hqm : qc_ ≤ maxLen) (hq : Rws w qb qo qn Q2) (oq_ : ∀ i, i < qn → rok (Q2 i)) (hss : sn = 0 ∨ ss = some ⟨sb, so, none⟩) (hsc : sn ≤ sc_) (hsm : sc_ ≤ maxLen) (hs : Sts w sb so sn S) (os : ∀ i, i < sn → sok (S i)) (hl1 : rn ≤ 60) (hl2 : qn ≤ 60) (hl3 : sn ≤ 60) (he : asE Q rn S sn = 0) (hg : asE Q2 qn S sn = 0) (ht : t ≤ 64) (eap : apB Q rn Q2 qn S = false) : Calls Try.prog 3 #[.slice rs rn rc_, .slice qs qn qc_, .slice ss sn sc_, .int .i64 t] w fun e w' => e = .returned (.bool true) ∧ Bel w w' := by
  have i1 : ¬ (60 : Int) < rn := by omega
  have i2 : ¬ (60 : Int) < qn := by omega
  have i3 : ¬ (60 : Int) < sn := by omega
  have t1 : Stg 1 := trivial
  have j1 : ¬ (t : Int) < 0 := by omega
  have j2 : ¬ (64 : Int) < (t : Int) := by omega
  have hof : ∀ i, i < qn → (Q2 i).ro < 1000 := fun i hi => by have := row_of (asE_zero hg).2.2.1 i hi; omega
  have hjo := jo_as he hg (by omega)
  have hjr := jo_rok or_ oq_
  go_enter Try.func3, Try.ntmps3
  repeat (first | (go_at_call 9; (with_reducible refine (awake21 _).mono ?_); rintro e w1 ⟨rfl, BB⟩) | (have zz := t1; clear zz t1; have t2 : Stg 2 := trivial; go_at_call 10; (with_reducible refine (apart_ok rb ro rn rc_ rs Q qb qo qn qc_ qs Q2 sb so sn sc_ ss S _ hrs hrc hrm (hr.bel BB) or_ hqs hqc hqm (hq.bel BB) oq_ hss hsc hsm (hs.bel BB) os he hg).mono ?_); rintro e w2 ⟨rfl, hb2⟩; rw [eap]; have BC := bl_trans BB hb2) | (have zz := t2; clear zz t2; have t3 : Stg 3 := trivial; go_at_call 10; (with_reducible refine (apart_ok qb qo qn qc_ qs Q2 rb ro rn rc_ rs Q sb so sn sc_ ss S _ hqs hqc hqm (hq.bel BC) oq_ hrs hrc hrm (hr.bel BC) or_ hss hsc hsm (hs.bel BC) os hg he).mono ?_); rintro e w3 ⟨rfl, hb3⟩; rw [ap_sym, eap]; have BD := bl_trans BC hb3) | (have zz := t3; clear zz t3; have t4 : Stg 4 := trivial; go_at_call 12; (with_reducible refine (joined_w rb ro rn rc_ rs Q qb qo qn qc_ qs Q2 _ hrs hrc hrm (hr.bel BD) or_ hqs hqc hqm (hq.bel BD) oq_ hl1 hl2 hof).mono ?_); rintro e w4 ⟨v4, hO4, rfl, hb4⟩; obtain ⟨jb, jc, js, rfl, hjs, hjc, hjm, hj⟩ := own_rows hO4; have BE := bl_trans BD hb4) | (have zz := t4; clear zz t4; have t5 : Stg 5 := trivial; go_at_call 11; (with_reducible refine (all_ok jb 0 (rn + qn) jc js (joQ Q rn Q2) sb so sn sc_ ss S t _ hjs hjc hjm hj hjr hss hsc hsm (hs.bel BE) os hjo ht).mono ?_); rintro e w5 ⟨vw5, uw5, hallw5, rfl, hbw5⟩; obtain ⟨grw5, rcw5, rsw5, gsw5, scw5, ssw5, rfl, rfl, p1w5, p2w5, p3w5, p4w5, p5w5, p6w5, p7w5, p8w5, p9w5, hRWw5, hSMw5⟩ := hallw5.at_; have BF := bl_trans BE hbw5) | (have zz := t5; clear zz t5; have t6 : Stg 6 := trivial; go_at_call 11; (with_reducible refine (all_ok rb ro rn rc_ rs Q sb so sn sc_ ss S t _ hrs hrc hrm (hr.bel BF) or_ hss hsc hsm (hs.bel BF) os he ht).mono ?_); rintro e w6 ⟨vw6, uw6, hallw6, rfl, hbw6⟩; obtain ⟨grw6, rcw6, rsw6, gsw6, scw6, ssw6, rfl, rfl, p1w6, p2w6, p3w6, p4w6, p5w6, p6w6, p7w6, p8w6, p9w6, hRWw6, hSMw6⟩ := hallw6.at_; have BG := bl_trans BF hbw6) | (have zz := t6; clear zz t6; have t7 : Stg 7 := trivial; go_at_call 11; (with_reducible refine (all_ok qb qo qn qc_ qs Q2 sb so sn sc_ ss S t _ hqs hqc hqm (hq.bel BG) oq_ hss hsc hsm (hs.bel BG) os hg ht).mono ?_); rintro e w7 ⟨vw7, uw7, hallw7, rfl, hbw7⟩; obtain ⟨grw7, rcw7, rsw7, gsw7, scw7, ssw7, rfl, rfl, p1w7, p2w7, p3w7, p4w7, p5w7, p6w7, p7w7, p8w7, p9w7, hRWw7, hSMw7⟩ := hallw7.at_; have BH := bl_trans BG hbw7) | go_values | go_skip | go_guarded | go_step | go_upon | go_back | dsimp only)
  go_ret
  exact ⟨rfl, BH⟩

end Go.Proofs.Ytchfgaooogfkdaa
