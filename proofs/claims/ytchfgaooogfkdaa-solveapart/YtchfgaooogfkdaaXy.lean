/-
  What each function of package poly answers, and what the reference of its chapter answers: one contract a function, for every float: the answer stands in the relation of its formula to what was given; of the memory that was there nothing has turned.
-/
import Derived.Test.YtchfgaooogfkdaaVec
import Derived.Test.YtchfgaooogfkdaaXx
import Derived.Below
import Derived.OwnWalk
import Derived.Laws.AppendOwn
import Derived.Lib.SliceRun
import Derived.Laws.MakeOwn
import Derived.WalkKit
import Derived.WalkLawsBesides
import Derived.WalkSpells
import Derived.ProofKit
import Derived.OpenShut
import Derived.Deep.RegionHeld3
namespace Go.Proofs.Ytchfgaooogfkdaa
open Go.ChangeShapes Go.WideShapes Go.ChangeAt Go.RowKit
set_option linter.unusedVariables false
set_option linter.unusedSimpArgs false


set_option maxRecDepth 100000 in
set_option maxHeartbeats 4000000 in
theorem sa_many (rb ro rn rc_ : Nat) (rs : Option Addr) (Q : Nat → RD) (qb qo qn qc_ : Nat) (qs : Option Addr) (Q2 : Nat → RD) (sb so sn sc_ : Nat) (ss : Option Addr) (S : Nat → SD) (t : Int) (w : World) (h : 60 < rn ∨ 60 < qn ∨ 60 < sn) : Calls Try.prog 3 #[.slice rs rn rc_, .slice qs qn qc_, .slice ss sn sc_, .int .i64 t] w fun e w' => e = .returned (.bool true) ∧ Bel w w' := by
  rcases (show (60 : Int) < rn ∨ (¬ (60 : Int) < rn ∧ (60 : Int) < qn) ∨ (¬ (60 : Int) < rn ∧ ¬ (60 : Int) < qn ∧ (60 : Int) < sn) by omega) with h1 | ⟨h1, h2⟩ | ⟨h1, h2, h3⟩
  all_goals
    go_enter Try.func3, Try.ntmps3
    repeat (first | (go_at_call 9; (with_reducible refine (awake21 _).mono ?_); rintro e w1 ⟨rfl, hb1⟩) | go_values | go_skip | go_guarded | go_step | go_upon | go_back | dsimp only)
    go_ret
    exact ⟨rfl, hb1⟩

set_option maxRecDepth 100000 in
set_option maxHeartbeats 4000000 in
theorem sa_e1 (rb ro rn rc_ : Nat) (rs : Option Addr) (Q : Nat → RD) (qb qo qn qc_ : Nat) (qs : Option Addr) (Q2 : Nat → RD) (sb so sn sc_ : Nat) (ss : Option Addr) (S : Nat → SD) (t : Int) (w : World) (hrs : rn = 0 ∨ rs = some ⟨rb, ro, none⟩) (hrc : rn ≤ rc_) (hrm : rc_ ≤ maxLen) (hr : Rws w rb ro rn Q) (or_ : ∀ i, i < rn → rok (Q i)) (hqs : qn = 0 ∨ qs = some ⟨qb, qo, none⟩) (hqc : qn ≤ qc_) (hqm : qc_ ≤ maxLen) (hq : Rws w qb qo qn Q2) (oq_ : ∀ i, i < qn → rok (Q2 i)) (hss : sn = 0 ∨ ss = some ⟨sb, so, none⟩) (hsc : sn ≤ sc_) (hsm : sc_ ≤ maxLen) (hs : Sts w sb so sn S) (os : ∀ i, i < sn → sok (S i)) (hl1 : rn ≤ 60) (hl2 : qn ≤ 60) (hl3 : sn ≤ 60) (e1 e2 : Int) (he : asE Q rn S sn = e1) (h1 : e1 ≠ 0) (hg : asE Q2 qn S sn = e2) (h2 : e2 ≠ 0) : Calls Try.prog 3 #[.slice rs rn rc_, .slice qs qn qc_, .slice ss sn sc_, .int .i64 t] w fun e w' => e = .returned (.bool true) ∧ Bel w w' := by
  have i1 : ¬ (60 : Int) < rn := by omega
  have i2 : ¬ (60 : Int) < qn := by omega
  have i3 : ¬ (60 : Int) < sn := by omega
  have g1 : (e1 == 0) = false := by simp [h1]
  have g2 : (e2 == 0) = false := by simp [h2]
  have t1 : Stg 1 := trivial
  go_enter Try.func3, Try.ntmps3
  repeat (first | (go_at_call 9; (with_reducible refine (awake21 _).mono ?_); rintro e w1 ⟨rfl, BB⟩) | (have zz := t1; clear zz t1; have t2 : Stg 2 := trivial; go_at_call 10; (with_reducible refine (apart_bad1 rb ro rn rc_ rs Q qb qo qn qc_ qs Q2 sb so sn sc_ ss S _ hrs hrc hrm (hr.bel BB) or_ hqs hqc hqm (hq.bel BB) oq_ hss hsc hsm (hs.bel BB) os e1 he h1).mono ?_); rintro e w2 ⟨rfl, hb2⟩; have BC := bl_trans BB hb2) | (have zz := t2; clear zz t2; go_at_call 10; (with_reducible refine (apart_bad1 qb qo qn qc_ qs Q2 rb ro rn rc_ rs Q sb so sn sc_ ss S _ hqs hqc hqm (hq.bel BC) oq_ hrs hrc hrm (hr.bel BC) or_ hss hsc hsm (hs.bel BC) os e2 hg h2).mono ?_); rintro e w3 ⟨rfl, hb3⟩) | go_values | go_skip | go_guarded | go_step | go_upon | go_back | dsimp only)
  go_ret
  exact ⟨rfl, bl_trans BC hb3⟩

set_option maxRecDepth 100000 in
set_option maxHeartbeats 4000000 in
theorem sa_e2 (rb ro rn rc_ : Nat) (rs : Option Addr) (Q : Nat → RD) (qb qo qn qc_ : Nat) (qs : Option Addr) (Q2 : Nat → RD) (sb so sn sc_ : Nat) (ss : Option Addr) (S : Nat → SD) (t : Int) (w : World) (hrs : rn = 0 ∨ rs = some ⟨rb, ro, none⟩) (hrc : rn ≤ rc_) (hrm : rc_ ≤ maxLen) (hr : Rws w rb ro rn Q) (or_ : ∀ i, i < rn → rok (Q i)) (hqs : qn = 0 ∨ qs = some ⟨qb, qo, none⟩) (hqc : qn ≤ qc_) (hqm : qc_ ≤ maxLen) (hq : Rws w qb qo qn Q2) (oq_ : ∀ i, i < qn → rok (Q2 i)) (hss : sn = 0 ∨ ss = some ⟨sb, so, none⟩) (hsc : sn ≤ sc_) (hsm : sc_ ≤ maxLen) (hs : Sts w sb so sn S) (os : ∀ i, i < sn → sok (S i)) (hl1 : rn ≤ 60) (hl2 : qn ≤ 60) (hl3 : sn ≤ 60) (e1 : Int) (he : asE Q rn S sn = e1) (h1 : e1 ≠ 0) (hg : asE Q2 qn S sn = 0) : Calls Try.prog 3 #[.slice rs rn rc_, .slice qs qn qc_, .slice ss sn sc_, .int .i64 t] w fun e w' => e = .returned (.bool true) ∧ Bel w w' := by
  have i1 : ¬ (60 : Int) < rn := by omega
  have i2 : ¬ (60 : Int) < qn := by omega
  have i3 : ¬ (60 : Int) < sn := by omega
  have g1 : (e1 == 0) = false := by simp [h1]
  have t1 : Stg 1 := trivial
  go_enter Try.func3, Try.ntmps3
  repeat (first | (go_at_call 9; (with_reducible refine (awake21 _).mono ?_); rintro e w1 ⟨rfl, BB⟩) | (have zz := t1; clear zz t1; have t2 : Stg 2 := trivial; go_at_call 10; (with_reducible refine (apart_bad1 rb ro rn rc_ rs Q qb qo qn qc_ qs Q2 sb so sn sc_ ss S _ hrs hrc hrm (hr.bel BB) or_ hqs hqc hqm (hq.bel BB) oq_ hss hsc hsm (hs.bel BB) os e1 he h1).mono ?_); rintro e w2 ⟨rfl, hb2⟩; have BC := bl_trans BB hb2) | (have zz := t2; clear zz t2; go_at_call 10; (with_reducible refine (apart_bad2 qb qo qn qc_ qs Q2 rb ro rn rc_ rs Q sb so sn sc_ ss S _ hqs hqc hqm (hq.bel BC) oq_ hrs hrc hrm (hr.bel BC) or_ hss hsc hsm (hs.bel BC) os hg e1 he h1).mono ?_); rintro e w3 ⟨rfl, hb3⟩) | go_values | go_skip | go_guarded | go_step | go_upon | go_back | dsimp only)
  go_ret
  exact ⟨rfl, bl_trans BC hb3⟩

set_option maxRecDepth 100000 in
set_option maxHeartbeats 4000000 in
theorem sa_e3 (rb ro rn rc_ : Nat) (rs : Option Addr) (Q : Nat → RD) (qb qo qn qc_ : Nat) (qs : Option Addr) (Q2 : Nat → RD) (sb so sn sc_ : Nat) (ss : Option Addr) (S : Nat → SD) (t : Int) (w : World) (hrs : rn = 0 ∨ rs = some ⟨rb, ro, none⟩) (hrc : rn ≤ rc_) (hrm : rc_ ≤ maxLen) (hr : Rws w rb ro rn Q) (or_ : ∀ i, i < rn → rok (Q i)) (hqs : qn = 0 ∨ qs = some ⟨qb, qo, none⟩) (hqc : qn ≤ qc_) (hqm : qc_ ≤ maxLen) (hq : Rws w qb qo qn Q2) (oq_ : ∀ i, i < qn → rok (Q2 i)) (hss : sn = 0 ∨ ss = some ⟨sb, so, none⟩) (hsc : sn ≤ sc_) (hsm : sc_ ≤ maxLen) (hs : Sts w sb so sn S) (os : ∀ i, i < sn → sok (S i)) (hl1 : rn ≤ 60) (hl2 : qn ≤ 60) (hl3 : sn ≤ 60) (e2 : Int) (he : asE Q rn S sn = 0) (hg : asE Q2 qn S sn = e2) (h2 : e2 ≠ 0) : Calls Try.prog 3 #[.slice rs rn rc_, .slice qs qn qc_, .slice ss sn sc_, .int .i64 t] w fun e w' => e = .returned (.bool true) ∧ Bel w w' := by
  have i1 : ¬ (60 : Int) < rn := by omega
  have i2 : ¬ (60 : Int) < qn := by omega
  have i3 : ¬ (60 : Int) < sn := by omega
  have g2 : (e2 == 0) = false := by simp [h2]
  have t1 : Stg 1 := trivial
  go_enter Try.func3, Try.ntmps3
  repeat (first | (go_at_call 9; (with_reducible refine (awake21 _).mono ?_); rintro e w1 ⟨rfl, BB⟩) | (have zz := t1; clear zz t1; have t2 : Stg 2 := trivial; go_at_call 10; (with_reducible refine (apart_bad2 rb ro rn rc_ rs Q qb qo qn qc_ qs Q2 sb so sn sc_ ss S _ hrs hrc hrm (hr.bel BB) or_ hqs hqc hqm (hq.bel BB) oq_ hss hsc hsm (hs.bel BB) os he e2 hg h2).mono ?_); rintro e w2 ⟨rfl, hb2⟩; have BC := bl_trans BB hb2) | (have zz := t2; clear zz t2; go_at_call 10; (with_reducible refine (apart_bad1 qb qo qn qc_ qs Q2 rb ro rn rc_ rs Q sb so sn sc_ ss S _ hqs hqc hqm (hq.bel BC) oq_ hrs hrc hrm (hr.bel BC) or_ hss hsc hsm (hs.bel BC) os e2 hg h2).mono ?_); rintro e w3 ⟨rfl, hb3⟩) | go_values | go_skip | go_guarded | go_step | go_upon | go_back | dsimp only)
  go_ret
  exact ⟨rfl, bl_trans BC hb3⟩

end Go.Proofs.Ytchfgaooogfkdaa
