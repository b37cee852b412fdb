/-
  What each function of package poly answers, and what the reference of its chapter answers: one contract a function, for every float: the answer stands in the relation of its formula to what was given; of the memory that was there nothing has turned.
-/
import Derived.Test.YtfohggiehbplkaaVec
import Derived.Test.YtfohggiehbplkaaXzo
import Derived.Test.YtfohggiehbplkaaXzp
import Derived.Test.YtfohggiehbplkaaXzq
import Derived.Test.YtfohggiehbplkaaXzs
import Derived.Below
import Derived.OwnWalk
import Derived.Laws.AppendOwn
import Derived.Lib.SliceRun
import Derived.Laws.MakeOwn
import Derived.WalkKit
import Derived.WalkLawsBesides
import Derived.WalkSpells
import Derived.ProofKit
import Derived.OpenShut
import Derived.Deep.RegionHeld3
namespace Go.Proofs.Ytfohggiehbplkaa
open Go.ChangeShapes Go.WideShapes Go.ChangeAt Go.RowKit
set_option linter.unusedVariables false
set_option linter.unusedSimpArgs false


/-- what All answers: the error, and how many rows and stills -/
def aaE (Q : Nat → RD) (rn : Nat) (S : Nat → SD) (sn : Nat) (n : Int) : Int := if asE Q rn S sn = 0 then (if n < 0 ∨ 64 < n then 210 else 0) else asE Q rn S sn
def aaN (e : Int) (m : Nat) : Nat := if e = 0 then m else 0
def leE (Q : Nat → RD) (rn : Nat) (S : Nat → SD) (sn : Nat) : Nat := if asE Q rn S sn = 0 then leM Q S rn else 0
theorem rwM_nil (w : World) (g : Nat) (Q : Nat → RD) : RwM w g 0 Q := ⟨fun j hj => by omega, fun i hi => by omega⟩
theorem stM_nil (w : World) (g : Nat) (M : Nat → SD) : StM w g 0 M := ⟨fun j hj => by omega, fun _ => Z5S, fun i hi => by omega, fun i hi => by omega⟩
theorem allC_nil (w w' : World) (Q : Nat → RD) (M : Nat → SD) : AllC w w' (.slice none 0 0) (.slice none 0 0) 0 0 Q M :=
 ⟨w.heap.size, 0, none, w.heap.size + 1, 0, none, rfl, rfl, .inl rfl, Nat.le_refl _, Nat.zero_le _, .inl rfl, Nat.le_refl _, Nat.zero_le _, Nat.le_refl _, by omega, by omega, rwM_nil _ _ _, stM_nil _ _ _, .inl rfl, .inl rfl⟩
theorem allR_nil (w w' : World) (Q : Nat → RD) (M : Nat → SD) : AllR w w' (.slice none 0 0) (.slice none 0 0) 0 0 Q M :=
 ⟨w.heap.size, 0, none, w.heap.size + 1, 0, none, rfl, rfl, .inl rfl, Nat.le_refl _, Nat.zero_le _, .inl rfl, Nat.le_refl _, Nat.zero_le _, Nat.le_refl _, by omega, by omega, rwM_nil _ _ _, stM_nil _ _ _⟩

theorem all_anyC (rb ro rn rc_ : Nat) (rs : Option Addr) (Q : Nat → RD) (sb so sn sc_ : Nat) (ss : Option Addr) (S : Nat → SD) (n : Int) (w : World) (hrs : rn = 0 ∨ rs = some ⟨rb, ro, none⟩) (hrc : rn ≤ rc_) (hrm : rc_ ≤ maxLen) (hr : Rws w rb ro rn Q) (or_ : ∀ i, i < rn → rok (Q i)) (hss : sn = 0 ∨ ss = some ⟨sb, so, none⟩) (hsc : sn ≤ sc_) (hsm : sc_ ≤ maxLen) (hs : Sts w sb so sn S) (os : ∀ i, i < sn → sok (S i)) : Calls Try.prog 31 #[.slice rs rn rc_, .slice ss sn sc_, .int .i64 n] w fun e w' => ∃ v1 v2, AllC w w' v1 v2 (aaN (aaE Q rn S sn n) rn) (aaN (aaE Q rn S sn n) sn) (itM Q (fun i => tlS (S i)) rn n.toNat).1 (itM Q (fun i => tlS (S i)) rn n.toNat).2 ∧ e = .returned (.tuple #[v1, v2, .int .i64 (aaE Q rn S sn n)]) ∧ Bel w w' := by
 by_cases h1 : asE Q rn S sn = 0
 ·by_cases h2 : n < 0 ∨ 64 < n
  ·have e : (aaE Q rn S sn n) = 210 := by unfold aaE; rw [if_pos h1, if_pos h2]
   rw [e]
   exact (all_rounds rb ro rn rc_ rs Q sb so sn sc_ ss S n w hrs hrc hrm hr or_ hss hsc hsm hs os h1 h2).mono fun e w' ⟨he, hb⟩ => ⟨_, _, allC_nil _ _ _ _, he, hb⟩
  ·have e : (aaE Q rn S sn n) = 0 := by unfold aaE; rw [if_pos h1, if_neg h2]
   obtain ⟨m, rfl⟩ : ∃ m : Nat, n = (m : Int) := ⟨n.toNat, by omega⟩
   rw [e, Int.toNat_natCast]
   exact all_okc rb ro rn rc_ rs Q sb so sn sc_ ss S m w hrs hrc hrm hr or_ hss hsc hsm hs os h1 (by omega)
 ·have e : (aaE Q rn S sn n) = asE Q rn S sn := by unfold aaE; rw [if_neg h1]
  rw [e, show aaN (asE Q rn S sn) rn = 0 by unfold aaN; rw [if_neg h1], show aaN (asE Q rn S sn) sn = 0 by unfold aaN; rw [if_neg h1]]
  exact (all_bad rb ro rn rc_ rs Q sb so sn sc_ ss S n w hrs hrc hrm hr or_ hss hsc hsm hs os _ rfl h1).mono fun e w' ⟨he, hb⟩ => ⟨_, _, allC_nil _ _ _ _, he, hb⟩

theorem rall_anyR (rb ro rn rc_ : Nat) (rs : Option Addr) (Q : Nat → RD) (sb so sn sc_ : Nat) (ss : Option Addr) (S : Nat → SD) (n : Int) (w : World) (hrs : rn = 0 ∨ rs = some ⟨rb, ro, none⟩) (hrc : rn ≤ rc_) (hrm : rc_ ≤ maxLen) (hr : Rws w rb ro rn Q) (or_ : ∀ i, i < rn → rok (Q i)) (hss : sn = 0 ∨ ss = some ⟨sb, so, none⟩) (hsc : sn ≤ sc_) (hsm : sc_ ≤ maxLen) (hs : Sts w sb so sn S) (os : ∀ i, i < sn → sok (S i)) : Calls Try.prog 32 #[.slice rs rn rc_, .slice ss sn sc_, .int .i64 n] w fun e w' => ∃ v1 v2, AllR w w' v1 v2 (aaN (aaE Q rn S sn n) rn) (aaN (aaE Q rn S sn n) sn) (itM Q (fun i => tlS (S i)) rn n.toNat).1 (itM Q (fun i => tlS (S i)) rn n.toNat).2 ∧ e = .returned (.tuple #[v1, v2, .int .i64 (aaE Q rn S sn n)]) ∧ Bel w w' := by
 by_cases h1 : asE Q rn S sn = 0
 ·by_cases h2 : n < 0 ∨ 64 < n
  ·have e : (aaE Q rn S sn n) = 210 := by unfold aaE; rw [if_pos h1, if_pos h2]
   rw [e]
   exact (rall_rounds rb ro rn rc_ rs Q sb so sn sc_ ss S n w hrs hrc hrm hr or_ hss hsc hsm hs os h1 h2).mono fun e w' ⟨he, hb⟩ => ⟨_, _, allR_nil _ _ _ _, he, hb⟩
  ·have e : (aaE Q rn S sn n) = 0 := by unfold aaE; rw [if_pos h1, if_neg h2]
   obtain ⟨m, rfl⟩ : ∃ m : Nat, n = (m : Int) := ⟨n.toNat, by omega⟩
   rw [e, Int.toNat_natCast]
   exact rall_ok rb ro rn rc_ rs Q sb so sn sc_ ss S m w hrs hrc hrm hr or_ hss hsc hsm hs os h1 (by omega)
 ·have e : (aaE Q rn S sn n) = asE Q rn S sn := by unfold aaE; rw [if_neg h1]
  rw [e, show aaN (asE Q rn S sn) rn = 0 by unfold aaN; rw [if_neg h1], show aaN (asE Q rn S sn) sn = 0 by unfold aaN; rw [if_neg h1]]
  exact (rall_bad rb ro rn rc_ rs Q sb so sn sc_ ss S n w hrs hrc hrm hr or_ hss hsc hsm hs os _ rfl h1).mono fun e w' ⟨he, hb⟩ => ⟨_, _, allR_nil _ _ _ _, he, hb⟩

theorem left_any9 (rb ro rn rc_ : Nat) (rs : Option Addr) (Q : Nat → RD) (sb so sn sc_ : Nat) (ss : Option Addr) (S : Nat → SD) (w : World) (hrs : rn = 0 ∨ rs = some ⟨rb, ro, none⟩) (hrc : rn ≤ rc_) (hrm : rc_ ≤ maxLen) (hr : Rws w rb ro rn Q) (or_ : ∀ i, i < rn → rok (Q i)) (hss : sn = 0 ∨ ss = some ⟨sb, so, none⟩) (hsc : sn ≤ sc_) (hsm : sc_ ≤ maxLen) (hs : Sts w sb so sn S) (os : ∀ i, i < sn → sok (S i)) : Calls Try.prog 33 #[.slice rs rn rc_, .slice ss sn sc_] w fun e w' => ∃ x, isF x (leE Q rn S sn) ∧ e = .returned (.tuple #[.float .f64 x, .int .i64 (asE Q rn S sn)]) ∧ Bel w w' := by
 unfold leE
 by_cases h1 : asE Q rn S sn = 0
 ·rw [if_pos h1, h1]
  exact left_ok rb ro rn rc_ rs Q sb so sn sc_ ss S w hrs hrc hrm hr or_ hss hsc hsm hs os h1
 ·rw [if_neg h1]
  exact (left_bad rb ro rn rc_ rs Q sb so sn sc_ ss S w hrs hrc hrm hr or_ hss hsc hsm hs os _ rfl h1).mono fun e w' ⟨he, hb⟩ => ⟨0, isF_zero, he, hb⟩

theorem rleft_any9 (rb ro rn rc_ : Nat) (rs : Option Addr) (Q : Nat → RD) (sb so sn sc_ : Nat) (ss : Option Addr) (S : Nat → SD) (w : World) (hrs : rn = 0 ∨ rs = some ⟨rb, ro, none⟩) (hrc : rn ≤ rc_) (hrm : rc_ ≤ maxLen) (hr : Rws w rb ro rn Q) (or_ : ∀ i, i < rn → rok (Q i)) (hss : sn = 0 ∨ ss = some ⟨sb, so, none⟩) (hsc : sn ≤ sc_) (hsm : sc_ ≤ maxLen) (hs : Sts w sb so sn S) (os : ∀ i, i < sn → sok (S i)) : Calls Try.prog 34 #[.slice rs rn rc_, .slice ss sn sc_] w fun e w' => ∃ x, isF x (leE Q rn S sn) ∧ e = .returned (.tuple #[.float .f64 x, .int .i64 (asE Q rn S sn)]) ∧ Bel w w' := by
 unfold leE
 by_cases h1 : asE Q rn S sn = 0
 ·rw [if_pos h1, h1]
  exact rleft_ok rb ro rn rc_ rs Q sb so sn sc_ ss S w hrs hrc hrm hr or_ hss hsc hsm hs os h1
 ·rw [if_neg h1]
  exact (rleft_bad rb ro rn rc_ rs Q sb so sn sc_ ss S w hrs hrc hrm hr or_ hss hsc hsm hs os _ rfl h1).mono fun e w' ⟨he, hb⟩ => ⟨0, isF_zero, he, hb⟩

theorem pick9 {w3 w4 w9 : World} {g c k : Nat} {s : Option Addr} (hz : c = 0 ∨ (s = some ⟨g, 0, none⟩ ∧ w4.there g 0 (c * k))) (hk : 0 < k) (h3 : w3.heap.size ≤ g) (hb : Bel w4 w9) (h34 : w3.heap.size ≤ w4.heap.size) : ∃ ga, (c = 0 ∨ (s = some ⟨ga, 0, none⟩ ∧ w9.there ga 0 (c * k))) ∧ w3.heap.size ≤ ga ∧ (ga < w4.heap.size ∨ w9.heap.size ≤ ga) := by
 rcases hz with h | ⟨h1, h2⟩
 ·exact ⟨w9.heap.size, .inl h, by have := hb.size; omega, .inr (Nat.le_refl _)⟩
 ·rcases Nat.eq_zero_or_pos c with h | h
  ·exact ⟨w9.heap.size, .inl h, by have := hb.size; omega, .inr (Nat.le_refl _)⟩
  ·obtain ⟨v, hv⟩ := Option.isSome_iff_exists.1 (h2 0 (Nat.mul_pos h hk)).1
   exact ⟨g, .inr ⟨h1, bel_there h2 hb⟩, h3, .inl (World.block_lt_of_cell? w4 _ hv)⟩
theorem RwM.away9 {w w' : World} {g n : Nat} {Q : Nat → RD} {F : List Nat} (h : RwM w g n Q) (b : Fx F w w') (hg : 0 < n → g ∉ F) : RwM w' g n Q := by
 rcases Nat.eq_zero_or_pos n with hz | hp
 ·subst hz; exact rwM_nil _ _ _
 ·exact h.away b (hg hp)
theorem StM.away9 {w w' : World} {g n : Nat} {M : Nat → SD} {F : List Nat} (h : StM w g n M) (b : Fx F w w') (hg : 0 < n → g ∉ F) : StM w' g n M := by
 rcases Nat.eq_zero_or_pos n with hz | hp
 ·subst hz; exact stM_nil _ _ _
 ·exact h.away b (hg hp)
theorem st_lt9 {w : World} {g n : Nat} {M : Nat → SD} (h : StM w g n M) (hn : 0 < n) : g < w.heap.size := by
 obtain ⟨S, h1, _⟩ := h.at_
 exact sts_lt h1 hn
set_option maxRecDepth 100000 in
set_option maxHeartbeats 4000000 in
theorem sa9_large (rb ro rn rc_ : Nat) (rs : Option Addr) (Q : Nat → RD) (sb so sn sc_ : Nat) (ss : Option Addr) (S : Nat → SD) (n : Int) (w : World) (hg : lgB rn sn = true) : Calls Try.prog 7 #[.slice rs rn rc_, .slice ss sn sc_, .int .i64 n] w fun e w' => e = .returned (.bool true) ∧ Bel w w' := by
 go_enter Try.func7, Try.ntmps7
 repeat (first | (go_at_call 27; (with_reducible refine (awake21 _).mono ?_); rintro e w1 ⟨rfl, BB⟩) | (go_at_call 28; (with_reducible refine (large_w rs ss rn rc_ sn sc_ _).mono ?_); rintro e wz ⟨rfl, rfl⟩; rw [hg]) | go_values | go_skip | go_guarded | go_step | go_upon | go_back | dsimp only)
 go_ret
 exact ⟨rfl, BB⟩
set_option maxRecDepth 100000 in
set_option maxHeartbeats 16000000 in
theorem sa9_ok (rb ro rn rc_ : Nat) (rs : Option Addr) (Q : Nat → RD) (sb so sn sc_ : Nat) (ss : Option Addr) (S : Nat → SD) (n : Int) (w : World) (hrs : rn = 0 ∨ rs = some ⟨rb, ro, none⟩) (hrc : rn ≤ rc_) (hrm : rc_ ≤ maxLen) (hr : Rws w rb ro rn Q) (or_ : ∀ i, i < rn → rok (Q i)) (hss : sn = 0 ∨ ss = some ⟨sb, so, none⟩) (hsc : sn ≤ sc_) (hsm : sc_ ≤ maxLen) (hs : Sts w sb so sn S) (os : ∀ i, i < sn → sok (S i)) (hb1 : rn * 112 ≤ 140737488351232) (hb2 : sn * 40 ≤ 140737488351232) (hg : lgB rn sn = false) : Calls Try.prog 7 #[.slice rs rn rc_, .slice ss sn sc_, .int .i64 n] w fun e w' => e = .returned (.bool true) ∧ Bel w w' := by
 have hall1 := fun (W : World) (g1 c1 g2 c2 : Nat) (h1 : rn ≤ c1) (h2 : c1 ≤ maxLen) (h3 : Rws W g1 0 rn Q) (h4 : sn ≤ c2) (h5 : c2 ≤ maxLen) (h6 : Sts W g2 0 sn S) => all_anyC g1 0 rn c1 (some ⟨g1, 0, none⟩) Q g2 0 sn c2 (some ⟨g2, 0, none⟩) S n W (.inr rfl) h1 h2 h3 or_ (.inr rfl) h4 h5 h6 os
 have hall2 := fun (W : World) (h3 : Rws W rb ro rn Q) (h6 : Sts W sb so sn S) => rall_anyR rb ro rn rc_ rs Q sb so sn sc_ ss S n W hrs hrc hrm h3 or_ hss hsc hsm h6 os
 have hnn : aaN (aaE Q rn S sn n) rn ≤ 1000 ∧ aaN (aaE Q rn S sn n) sn ≤ 1000 ∧ ∀ i, i < aaN (aaE Q rn S sn n) rn → rok ((itM Q (fun i => tlS (S i)) rn n.toNat).1 i) := by
  unfold aaN
  by_cases h : (aaE Q rn S sn n) = 0
  ·rw [if_pos h, if_pos h]
   unfold aaE at h
   by_cases h1 : asE Q rn S sn = 0
   ·obtain ⟨hl1, hl2, hch, _⟩ := asE_zero h1
    unfold lgB at hg
    have hg2 := of_decide_eq_false hg
    refine ⟨by omega, by omega, (it_inv (M := (fun i => tlS (S i))) hch or_ n.toNat).2.1⟩
   ·rw [if_neg h1] at h; exact absurd h h1
  ·rw [if_neg h, if_neg h]
   exact ⟨by omega, by omega, fun i hi => by omega⟩
 obtain ⟨er, her⟩ : ∃ x, (aaE Q rn S sn n) = x := ⟨_, rfl⟩
 rw [her] at hall1 hall2 hnn
 obtain ⟨n1, hn1⟩ : ∃ x, aaN er rn = x := ⟨_, rfl⟩
 obtain ⟨n2, hn2⟩ : ∃ x, aaN er sn = x := ⟨_, rfl⟩
 rw [hn1, hn2] at hall1 hall2 hnn
 obtain ⟨Q9, hQ9⟩ : ∃ x, (itM Q (fun i => tlS (S i)) rn n.toNat).1 = x := ⟨_, rfl⟩
 obtain ⟨M9, hM9⟩ : ∃ x, (itM Q (fun i => tlS (S i)) rn n.toNat).2 = x := ⟨_, rfl⟩
 rw [hQ9] at hall1 hall2 hnn
 rw [hM9] at hall1 hall2
 obtain ⟨el, hel⟩ : ∃ x, asE Q rn S sn = x := ⟨_, rfl⟩
 obtain ⟨hb8, hb7, hok9⟩ := hnn
 have hb9 : n1 ≤ 1000 ∧ n2 ≤ 1000 := ⟨hb8, hb7⟩
 clear her hn1 hn2 hQ9 hM9
 have qq1 : (er == er) = true := by simp
 have qq2 : (el == el) = true := by simp
 have t1 : Stg 1 := trivial
 go_enter Try.func7, Try.ntmps7
 repeat (first | (go_at_call 27; (with_reducible refine (awake21 _).mono ?_); rintro e w1 ⟨rfl, BB⟩) | (go_at_call 28; (with_reducible refine (large_w rs ss rn rc_ sn sc_ _).mono ?_); rintro e wz ⟨rfl, rfl⟩; rw [hg]) | (go_at_call 29; (with_reducible refine (rowsLent_w rb ro rn rc_ rs Q _ hrs hrc hrm (hr.bel BB) or_ hb1).mono ?_); rintro e w2 ⟨g1, c1, hg1w, hc1, hm1, hL1, hL2, rfl, hbw2⟩; have BC := bl_trans BB hbw2) | (go_at_call 30; (with_reducible refine (stillsLent_w sb so sn sc_ ss S _ hss hsc hsm (hs.bel BC) os hb2).mono ?_); rintro e w3 ⟨g2, c2, hg2w, hc2, hm2, hM1, hM2, rfl, hbw3⟩; have BD := bl_trans BC hbw3; have L3 := hL1.bel hbw3; have N3 := rng_bel hL2 hbw3; have lg1 : g1 < w3.heap.size := World.block_lt_of_cell? w3 _ (N3 0 _ rfl); have lg2 : g2 < w3.heap.size := World.block_lt_of_cell? w3 _ (hM2 0 _ rfl)) | (have zz := t1; clear zz t1; have t2 : Stg 2 := trivial; go_at_call 31; (with_reducible refine (hall1 _ g1 c1 g2 c2 (by omega) hm1 L3 (by omega) hm2 hM1).mono ?_); rintro e w4 ⟨v1, v2, hA, rfl, hbw4⟩; obtain ⟨gr, rc1, rs1, gs, sc1, ss1, rfl, rfl, p1, p2, p3, p4, p5, p6, p7, p8, p9, hRW, hSM, z1, z2⟩ := hA; have BE := bl_trans BD hbw4) | (go_at_call 32; (with_reducible refine (hall2 _ (hr.bel BE) (hs.bel BE)).mono ?_); rintro e w5 ⟨v3, v4, hX, rfl, hbw5⟩; obtain ⟨xr, xrc, xrs, xs, xsc, xss, rfl, rfl, x1, x2, x3, x4, x5, x6, x7, x8, x9, hXW, hXM⟩ := hX.at_; have BF := bl_trans BE hbw5; have b35 := bl_trans hbw4 hbw5) | (go_at_call 33; (with_reducible refine (left_any9 g1 0 rn c1 (some ⟨g1, 0, none⟩) Q g2 0 sn c2 (some ⟨g2, 0, none⟩) S _ (.inr rfl) (by omega) hm1 (L3.bel b35) or_ (.inr rfl) (by omega) hm2 (hM1.bel b35) os).mono ?_); rintro e w6 ⟨lx, hlx, rfl, hbw6⟩; have BG := bl_trans BF hbw6; rw [hel]) | (go_at_call 34; (with_reducible refine (rleft_any9 rb ro rn rc_ rs Q sb so sn sc_ ss S _ hrs hrc hrm (hr.bel BG) or_ hss hsc hsm (hs.bel BG) os).mono ?_); rintro e w7 ⟨ly, hly, rfl, hbw7⟩; rw [hel]; have hsm9 := F_same hlx hly; have b57 := bl_trans hbw6 hbw7; have BH := bl_trans BG hbw7; obtain ⟨Sa, hSa, hSaR⟩ := hSM.at_; obtain ⟨Sx, hSx, hSxR⟩ := hXM.at_) | (have zz := t2; clear zz t2; have t3 : Stg 3 := trivial; go_at_call 35; (with_reducible refine (sameRows9 gr 0 rc1 xr 0 xrc n1 rs1 xrs Q9 _ p1 x1 p2 x2 (by omega) (hRW.at_.bel (bl_trans hbw5 b57)) (hXW.at_.bel b57) hok9).mono ?_); rintro e w8 ⟨rfl, hbw8⟩) | (have zz := t3; clear zz t3; have t4 : Stg 4 := trivial; go_at_call 36; (with_reducible refine (sameStills9 gs 0 sc1 xs 0 xsc n2 ss1 xss Sa Sx M9 _ p4 x4 p5 x5 (by omega) (hSa.bel (bl_trans (bl_trans hbw5 b57) hbw8)) (hSx.bel (bl_trans b57 hbw8)) hSaR hSxR).mono ?_); rintro e w9 ⟨rfl, hbw9⟩; have b59 := bl_trans (bl_trans b57 hbw8) hbw9; have BI := bl_trans (bl_trans BH hbw8) hbw9) | (go_at_call 37; (with_reducible refine (rIs_any lx ly _).mono ?_); rintro e w9 ⟨rfl, rfl⟩; rw [hsm9]) | (go_at_call 38; have b49 := bl_trans hbw5 b59; obtain ⟨ga, za, ha3, ha4⟩ := pick9 (k := 14) z1 (by decide) p7 b49 hbw4.size; obtain ⟨gb, zb, hb3, hb4⟩ := pick9 (k := 5) z2 (by decide) p8 b49 hbw4.size; (with_reducible refine (spoil2_w ga n1 rc1 gb n2 sc1 rs1 ss1 _ p2 p3 p5 p6 za zb hb9.1 hb9.2).mono ?_); rintro e wB ⟨rfl, hFB⟩; have szW := BD.size; have nF : ∀ x, (x < w3.heap.size ∨ (w4.heap.size ≤ x ∧ x < w9.heap.size)) → x ∉ [ga, gb] := (fun x hx => by simp only [List.mem_cons, List.not_mem_nil, or_false]; omega); have BZ : Bel w wB := hFB.bel BI (fun k hk => by simp only [List.mem_cons, List.not_mem_nil, or_false] at hk; rcases hk with rfl | rfl <;> omega); have LB : Rws wB g1 0 rn Q := (fun i hi => hFB.rng (nF _ (.inl lg1)) (((L3.bel b35).bel b59) i hi)); have NB := hFB.rng (nF _ (.inl lg1)) (rng_bel (rng_bel N3 b35) b59); have MB : Sts wB g2 0 sn S := (fun i hi => hFB.rng (nF _ (.inl lg2)) (((hM1.bel b35).bel b59) i hi)); have OB := hFB.rng (nF _ (.inl lg2)) (rng_bel (rng_bel hM2 b35) b59); have XB : RwM wB xr n1 Q9 := RwM.away9 (hXW.bel b59) hFB (fun h => nF _ (.inr ⟨x7, rws_lt (hXW.bel b59).at_ h⟩)); have SB9 : StM wB xs n2 M9 := StM.away9 (hXM.bel b59) hFB (fun h => nF _ (.inr ⟨x8, st_lt9 (hXM.bel b59) h⟩)); clear hXW hXM hRW hSM L3 N3 hM1 hM2 hFB nF za zb z1 z2 hSa hSx hSaR hSxR) | (have zz := t4; clear zz t4; have t5 : Stg 5 := trivial; go_at_call 31; (with_reducible refine (hall1 _ g1 c1 g2 c2 (by omega) hm1 LB (by omega) hm2 MB).mono ?_); rintro e wC ⟨v5, v6, hA2, rfl, hbC⟩; obtain ⟨gr2, rc2, rs2, gs2, sc2, ss2, rfl, rfl, y1, y2, y3, y4, y5, y6, y7, y8, y9, hRW2, hSM2, _, _⟩ := hA2; have BC2 := bl_trans BZ hbC; obtain ⟨Sb, hSb, hSbR⟩ := hSM2.at_; obtain ⟨Sy, hSy, hSyR⟩ := (SB9.bel hbC).at_) | (go_at_call 39; (with_reducible refine (kept_w rb ro rn rc_ rs Q sb so sn sc_ ss S g1 c1 g2 c2 _ hrs hrc hrm (hr.bel BC2) or_ hss hsc hsm (hs.bel BC2) os (LB.bel hbC) (rng_bel NB hbC) hc1 hm1 (MB.bel hbC) (rng_bel OB hbC) hc2 hm2).mono ?_); rintro e wk ⟨rfl, hbk⟩; have BK := bl_trans BC2 hbk) | (have zz := t5; clear zz t5; have t6 : Stg 6 := trivial; go_at_call 35; (with_reducible refine (sameRows9 gr2 0 rc2 xr 0 xrc n1 rs2 xrs Q9 _ y1 x1 y2 x2 (by omega) (hRW2.at_.bel hbk) ((XB.bel hbC).at_.bel hbk) hok9).mono ?_); rintro e wm ⟨rfl, hbm⟩) | (have zz := t6; clear zz t6; have t7 : Stg 7 := trivial; go_at_call 36; (with_reducible refine (sameStills9 gs2 0 sc2 xs 0 xsc n2 ss2 xss Sb Sy M9 _ y4 x4 y5 x5 (by omega) (hSb.bel (bl_trans hbk hbm)) (hSy.bel (bl_trans hbk hbm)) hSbR hSyR).mono ?_); rintro e wn ⟨rfl, hbn⟩; have BN := bl_trans (bl_trans BK hbm) hbn) | go_values | go_skip | go_guarded | go_step | go_upon | go_back | dsimp only)
 go_ret
 exact ⟨rfl, BN⟩

end Go.Proofs.Ytfohggiehbplkaa
