/-
  What each function of package poly answers, and what the reference of its chapter answers: one contract a function, for every float: the answer stands in the relation of its formula to what was given; of the memory that was there nothing has turned.
-/
import Derived.Test.YtchfgaooogfkdaaVec
import Derived.Test.YtchfgaooogfkdaaXzc
import Derived.Below
import Derived.OwnWalk
import Derived.Laws.AppendOwn
import Derived.Lib.SliceRun
import Derived.Laws.MakeOwn
import Derived.WalkKit
import Derived.WalkLawsBesides
import Derived.WalkSpells
import Derived.ProofKit
import Derived.OpenShut
import Derived.Deep.RegionHeld3
namespace Go.Proofs.Ytchfgaooogfkdaa
open Go.ChangeShapes Go.WideShapes Go.ChangeAt Go.RowKit
set_option linter.unusedVariables false
set_option linter.unusedSimpArgs false


set_option maxRecDepth 100000 in
set_option maxHeartbeats 4000000 in
theorem so_many (rb ro rn rc_ : Nat) (rs : Option Addr) (Q : Nat → RD) (sb so sn sc_ : Nat) (ss : Option Addr) (S : Nat → SD) (ib io inn ic_ : Nat) (is_ : Option Addr) (X : Nat → Int) (t : Int) (w : World) (h : 60 < rn ∨ 60 < sn ∨ t < 0 ∨ 64 < t) : Calls Try.prog 6 #[.slice rs rn rc_, .slice ss sn sc_, .slice is_ inn ic_, .int .i64 t] w fun e w' => e = .returned (.bool true) ∧ Bel w w' := by
  rcases (show (60 : Int) < rn ∨ (¬ (60 : Int) < rn ∧ (60 : Int) < sn) ∨ (¬ (60 : Int) < rn ∧ ¬ (60 : Int) < sn ∧ t < 0) ∨ (¬ (60 : Int) < rn ∧ ¬ (60 : Int) < sn ∧ ¬ t < 0 ∧ 64 < t) by omega) with h1 | ⟨h1, h2⟩ | ⟨h1, h2, h3⟩ | ⟨h1, h2, h3, h4⟩
  all_goals
    go_enter Try.func6, Try.ntmps6
    repeat (first | (go_at_call 9; (with_reducible refine (awake21 _).mono ?_); rintro e w1 ⟨rfl, BB⟩) | go_values | go_skip | go_guarded | go_step | go_upon | go_back | dsimp only)
    go_ret
    exact ⟨rfl, BB⟩

set_option maxRecDepth 100000 in
set_option maxHeartbeats 4000000 in
theorem so_e1 (rb ro rn rc_ : Nat) (rs : Option Addr) (Q : Nat → RD) (sb so sn sc_ : Nat) (ss : Option Addr) (S : Nat → SD) (ib io inn ic_ : Nat) (is_ : Option Addr) (X : Nat → Int) (t : Nat) (w : World) (hrs : rn = 0 ∨ rs = some ⟨rb, ro, none⟩) (hrc : rn ≤ rc_) (hrm : rc_ ≤ maxLen) (hr : Rws w rb ro rn Q) (or_ : ∀ i, i < rn → rok (Q i)) (hss : sn = 0 ∨ ss = some ⟨sb, so, none⟩) (hsc : sn ≤ sc_) (hsm : sc_ ≤ maxLen) (hs : Sts w sb so sn S) (os : ∀ i, i < sn → sok (S i)) (his : inn = 0 ∨ is_ = some ⟨ib, io, none⟩) (hic : inn ≤ ic_) (him : ic_ ≤ maxLen) (hi_ : Ints w ib io inn X) (hl1 : rn ≤ 60) (hl3 : sn ≤ 60) (ht : t ≤ 64) (hl2 : 1024 < inn) : Calls Try.prog 6 #[.slice rs rn rc_, .slice ss sn sc_, .slice is_ inn ic_, .int .i64 t] w fun e w' => e = .returned (.bool true) ∧ Bel w w' := by
  have i1 : ¬ (60 : Int) < rn := by omega
  have i2 : ¬ (60 : Int) < sn := by omega
  have j1 : ¬ (t : Int) < 0 := by omega
  have j2 : ¬ (64 : Int) < (t : Int) := by omega
  go_enter Try.func6, Try.ntmps6
  repeat (first | (go_at_call 9; (with_reducible refine (awake21 _).mono ?_); rintro e w1 ⟨rfl, BB⟩) | (go_at_call 28; (with_reducible refine (only_many rb ro rn rc_ rs Q ib io inn ic_ is_ _ (.inr hl2)).mono ?_); rintro e w2 ⟨rfl, hb2⟩) | go_values | go_skip | go_guarded | go_step | go_upon | go_back | dsimp only)
  go_ret
  exact ⟨rfl, bl_trans BB hb2⟩

set_option maxRecDepth 100000 in
set_option maxHeartbeats 4000000 in
theorem so_e2 (rb ro rn rc_ : Nat) (rs : Option Addr) (Q : Nat → RD) (sb so sn sc_ : Nat) (ss : Option Addr) (S : Nat → SD) (ib io inn ic_ : Nat) (is_ : Option Addr) (X : Nat → Int) (t : Nat) (w : World) (hrs : rn = 0 ∨ rs = some ⟨rb, ro, none⟩) (hrc : rn ≤ rc_) (hrm : rc_ ≤ maxLen) (hr : Rws w rb ro rn Q) (or_ : ∀ i, i < rn → rok (Q i)) (hss : sn = 0 ∨ ss = some ⟨sb, so, none⟩) (hsc : sn ≤ sc_) (hsm : sc_ ≤ maxLen) (hs : Sts w sb so sn S) (os : ∀ i, i < sn → sok (S i)) (his : inn = 0 ∨ is_ = some ⟨ib, io, none⟩) (hic : inn ≤ ic_) (him : ic_ ≤ maxLen) (hi_ : Ints w ib io inn X) (hl1 : rn ≤ 60) (hl3 : sn ≤ 60) (ht : t ≤ 64) (hl2 : inn ≤ 1024) (hcr : crB Q rn 1024 rn = false) : Calls Try.prog 6 #[.slice rs rn rc_, .slice ss sn sc_, .slice is_ inn ic_, .int .i64 t] w fun e w' => e = .returned (.bool true) ∧ Bel w w' := by
  have i1 : ¬ (60 : Int) < rn := by omega
  have i2 : ¬ (60 : Int) < sn := by omega
  have j1 : ¬ (t : Int) < 0 := by omega
  have j2 : ¬ (64 : Int) < (t : Int) := by omega
  go_enter Try.func6, Try.ntmps6
  repeat (first | (go_at_call 9; (with_reducible refine (awake21 _).mono ?_); rintro e w1 ⟨rfl, BB⟩) | (go_at_call 28; (with_reducible refine (only_bad rb ro rn rc_ rs Q ib io inn ic_ is_ _ hrs hrc hrm (hr.bel BB) or_ (by omega) hl2 hcr).mono ?_); rintro e w2 ⟨rfl, hb2⟩) | go_values | go_skip | go_guarded | go_step | go_upon | go_back | dsimp only)
  go_ret
  exact ⟨rfl, bl_trans BB hb2⟩

set_option maxRecDepth 100000 in
set_option maxHeartbeats 4000000 in
theorem so_e3 (rb ro rn rc_ : Nat) (rs : Option Addr) (Q : Nat → RD) (sb so sn sc_ : Nat) (ss : Option Addr) (S : Nat → SD) (ib io inn ic_ : Nat) (is_ : Option Addr) (X : Nat → Int) (t : Nat) (w : World) (hrs : rn = 0 ∨ rs = some ⟨rb, ro, none⟩) (hrc : rn ≤ rc_) (hrm : rc_ ≤ maxLen) (hr : Rws w rb ro rn Q) (or_ : ∀ i, i < rn → rok (Q i)) (hss : sn = 0 ∨ ss = some ⟨sb, so, none⟩) (hsc : sn ≤ sc_) (hsm : sc_ ≤ maxLen) (hs : Sts w sb so sn S) (os : ∀ i, i < sn → sok (S i)) (his : inn = 0 ∨ is_ = some ⟨ib, io, none⟩) (hic : inn ≤ ic_) (him : ic_ ≤ maxLen) (hi_ : Ints w ib io inn X) (hl1 : rn ≤ 60) (hl3 : sn ≤ 60) (ht : t ≤ 64) (hl2 : inn ≤ 1024) (hcr : crB Q rn 1024 rn = true) (er : Int) (he : asE Q rn S sn = er) (h0 : er ≠ 0) : Calls Try.prog 6 #[.slice rs rn rc_, .slice ss sn sc_, .slice is_ inn ic_, .int .i64 t] w fun e w' => e = .returned (.bool true) ∧ Bel w w' := by
  have i1 : ¬ (60 : Int) < rn := by omega
  have i2 : ¬ (60 : Int) < sn := by omega
  have j1 : ¬ (t : Int) < 0 := by omega
  have j2 : ¬ (64 : Int) < (t : Int) := by omega
  have g1 : (er == 0) = false := by simp [h0]
  go_enter Try.func6, Try.ntmps6
  repeat (first | (go_at_call 9; (with_reducible refine (awake21 _).mono ?_); rintro e w1 ⟨rfl, BB⟩) | (go_at_call 28; (with_reducible refine (only_ok rb ro rn rc_ rs Q ib io inn ic_ is_ X _ hrs hrc hrm (hr.bel BB) or_ his hic him (hi_.bel BB) (by omega) hl2 hcr).mono ?_); rintro e w2 ⟨gm, m, v2, hmL, hgm, hRm, htm, hOa, rfl, hb2⟩; obtain ⟨ga, ca, sa, rfl, hsa, hca, hcam, hat⟩ := own_ints2 hmL.symm hOa; (have hmV : Veil (m = (pickN (ofP Q X inn) rn).length) := hmL); clear hmL hOa; have BC := bl_trans BB hb2) | (go_at_call 11; (with_reducible refine (all_bad rb ro rn rc_ rs Q sb so sn sc_ ss S t _ hrs hrc hrm (hr.bel BC) or_ hss hsc hsm (hs.bel BC) os er he h0).mono ?_); rintro e w3 ⟨rfl, hb3⟩) | go_values | go_skip | go_guarded | go_step | go_upon | go_back | dsimp only)
  go_ret
  exact ⟨rfl, bl_trans BC hb3⟩

set_option maxRecDepth 100000 in
set_option maxHeartbeats 16000000 in
theorem so_ok (rb ro rn rc_ : Nat) (rs : Option Addr) (Q : Nat → RD) (sb so sn sc_ : Nat) (ss : Option Addr) (S : Nat → SD) (ib io inn ic_ : Nat) (is_ : Option Addr) (X : Nat → Int) (t : Nat) (w : World) (hrs : rn = 0 ∨ rs = some ⟨rb, ro, none⟩) (hrc : rn ≤ rc_) (hrm : rc_ ≤ maxLen) (hr : Rws w rb ro rn Q) (or_ : ∀ i, i < rn → rok (Q i)) (hss : sn = 0 ∨ ss = some ⟨sb, so, none⟩) (hsc : sn ≤ sc_) (hsm : sc_ ≤ maxLen) (hs : Sts w sb so sn S) (os : ∀ i, i < sn → sok (S i)) (his : inn = 0 ∨ is_ = some ⟨ib, io, none⟩) (hic : inn ≤ ic_) (him : ic_ ≤ maxLen) (hi_ : Ints w ib io inn X) (hl1 : rn ≤ 60) (hl3 : sn ≤ 60) (ht : t ≤ 64) (hl2 : inn ≤ 1024) (he : asE Q rn S sn = 0) : Calls Try.prog 6 #[.slice rs rn rc_, .slice ss sn sc_, .slice is_ inn ic_, .int .i64 t] w fun e w' => e = .returned (.bool true) ∧ Bel w w' := by
  have i1 : ¬ (60 : Int) < rn := by omega
  have i2 : ¬ (60 : Int) < sn := by omega
  have j1 : ¬ (t : Int) < 0 := by omega
  have j2 : ¬ (64 : Int) < (t : Int) := by omega
  have hcr := chk_1024 he
  have t1 : Stg 1 := trivial
  go_enter Try.func6, Try.ntmps6
  repeat (first | (go_at_call 9; (with_reducible refine (awake21 _).mono ?_); rintro e w1 ⟨rfl, BB⟩) | (go_at_call 28; (with_reducible refine (only_ok rb ro rn rc_ rs Q ib io inn ic_ is_ X _ hrs hrc hrm (hr.bel BB) or_ his hic him (hi_.bel BB) (by omega) hl2 hcr).mono ?_); rintro e w2 ⟨gm, m, v2, hmL, hgm, hRm, htm, hOa, rfl, hb2⟩; obtain ⟨ga, ca, sa, rfl, hsa, hca, hcam, hat⟩ := own_ints2 hmL.symm hOa; (have hmV : Veil (m = (pickN (ofP Q X inn) rn).length) := hmL); clear hmL hOa; have BC := bl_trans BB hb2) | (have zz := t1; clear zz t1; have t2 : Stg 2 := trivial; go_at_call 11; (with_reducible refine (all_ok rb ro rn rc_ rs Q sb so sn sc_ ss S t _ hrs hrc hrm (hr.bel BC) or_ hss hsc hsm (hs.bel BC) os he ht).mono ?_); rintro e w3 ⟨vw3, uw3, hallw3, rfl, hbw3⟩; obtain ⟨grw3, rcw3, rsw3, gsw3, scw3, ssw3, rfl, rfl, p1w3, p2w3, p3w3, p4w3, p5w3, p6w3, p7w3, p8w3, p9w3, hRWw3, hSMw3⟩ := hallw3.at_; have BD := bl_trans BC hbw3) | go_values | go_skip | go_guarded | go_step | go_upon | go_back | dsimp only)
  have hm60 : m ≤ 60 := by have := pick_le (ofP Q X inn) rn; have := hmV.out; omega
  go_loopw [17, 16, 15] (fun i k v wr => ∃ q : Nat, q ≤ rn ∧ i = .int .i64 q ∧ k = .int .i64 ((pickN (ofP Q X inn) q).length : Int) ∧ Bel w3 wr ∧ OwnR 14 w3.heap.size wr v (pickN (fun i => !ofP Q X inn i) q).length (rowsL (QN Q (ofP Q X inn) rn) (pickN (fun i => !ofP Q X inn i) q).length) ∧ ∀ i, i < q → (ofP Q X inn) i = false → (Q i).ro < 0) (fun i _ _ _ => rn - (intOf i).toNat)
  case atStart => exact ⟨0, by omega, rfl, rfl, bl_refl _, OwnR.nil _ _ _, fun i hi => by omega⟩
  case round =>
    obtain ⟨q, hq, rfl, rfl, hB, hO, hneg⟩ := hrel
    by_cases hlt : q < rn
    · have e1 : rs = some ⟨rb, ro, none⟩ := by rcases hrs with h | h; omega; exact h
      subst e1
      have hkI : (q : Int) < (rn : Int) := by omega
      have hld : wr.rangeAt rb (ro + q * 14) [.int .i64 (Q q).ra, .int .i64 (Q q).rb, .float .f64 (Q q).r2, .float .f64 (Q q).r3, .float .f64 (Q q).r4, .float .f64 (Q q).r5, .float .f64 (Q q).r6, .float .f64 (Q q).r7, .float .f64 (Q q).r8, .float .f64 (Q q).r9, .float .f64 (Q q).r10, .float .f64 (Q q).r11, .int .i64 (Q q).ro, .float .f64 (Q q).r13] := ((hr.bel BD).bel hB) q hlt
      have k12 : wr.cell? ⟨rb, ro + q * 14 + 12, none⟩ = some (.int .i64 (Q q).ro) := hld 12 _ rfl
      cases hp : (ofP Q X inn) q
      · by_cases hkm : (pickN (ofP Q X inn) q).length < m
        · have es : sa = some ⟨ga, 0, none⟩ := by rcases hsa with h | h; omega; exact h
          subst es
          have hkmI : ((pickN (ofP Q X inn) q).length : Int) < (m : Int) := by omega
          have ka := keep hB (keep hbw3 (hat _ hkm))
          have hne : (((LN (pickN (ofP Q X inn) rn) (pickN (ofP Q X inn) q).length : Nat) : Int) == (q : Int)) = false := by
            have h := (pick_is (p := (ofP Q X inn)) (n := rn) (j := (pickN (ofP Q X inn) q).length) (by have := hmV.out; omega)).1
            simp only [beq_eq_false_iff_ne, ne_eq]
            intro e
            rw [show LN (pickN (ofP Q X inn) rn) (pickN (ofP Q X inn) q).length = q by omega, hp] at h
            cases h
          by_cases ho : 0 ≤ (Q q).ro
          · repeat (first | go_values | go_skip | go_guarded | go_step | go_upon | go_back | dsimp only)
            go_ret
            exact ⟨rfl, bl_trans BD hB⟩
          · have ho2 : (Q q).ro < 0 := by omega
            have B5 : Bel wr (wr.alloc (.cells #[.int .i64 (Q q).ra, .int .i64 (Q q).rb, .float .f64 (Q q).r2, .float .f64 (Q q).r3, .float .f64 (Q q).r4, .float .f64 (Q q).r5, .float .f64 (Q q).r6, .float .f64 (Q q).r7, .float .f64 (Q q).r8, .float .f64 (Q q).r9, .float .f64 (Q q).r10, .float .f64 (Q q).r11, .int .i64 (Q q).ro, .float .f64 (Q q).r13] 56)) := bl_alloc (bl_refl _) _ _
            have hN : Rw (wr.alloc (.cells #[.int .i64 (Q q).ra, .int .i64 (Q q).rb, .float .f64 (Q q).r2, .float .f64 (Q q).r3, .float .f64 (Q q).r4, .float .f64 (Q q).r5, .float .f64 (Q q).r6, .float .f64 (Q q).r7, .float .f64 (Q q).r8, .float .f64 (Q q).r9, .float .f64 (Q q).r10, .float .f64 (Q q).r11, .int .i64 (Q q).ro, .float .f64 (Q q).r13] 56)) wr.heap.size 0 [.int .i64 (Q q).ra, .int .i64 (Q q).rb, .float .f64 (Q q).r2, .float .f64 (Q q).r3, .float .f64 (Q q).r4, .float .f64 (Q q).r5, .float .f64 (Q q).r6, .float .f64 (Q q).r7, .float .f64 (Q q).r8, .float .f64 (Q q).r9, .float .f64 (Q q).r10, .float .f64 (Q q).r11, .int .i64 (Q q).ro, .float .f64 (Q q).r13] := rng_new wr [.int .i64 (Q q).ra, .int .i64 (Q q).rb, .float .f64 (Q q).r2, .float .f64 (Q q).r3, .float .f64 (Q q).r4, .float .f64 (Q q).r5, .float .f64 (Q q).r6, .float .f64 (Q q).r7, .float .f64 (Q q).r8, .float .f64 (Q q).r9, .float .f64 (Q q).r10, .float .f64 (Q q).r11, .int .i64 (Q q).ro, .float .f64 (Q q).r13] 56
            have hpl := pick_le (fun i => !ofP Q X inn i) q
            obtain ⟨v', w', a1, a2, _, a4⟩ := run_appR (P := Try.prog) 22 22 56 Try.underlying22 info_row rfl wr.heap.size 0 1 1 (hO.bel B5) (N := [.int .i64 (Q q).ra, .int .i64 (Q q).rb, .float .f64 (Q q).r2, .float .f64 (Q q).r3, .float .f64 (Q q).r4, .float .f64 (Q q).r5, .float .f64 (Q q).r6, .float .f64 (Q q).r7, .float .f64 (Q q).r8, .float .f64 (Q q).r9, .float .f64 (Q q).r10, .float .f64 (Q q).r11, .int .i64 (Q q).ro, .float .f64 (Q q).r13]) rfl hN (by intro u hu; simp only [List.mem_cons, List.not_mem_nil, or_false] at hu; rcases hu with rfl | rfl | rfl | rfl | rfl | rfl | rfl | rfl | rfl | rfl | rfl | rfl | rfl | rfl <;> rfl) (by decide) (by have := (bl_trans hB B5).size; omega) (by unfold maxLen; omega) (by omega)
            repeat (first | ((with_reducible show Oper.wp _ { dst := _, op := Op.load 56 _, type := _, pos := _, after := _, guard := _ } _ _ _ _); refine wp_load_mid (P := Try.prog) 56 _ rfl _ _ rfl [.int .i64 (Q q).ra, .int .i64 (Q q).rb, .float .f64 (Q q).r2, .float .f64 (Q q).r3, .float .f64 (Q q).r4, .float .f64 (Q q).r5, .float .f64 (Q q).r6, .float .f64 (Q q).r7, .float .f64 (Q q).r8, .float .f64 (Q q).r9, .float .f64 (Q q).r10, .float .f64 (Q q).r11, .int .i64 (Q q).ro, .float .f64 (Q q).r13] _ (by with_reducible assumption) Try.underlying56 rfl (by kernel_rfl) ?_; simp only [go_sem]) | (at_builtin; refine wpList_runX 22 rfl (.tmp 105) (.tmp 110) rfl rfl rfl a1 ?_) | go_values | go_skip | go_guarded | go_step | go_upon | go_back | dsimp only)
            refine ⟨⟨q + 1, by omega, by first | go_num | rfl, by rw [pick_no hp], a4 w3 (bl_trans hB B5) (Nat.le_refl _), ?_, fun i hi hpi => ?_⟩, by simp [intOf]; omega⟩
            · have hq9 : (fun i => !ofP Q X inn i) q = true := by simp [hp]
              rw [pick_yes hq9, List.length_append, List.length_singleton, rowsL_snoc, show QN Q (ofP Q X inn) rn (pickN (fun i => !ofP Q X inn i) q).length = Q q by show Q (LN _ _) = _; rw [(pick_at (p := (fun i => !ofP Q X inn i)) hlt hq9).2]]
              exact a2
            · rcases Nat.lt_or_ge i q with h | h
              · exact hneg i h hpi
              · have e : i = q := by omega
                subst e; exact ho2
        · have hkmI : ¬ ((pickN (ofP Q X inn) q).length : Int) < (m : Int) := by omega
          by_cases ho : 0 ≤ (Q q).ro
          · repeat (first | go_values | go_skip | go_guarded | go_step | go_upon | go_back | dsimp only)
            go_ret
            exact ⟨rfl, bl_trans BD hB⟩
          · have ho2 : (Q q).ro < 0 := by omega
            have B5 : Bel wr (wr.alloc (.cells #[.int .i64 (Q q).ra, .int .i64 (Q q).rb, .float .f64 (Q q).r2, .float .f64 (Q q).r3, .float .f64 (Q q).r4, .float .f64 (Q q).r5, .float .f64 (Q q).r6, .float .f64 (Q q).r7, .float .f64 (Q q).r8, .float .f64 (Q q).r9, .float .f64 (Q q).r10, .float .f64 (Q q).r11, .int .i64 (Q q).ro, .float .f64 (Q q).r13] 56)) := bl_alloc (bl_refl _) _ _
            have hN : Rw (wr.alloc (.cells #[.int .i64 (Q q).ra, .int .i64 (Q q).rb, .float .f64 (Q q).r2, .float .f64 (Q q).r3, .float .f64 (Q q).r4, .float .f64 (Q q).r5, .float .f64 (Q q).r6, .float .f64 (Q q).r7, .float .f64 (Q q).r8, .float .f64 (Q q).r9, .float .f64 (Q q).r10, .float .f64 (Q q).r11, .int .i64 (Q q).ro, .float .f64 (Q q).r13] 56)) wr.heap.size 0 [.int .i64 (Q q).ra, .int .i64 (Q q).rb, .float .f64 (Q q).r2, .float .f64 (Q q).r3, .float .f64 (Q q).r4, .float .f64 (Q q).r5, .float .f64 (Q q).r6, .float .f64 (Q q).r7, .float .f64 (Q q).r8, .float .f64 (Q q).r9, .float .f64 (Q q).r10, .float .f64 (Q q).r11, .int .i64 (Q q).ro, .float .f64 (Q q).r13] := rng_new wr [.int .i64 (Q q).ra, .int .i64 (Q q).rb, .float .f64 (Q q).r2, .float .f64 (Q q).r3, .float .f64 (Q q).r4, .float .f64 (Q q).r5, .float .f64 (Q q).r6, .float .f64 (Q q).r7, .float .f64 (Q q).r8, .float .f64 (Q q).r9, .float .f64 (Q q).r10, .float .f64 (Q q).r11, .int .i64 (Q q).ro, .float .f64 (Q q).r13] 56
            have hpl := pick_le (fun i => !ofP Q X inn i) q
            obtain ⟨v', w', a1, a2, _, a4⟩ := run_appR (P := Try.prog) 22 22 56 Try.underlying22 info_row rfl wr.heap.size 0 1 1 (hO.bel B5) (N := [.int .i64 (Q q).ra, .int .i64 (Q q).rb, .float .f64 (Q q).r2, .float .f64 (Q q).r3, .float .f64 (Q q).r4, .float .f64 (Q q).r5, .float .f64 (Q q).r6, .float .f64 (Q q).r7, .float .f64 (Q q).r8, .float .f64 (Q q).r9, .float .f64 (Q q).r10, .float .f64 (Q q).r11, .int .i64 (Q q).ro, .float .f64 (Q q).r13]) rfl hN (by intro u hu; simp only [List.mem_cons, List.not_mem_nil, or_false] at hu; rcases hu with rfl | rfl | rfl | rfl | rfl | rfl | rfl | rfl | rfl | rfl | rfl | rfl | rfl | rfl <;> rfl) (by decide) (by have := (bl_trans hB B5).size; omega) (by unfold maxLen; omega) (by omega)
            repeat (first | ((with_reducible show Oper.wp _ { dst := _, op := Op.load 56 _, type := _, pos := _, after := _, guard := _ } _ _ _ _); refine wp_load_mid (P := Try.prog) 56 _ rfl _ _ rfl [.int .i64 (Q q).ra, .int .i64 (Q q).rb, .float .f64 (Q q).r2, .float .f64 (Q q).r3, .float .f64 (Q q).r4, .float .f64 (Q q).r5, .float .f64 (Q q).r6, .float .f64 (Q q).r7, .float .f64 (Q q).r8, .float .f64 (Q q).r9, .float .f64 (Q q).r10, .float .f64 (Q q).r11, .int .i64 (Q q).ro, .float .f64 (Q q).r13] _ (by with_reducible assumption) Try.underlying56 rfl (by kernel_rfl) ?_; simp only [go_sem]) | (at_builtin; refine wpList_runX 22 rfl (.tmp 105) (.tmp 110) rfl rfl rfl a1 ?_) | go_values | go_skip | go_guarded | go_step | go_upon | go_back | dsimp only)
            refine ⟨⟨q + 1, by omega, by first | go_num | rfl, by rw [pick_no hp], a4 w3 (bl_trans hB B5) (Nat.le_refl _), ?_, fun i hi hpi => ?_⟩, by simp [intOf]; omega⟩
            · have hq9 : (fun i => !ofP Q X inn i) q = true := by simp [hp]
              rw [pick_yes hq9, List.length_append, List.length_singleton, rowsL_snoc, show QN Q (ofP Q X inn) rn (pickN (fun i => !ofP Q X inn i) q).length = Q q by show Q (LN _ _) = _; rw [(pick_at (p := (fun i => !ofP Q X inn i)) hlt hq9).2]]
              exact a2
            · rcases Nat.lt_or_ge i q with h | h
              · exact hneg i h hpi
              · have e : i = q := by omega
                subst e; exact ho2
      · obtain ⟨hk1, hk2⟩ := pick_at (p := (ofP Q X inn)) hlt hp
        have hk3 : (pickN (ofP Q X inn) q).length < m := by have := hmV.out; omega
        have es : sa = some ⟨ga, 0, none⟩ := by rcases hsa with h | h; omega; exact h
        subst es
        have hkmI : ((pickN (ofP Q X inn) q).length : Int) < (m : Int) := by omega
        have ka := keep hB (keep hbw3 (hat _ hk3))
        rw [hk2] at ka
        repeat (first | go_values | go_skip | go_guarded | go_step | go_upon | go_back | dsimp only)
        refine ⟨⟨q + 1, by omega, by first | go_num | rfl, by rw [pick_yes hp, List.length_append, List.length_singleton]; first | rfl | (congr 1; omega) | (push_cast; rfl), hB, by rw [pick_no (p := (fun i => !ofP Q X inn i)) (by simp [hp])]; exact hO, fun i hi hpi => ?_⟩, by simp [intOf]; omega⟩
        rcases Nat.lt_or_ge i q with h | h
        · exact hneg i h hpi
        · have e : i = q := by omega
          subst e; rw [hp] at hpi; cases hpi
    · have hqn : rn = q := by omega
      subst hqn
      obtain ⟨w4, rfl⟩ : ∃ w4, w4 = wr := ⟨_, rfl⟩
      obtain ⟨m2, hm2⟩ : ∃ m2, m2 = (pickN (fun i => !ofP Q X inn i) rn).length := ⟨_, rfl⟩
      rw [← hm2] at hO
      have hm2V : Veil (m2 = (pickN (fun i => !ofP Q X inn i) rn).length) := hm2
      clear hm2
      obtain ⟨hb, hc, hsl, rfl, hh1, hh2, hh3, hh4⟩ := own_rows hO
      clear hO
      have hao : asE (QO Q (ofP Q X inn) rn) m S sn = 0 := by rw [hmV.out]; exact only_as he
      have hrao : asE (QN Q (ofP Q X inn) rn) m2 S sn = 0 := by rw [hm2V.out]; exact rest_as he hneg
      have okO : ∀ j, j < m → rok (QO Q (ofP Q X inn) rn j) := fun j hj => only_rok or_ j (by rw [← hmV.out]; exact hj)
      have okN : ∀ j, j < m2 → rok (QN Q (ofP Q X inn) rn j) := fun j hj => rest_rok or_ j (by rw [← hm2V.out]; exact hj)
      have hmM : m ≤ maxLen := by unfold maxLen; omega
      have hLN : ∀ j, j < m → LN (pickN (ofP Q X inn) rn) j < rn := fun j hj => (pick_is (p := (ofP Q X inn)) (by rw [← hmV.out]; exact hj)).2
      repeat (first | go_values | go_skip | go_guarded | go_step | go_upon | go_back | dsimp only)
      go_loopw [18] (fun i wr => ∃ j : Nat, j ≤ m ∧ i = .int .i64 j ∧ Bel w4 wr ∧ ∀ z, z < j → 0 ≤ (Q (LN (pickN (ofP Q X inn) rn) z)).ro → 0 ≤ (QO Q (ofP Q X inn) rn z).ro) (fun i _ => m - (intOf i).toNat)
      case atStart => exact ⟨0, by omega, rfl, bl_refl _, fun z hz => by omega⟩
      case round =>
        obtain ⟨j, hj, rfl, hB5, hof⟩ := hrel
        by_cases hlj : j < m
        · have hjI : (j : Int) < (m : Int) := by omega
          have hL1 := hLN j hlj
          have e1 : rs = some ⟨rb, ro, none⟩ := by rcases hrs with h | h; omega; exact h
          have es : sa = some ⟨ga, 0, none⟩ := by rcases hsa with h | h; omega; exact h
          subst e1 es
          have km : wr.cell? ⟨gm, j * 14 + 12, none⟩ = some (.int .i64 (QO Q (ofP Q X inn) rn j).ro) := by have h := keep hB5 (keep hB (keep hbw3 (hRm j hlj 12 _ rfl))); rwa [Nat.zero_add] at h
          have ka := keep hB5 (keep hB (keep hbw3 (hat j hlj)))
          have kl : wr.cell? ⟨rb, ro + LN (pickN (ofP Q X inn) rn) j * 14 + 12, none⟩ = some (.int .i64 (Q (LN (pickN (ofP Q X inn) rn) j)).ro) := keep hB5 (keep hB (keep BD (hr _ hL1 12 _ rfl)))
          have hL1I : ((LN (pickN (ofP Q X inn) rn) j : Nat) : Int) < (rn : Int) := by omega
          by_cases n1 : (QO Q (ofP Q X inn) rn j).ro < 0
          · by_cases n2 : 0 ≤ (Q (LN (pickN (ofP Q X inn) rn) j)).ro
            · repeat (first | go_values | go_skip | go_guarded | go_step | go_upon | go_back | dsimp only)
              go_ret
              exact ⟨rfl, bl_trans (bl_trans BD hB) hB5⟩
            · repeat (first | go_values | go_skip | go_guarded | go_step | go_upon | go_back | dsimp only)
              refine ⟨⟨j + 1, by omega, by first | go_num | rfl, hB5, fun z hz h0 => ?_⟩, by simp [intOf]; omega⟩
              rcases Nat.lt_or_ge z j with h | h
              · exact hof z h h0
              · have e : z = j := by omega
                subst e; exact absurd h0 n2
          · repeat (first | go_values | go_skip | go_guarded | go_step | go_upon | go_back | dsimp only)
            refine ⟨⟨j + 1, by omega, by first | go_num | rfl, hB5, fun z hz h0 => ?_⟩, by simp [intOf]; omega⟩
            rcases Nat.lt_or_ge z j with h | h
            · exact hof z h h0
            · have e : z = j := by omega
              subst e; omega
        · have hjm : m = j := by omega
          subst hjm
          obtain ⟨w5, rfl⟩ : ∃ w5, w5 = wr := ⟨_, rfl⟩
          have BE := bl_trans (bl_trans BD hB) hB5
          have R5 := ((hRm.bel hbw3).bel hB).bel hB5
          have H5 := hh4.bel hB5
          clear hneg
          cases eap : apB (QO Q (ofP Q X inn) rn) m (QN Q (ofP Q X inn) rn) m2 S
          · repeat (first | (have zz := t2; clear zz t2; have t3 : Stg 3 := trivial; go_at_call 10; (with_reducible refine (apart_ok gm 0 m m (some ⟨gm, 0, none⟩) (QO Q (ofP Q X inn) rn) hb 0 m2 hc hsl (QN Q (ofP Q X inn) rn) sb so sn sc_ ss S _ (.inr rfl) (Nat.le_refl _) hmM R5 okO hh1 hh2 hh3 H5 okN hss hsc hsm (hs.bel BE) os hao hrao).mono ?_); rintro e w6 ⟨rfl, hb6⟩; rw [eap]; have BF := bl_trans BE hb6) | (have zz := t3; clear zz t3; have t4 : Stg 4 := trivial; go_at_call 11; (with_reducible refine (all_ok gm 0 m m (some ⟨gm, 0, none⟩) (QO Q (ofP Q X inn) rn) sb so sn sc_ ss S t _ (.inr rfl) (Nat.le_refl _) hmM (R5.bel hb6) okO hss hsc hsm (hs.bel BF) os hao ht).mono ?_); rintro e w7 ⟨vw7, uw7, hallw7, rfl, hbw7⟩; obtain ⟨grw7, rcw7, rsw7, gsw7, scw7, ssw7, rfl, rfl, p1w7, p2w7, p3w7, p4w7, p5w7, p6w7, p7w7, p8w7, p9w7, hRWw7, hSMw7⟩ := hallw7.at_; have BG := bl_trans BF hbw7) | go_values | go_skip | go_guarded | go_step | go_upon | go_back | dsimp only)
            go_ret
            exact ⟨rfl, BG⟩
          · repeat (first | (have zz := t2; clear zz t2; have t3 : Stg 3 := trivial; go_at_call 10; (with_reducible refine (apart_ok gm 0 m m (some ⟨gm, 0, none⟩) (QO Q (ofP Q X inn) rn) hb 0 m2 hc hsl (QN Q (ofP Q X inn) rn) sb so sn sc_ ss S _ (.inr rfl) (Nat.le_refl _) hmM R5 okO hh1 hh2 hh3 H5 okN hss hsc hsm (hs.bel BE) os hao hrao).mono ?_); rintro e w6 ⟨rfl, hb6⟩; rw [eap]; have BF := bl_trans BE hb6) | (have zz := t3; clear zz t3; have t4 : Stg 4 := trivial; go_at_call 11; (with_reducible refine (all_ok gm 0 m m (some ⟨gm, 0, none⟩) (QO Q (ofP Q X inn) rn) sb so sn sc_ ss S t _ (.inr rfl) (Nat.le_refl _) hmM (R5.bel hb6) okO hss hsc hsm (hs.bel BF) os hao ht).mono ?_); rintro e w7 ⟨vw7, uw7, hallw7, rfl, hbw7⟩; obtain ⟨grw7, rcw7, rsw7, gsw7, scw7, ssw7, rfl, rfl, p1w7, p2w7, p3w7, p4w7, p5w7, p6w7, p7w7, p8w7, p9w7, hRWw7, hSMw7⟩ := hallw7.at_; have BG := bl_trans BF hbw7) | go_values | go_skip | go_guarded | go_step | go_upon | go_back | dsimp only)
            have k9 := it_only (Q := Q) (p := (ofP Q X inn)) (rn := rn) (M := (fun i => tlS (S i))) (fun i => tl_c _) (only_ap (by rw [← hmV.out, ← hm2V.out]; exact eap)) (fun z hz => hof z (by rw [hmV.out]; exact hz)) t
            rw [← hmV.out] at k9
            obtain ⟨k1, k2, k3, k4, k5⟩ := k9
            have hat7 : ∀ i, i < m → w7.cell? ⟨ga, i, none⟩ = some (.int .i64 (LN (pickN (ofP Q X inn) rn) i : Int)) := fun i hi => keep (bl_trans (bl_trans (bl_trans (bl_trans hbw3 hB) hB5) hb6) hbw7) (hat i hi)
            have R7m := (R5.bel hb6).bel hbw7
            have R3 := ((((hRWw3.at_.bel hB).bel hB5).bel hb6).bel hbw7)
            have R7 := hRWw7.at_
            obtain ⟨S3, hS3, hR3⟩ := ((((hSMw3.bel hB).bel hB5).bel hb6).bel hbw7).at_
            obtain ⟨S7, hS7, hR7⟩ := hSMw7.at_
            have hin := it_inv (M := (fun i => tlS (S i))) (asE_zero hao).2.2.1 okO t
            have htc : ∀ j, j < m → TO Q (ofP Q X inn) rn (QO Q (ofP Q X inn) rn j).ra.toNat = true ∧ TO Q (ofP Q X inn) rn (QO Q (ofP Q X inn) rn j).rb.toNat = true := fun j hj => tch_at (by rw [← hmV.out]; exact hj)
            have hch : ∀ j, j < m → 0 ≤ (QO Q (ofP Q X inn) rn j).ra ∧ (QO Q (ofP Q X inn) rn j).ra < sn ∧ 0 ≤ (QO Q (ofP Q X inn) rn j).rb ∧ (QO Q (ofP Q X inn) rn j).rb < sn := fun j hj => by
              have h := (asE_zero hao).2.2.1 j hj
              unfold chB mayB at h
              simp only [Bool.and_eq_true, decide_eq_true_eq] at h
              exact ⟨h.1.1, h.2.1, h.1.2.1, h.2.2.1⟩
            clear hRWw3 hRWw7 hSMw3 hSMw7 hallw3 hallw7 k3 k4 k5 hof hao hrao okO okN hat R5 H5 hRm
            go_loopw [23] (fun i wr => ∃ j : Nat, j ≤ m ∧ i = .int .i64 j ∧ Bel w7 wr) (fun i _ => m - (intOf i).toNat)
            case atStart => exact ⟨0, by omega, rfl, bl_refl _⟩
            case round =>
              obtain ⟨j, hj, rfl, hB8⟩ := hrel
              by_cases hlj : j < m
              · have hjI : (j : Int) < (m : Int) := by omega
                have hL1 := hLN j hlj
                have hL1I : ((LN (pickN (ofP Q X inn) rn) j : Nat) : Int) < (rn : Int) := by omega
                have e1 : rsw3 = some ⟨grw3, 0, none⟩ := by rcases p1w3 with h | h; omega; exact h
                have es : sa = some ⟨ga, 0, none⟩ := by rcases hsa with h | h; omega; exact h
                have e7 : rsw7 = some ⟨grw7, 0, none⟩ := by rcases p1w7 with h | h; omega; exact h
                subst e1 es e7
                obtain ⟨R, hRd⟩ : ∃ R, R = (itM Q (fun i => tlS (S i)) rn t).1 (LN (pickN (ofP Q X inn) rn) j) := ⟨_, rfl⟩
                obtain ⟨x, hx⟩ : ∃ x, x = (QO Q (ofP Q X inn) rn j).ro := ⟨_, rfl⟩
                have hk1 := k1 j hlj
                rw [← hRd, ← hx] at hk1
                have oR : rok ({ R with ro := x } : RD) := by rw [← hk1]; exact hin.2.1 j hlj
                have ka := keep hB8 (hat7 j hlj)
                have hA : wr.rangeAt grw3 (LN (pickN (ofP Q X inn) rn) j * 14) [.int .i64 R.ra, .int .i64 R.rb, .float .f64 R.r2, .float .f64 R.r3, .float .f64 R.r4, .float .f64 R.r5, .float .f64 R.r6, .float .f64 R.r7, .float .f64 R.r8, .float .f64 R.r9, .float .f64 R.r10, .float .f64 R.r11, .int .i64 R.ro, .float .f64 R.r13] := by have h := (R3.bel hB8) _ hL1; rw [Nat.zero_add, ← hRd] at h; exact h
                have hBr : wr.rangeAt grw7 (j * 14) [.int .i64 R.ra, .int .i64 R.rb, .float .f64 R.r2, .float .f64 R.r3, .float .f64 R.r4, .float .f64 R.r5, .float .f64 R.r6, .float .f64 R.r7, .float .f64 R.r8, .float .f64 R.r9, .float .f64 R.r10, .float .f64 R.r11, .int .i64 x, .float .f64 R.r13] := by have h := (R7.bel hB8) j hlj; rw [Nat.zero_add, hk1] at h; exact h
                have km : wr.cell? ⟨gm, j * 14 + 12, none⟩ = some (.int .i64 x) := by have h := keep hB8 (R7m j hlj 12 _ rfl); rw [Nat.zero_add] at h; rw [hx]; exact h
                have km0 : wr.cell? ⟨gm, j * 14, none⟩ = some (.int .i64 (QO Q (ofP Q X inn) rn j).ra) := by have h := keep hB8 (R7m j hlj 0 _ rfl); rw [Nat.zero_add] at h; exact h
                have km1 : wr.cell? ⟨gm, j * 14 + 1, none⟩ = some (.int .i64 (QO Q (ofP Q X inn) rn j).rb) := by have h := keep hB8 (R7m j hlj 1 _ rfl); rw [Nat.zero_add] at h; exact h
                have hX9 : (wr.alloc (.cells #[.int .i64 0, .int .i64 0, .float .f64 0, .float .f64 0, .float .f64 0, .float .f64 0, .float .f64 0, .float .f64 0, .float .f64 0, .float .f64 0, .float .f64 0, .float .f64 0, .int .i64 0, .float .f64 0] 56)).there wr.heap.size 0 14 := there_new wr [.int .i64 0, .int .i64 0, .float .f64 0, .float .f64 0, .float .f64 0, .float .f64 0, .float .f64 0, .float .f64 0, .float .f64 0, .float .f64 0, .float .f64 0, .float .f64 0, .int .i64 0, .float .f64 0] 56
                have hY : ((wr.alloc (.cells #[.int .i64 0, .int .i64 0, .float .f64 0, .float .f64 0, .float .f64 0, .float .f64 0, .float .f64 0, .float .f64 0, .float .f64 0, .float .f64 0, .float .f64 0, .float .f64 0, .int .i64 0, .float .f64 0] 56)).setCells wr.heap.size 0 [.int .i64 R.ra, .int .i64 R.rb, .float .f64 R.r2, .float .f64 R.r3, .float .f64 R.r4, .float .f64 R.r5, .float .f64 R.r6, .float .f64 R.r7, .float .f64 R.r8, .float .f64 R.r9, .float .f64 R.r10, .float .f64 R.r11, .int .i64 R.ro, .float .f64 R.r13]).rangeAt wr.heap.size 0 [.int .i64 R.ra, .int .i64 R.rb, .float .f64 R.r2, .float .f64 R.r3, .float .f64 R.r4, .float .f64 R.r5, .float .f64 R.r6, .float .f64 R.r7, .float .f64 R.r8, .float .f64 R.r9, .float .f64 R.r10, .float .f64 R.r11, .int .i64 R.ro, .float .f64 R.r13] := World.rangeAt_setCells_same _ _ _ _ hX9
                have hB9 : Bel wr ((wr.alloc (.cells #[.int .i64 0, .int .i64 0, .float .f64 0, .float .f64 0, .float .f64 0, .float .f64 0, .float .f64 0, .float .f64 0, .float .f64 0, .float .f64 0, .float .f64 0, .float .f64 0, .int .i64 0, .float .f64 0] 56)).setCells wr.heap.size 0 [.int .i64 R.ra, .int .i64 R.rb, .float .f64 R.r2, .float .f64 R.r3, .float .f64 R.r4, .float .f64 R.r5, .float .f64 R.r6, .float .f64 R.r7, .float .f64 R.r8, .float .f64 R.r9, .float .f64 R.r10, .float .f64 R.r11, .int .i64 R.ro, .float .f64 R.r13]) := bel_setsJ _ _ (bl_alloc (bl_refl _) _ _) (Nat.le_refl _)
                have y12 : ((wr.alloc (.cells #[.int .i64 0, .int .i64 0, .float .f64 0, .float .f64 0, .float .f64 0, .float .f64 0, .float .f64 0, .float .f64 0, .float .f64 0, .float .f64 0, .float .f64 0, .float .f64 0, .int .i64 0, .float .f64 0] 56)).setCells wr.heap.size 0 [.int .i64 R.ra, .int .i64 R.rb, .float .f64 R.r2, .float .f64 R.r3, .float .f64 R.r4, .float .f64 R.r5, .float .f64 R.r6, .float .f64 R.r7, .float .f64 R.r8, .float .f64 R.r9, .float .f64 R.r10, .float .f64 R.r11, .int .i64 R.ro, .float .f64 R.r13]).cell? ⟨wr.heap.size, 12, none⟩ = some (.int .i64 R.ro) := hY 12 _ rfl
                have f12 : ((wr.alloc (.cells #[.int .i64 0, .int .i64 0, .float .f64 0, .float .f64 0, .float .f64 0, .float .f64 0, .float .f64 0, .float .f64 0, .float .f64 0, .float .f64 0, .float .f64 0, .float .f64 0, .int .i64 0, .float .f64 0] 56)).setCells wr.heap.size 0 [.int .i64 R.ra, .int .i64 R.rb, .float .f64 R.r2, .float .f64 R.r3, .float .f64 R.r4, .float .f64 R.r5, .float .f64 R.r6, .float .f64 R.r7, .float .f64 R.r8, .float .f64 R.r9, .float .f64 R.r10, .float .f64 R.r11, .int .i64 R.ro, .float .f64 R.r13]).frozen? ⟨wr.heap.size, 12, none⟩ = false := by have h := ((World.there_setCells hX9 _ _ [.int .i64 R.ra, .int .i64 R.rb, .float .f64 R.r2, .float .f64 R.r3, .float .f64 R.r4, .float .f64 R.r5, .float .f64 R.r6, .float .f64 R.r7, .float .f64 R.r8, .float .f64 R.r9, .float .f64 R.r10, .float .f64 R.r11, .int .i64 R.ro, .float .f64 R.r13] : ((wr.alloc (.cells #[.int .i64 0, .int .i64 0, .float .f64 0, .float .f64 0, .float .f64 0, .float .f64 0, .float .f64 0, .float .f64 0, .float .f64 0, .float .f64 0, .float .f64 0, .float .f64 0, .int .i64 0, .float .f64 0] 56)).setCells wr.heap.size 0 [.int .i64 R.ra, .int .i64 R.rb, .float .f64 R.r2, .float .f64 R.r3, .float .f64 R.r4, .float .f64 R.r5, .float .f64 R.r6, .float .f64 R.r7, .float .f64 R.r8, .float .f64 R.r9, .float .f64 R.r10, .float .f64 R.r11, .int .i64 R.ro, .float .f64 R.r13]).there wr.heap.size 0 14) 12 (by omega)).2; rwa [Nat.zero_add] at h
                have km9 := keep hB9 km
                clear hRd hx hk1
                repeat (first | ((with_reducible show Oper.wp _ { dst := _, op := Op.load 56 _, type := _, pos := _, after := _, guard := _ } _ _ _ _); refine wp_load_mid (P := Try.prog) 56 _ rfl _ _ rfl [.int .i64 R.ra, .int .i64 R.rb, .float .f64 R.r2, .float .f64 R.r3, .float .f64 R.r4, .float .f64 R.r5, .float .f64 R.r6, .float .f64 R.r7, .float .f64 R.r8, .float .f64 R.r9, .float .f64 R.r10, .float .f64 R.r11, .int .i64 R.ro, .float .f64 R.r13] _ (by with_reducible assumption) Try.underlying56 rfl (by kernel_rfl) ?_; simp only [go_sem]) | ((with_reducible show Oper.wp _ { dst := _, op := Op.store 56 _ _, type := _, pos := _, after := _, guard := _ } _ _ _ _); refine wp_store_mid (P := Try.prog) 56 _ _ rfl (wr.heap.size) (0) #[.int .i64 R.ra, .int .i64 R.rb, .float .f64 R.r2, .float .f64 R.r3, .float .f64 R.r4, .float .f64 R.r5, .float .f64 R.r6, .float .f64 R.r7, .float .f64 R.r8, .float .f64 R.r9, .float .f64 R.r10, .float .f64 R.r11, .int .i64 R.ro, .float .f64 R.r13] rfl rfl hX9 (by kernel_rfl) (by kernel_rfl) ?_; simp only [go_sem]; generalize ((wr.alloc (.cells #[.int .i64 0, .int .i64 0, .float .f64 0, .float .f64 0, .float .f64 0, .float .f64 0, .float .f64 0, .float .f64 0, .float .f64 0, .float .f64 0, .float .f64 0, .float .f64 0, .int .i64 0, .float .f64 0] 56)).setCells wr.heap.size 0 [.int .i64 R.ra, .int .i64 R.rb, .float .f64 R.r2, .float .f64 R.r3, .float .f64 R.r4, .float .f64 R.r5, .float .f64 R.r6, .float .f64 R.r7, .float .f64 R.r8, .float .f64 R.r9, .float .f64 R.r10, .float .f64 R.r11, .int .i64 R.ro, .float .f64 R.r13]) = w9 at hY hB9 y12 f12 km9 ⊢) | go_values | go_skip | go_guarded | go_step | go_upon | go_back | dsimp only)
                have hY3 : (w9.setCell ⟨wr.heap.size, 12, none⟩ (.int .i64 x)).rangeAt wr.heap.size 0 [.int .i64 R.ra, .int .i64 R.rb, .float .f64 R.r2, .float .f64 R.r3, .float .f64 R.r4, .float .f64 R.r5, .float .f64 R.r6, .float .f64 R.r7, .float .f64 R.r8, .float .f64 R.r9, .float .f64 R.r10, .float .f64 R.r11, .int .i64 x, .float .f64 R.r13] := by have h := rng_upd (k := 12) (v := .int .i64 x) hY (by simp); exact h
                have hB10 : Bel wr (w9.setCell ⟨wr.heap.size, 12, none⟩ (.int .i64 x)) := bel_set1 hB9 (Nat.le_refl _)
                generalize (w9.setCell ⟨wr.heap.size, 12, none⟩ (.int .i64 x)) = w10 at hY3 hB10 ⊢
                have hBr10 := rng_bel hBr hB10
                have hS0 : 0 < sn := by have := hch j hlj; omega
                have e3 : ssw3 = some ⟨gsw3, 0, none⟩ := by rcases p4w3 with h | h; omega; exact h
                have e9 : ssw7 = some ⟨gsw7, 0, none⟩ := by rcases p4w7 with h | h; omega; exact h
                subst e3 e9
                refine wp_region_mono 7 rfl (fun i W v => match i with | 0 => v = .slice (some ⟨grw7, 0, none⟩) m rcw7 | 1 => v = .int .i64 (j : Int) | 2 => v = .pointer (some ⟨grw7, j * 14, none⟩) | 3 => v = .agg #[.int .i64 R.ra, .int .i64 R.rb, .float .f64 R.r2, .float .f64 R.r3, .float .f64 R.r4, .float .f64 R.r5, .float .f64 R.r6, .float .f64 R.r7, .float .f64 R.r8, .float .f64 R.r9, .float .f64 R.r10, .float .f64 R.r11, .int .i64 x, .float .f64 R.r13] | 4 => v = .agg #[.int .i64 R.ra, .int .i64 R.rb, .float .f64 R.r2, .float .f64 R.r3, .float .f64 R.r4, .float .f64 R.r5, .float .f64 R.r6, .float .f64 R.r7, .float .f64 R.r8, .float .f64 R.r9, .float .f64 R.r10, .float .f64 R.r11, .int .i64 x, .float .f64 R.r13] | 5 => v = .bool true | 6 => v = .bool false | _ => False) ?A_r38 (by kernel_rfl) (by kernel_rfl) ?hA_r38 ?hmo_r38 ?hq_r38 ?ht_r38
                case hA_r38 =>
                  intro s
                  simp only [putL, dstO, Act.put, List.getElem?_toArray, List.getElem?_cons_zero, List.getElem?_cons_succ, Option.bind_some, List.setIfInBounds_toArray, List.set_cons_zero, List.set_cons_succ, if_true]
                  all_goals exact rfl
                case hmo_r38 =>
                  intro i W W' v hi hb h
                  rcases (show i = 0 ∨ i = 1 ∨ i = 2 ∨ i = 3 ∨ i = 4 ∨ i = 5 ∨ i = 6 by omega) with rfl | rfl | rfl | rfl | rfl | rfl | rfl
                  all_goals exact h
                case hq_r38 =>
                  intro i o hi ho s W hs hb K hK
                  rcases (show i = 0 ∨ i = 1 ∨ i = 2 ∨ i = 3 ∨ i = 4 ∨ i = 5 ∨ i = 6 by omega) with rfl | rfl | rfl | rfl | rfl | rfl | rfl
                  · cases ho
                    simp only [Act.put, List.setIfInBounds_toArray, List.set_cons_zero, List.set_cons_succ] at hK
                    clear hs
                    go_simp
                    all_goals first | with_reducible exact hK.out _ _ rfl (bl_refl _) | exact hK.out _ _ rfl (bl_refl _)
                  · cases ho
                    simp only [Act.put, List.setIfInBounds_toArray, List.set_cons_zero, List.set_cons_succ] at hK
                    clear hs
                    go_simp
                    all_goals first | with_reducible exact hK.out _ _ rfl (bl_refl _) | exact hK.out _ _ rfl (bl_refl _)
                  · cases ho
                    have e0 : s 0 = _ := hs 0 (by decide) (by kernel_rfl)
                    have e1 : s 1 = _ := hs 1 (by decide) (by kernel_rfl)
                    simp only [e0, e1] at hK ⊢
                    simp only [Act.put, List.setIfInBounds_toArray, List.set_cons_zero, List.set_cons_succ] at hK
                    clear hs
                    go_simp
                    all_goals first | with_reducible exact hK.out _ _ rfl (bl_refl _) | exact hK.out _ _ rfl (bl_refl _)
                  · cases ho
                    have e2 : s 2 = _ := hs 2 (by decide) (by kernel_rfl)
                    simp only [e2] at hK ⊢
                    simp only [Act.put, List.setIfInBounds_toArray, List.set_cons_zero, List.set_cons_succ] at hK
                    clear hs
                    refine wp_load_mid (P := Try.prog) 56 _ rfl _ _ rfl [.int .i64 R.ra, .int .i64 R.rb, .float .f64 R.r2, .float .f64 R.r3, .float .f64 R.r4, .float .f64 R.r5, .float .f64 R.r6, .float .f64 R.r7, .float .f64 R.r8, .float .f64 R.r9, .float .f64 R.r10, .float .f64 R.r11, .int .i64 x, .float .f64 R.r13] _ (rng_bel hBr10 hb) Try.underlying56 rfl (by kernel_rfl) ?_; exact hK.out _ _ rfl (bl_refl _)
                  · cases ho
                    simp only [Act.put, List.setIfInBounds_toArray, List.set_cons_zero, List.set_cons_succ] at hK
                    clear hs
                    refine wp_load_mid (P := Try.prog) 56 _ rfl _ _ rfl [.int .i64 R.ra, .int .i64 R.rb, .float .f64 R.r2, .float .f64 R.r3, .float .f64 R.r4, .float .f64 R.r5, .float .f64 R.r6, .float .f64 R.r7, .float .f64 R.r8, .float .f64 R.r9, .float .f64 R.r10, .float .f64 R.r11, .int .i64 x, .float .f64 R.r13] _ (rng_bel hY3 hb) Try.underlying56 rfl (by kernel_rfl) ?_; exact hK.out _ _ rfl (bl_refl _)
                  · cases ho
                    have e3 : s 3 = _ := hs 3 (by decide) (by kernel_rfl)
                    have e4 : s 4 = _ := hs 4 (by decide) (by kernel_rfl)
                    simp only [e3, e4] at hK ⊢
                    simp only [Act.put, List.setIfInBounds_toArray, List.set_cons_zero, List.set_cons_succ] at hK
                    clear hs
                    go_simp
                    all_goals (try go_wp2_with (first | (go_at_call 30; (with_reducible refine (sameRow21 ({ R with ro := x } : RD) _ oR).mono ?_); rintro e w' ⟨rfl, hb1⟩)))
                    all_goals first | exact hK.out _ _ rfl hb1 | exact hK.out _ _ rfl hb1 | with_reducible exact hK.out _ _ rfl (bl_refl _) | exact hK.out _ _ rfl (bl_refl _)
                  · cases ho
                    have e5 : s 5 = _ := hs 5 (by decide) (by kernel_rfl)
                    simp only [e5] at hK ⊢
                    simp only [Act.put, List.setIfInBounds_toArray, List.set_cons_zero, List.set_cons_succ] at hK
                    clear hs
                    go_simp
                    all_goals first | with_reducible exact hK.out _ _ rfl (bl_refl _) | exact hK.out _ _ rfl (bl_refl _)
                case ht_r38 =>
                  intro s w11 hs hb11
                  have e0 : s 0 = _ := hs 0 (by decide)
                  have e1 : s 1 = _ := hs 1 (by decide)
                  have e2 : s 2 = _ := hs 2 (by decide)
                  have e3 : s 3 = _ := hs 3 (by decide)
                  have e4 : s 4 = _ := hs 4 (by decide)
                  have e5 : s 5 = _ := hs 5 (by decide)
                  have e6 : s 6 = _ := hs 6 (by decide)
                  simp only [e0, e1, e2, e3, e4, e5, e6]
                  clear hs e0 e1 e2 e3 e4 e5 e6
                  repeat (first | go_values | go_skip | go_guarded | go_step | go_upon | go_back | dsimp only)
                  go_loopw [25] (fun i wr => ∃ z : Nat, z ≤ 2 ∧ i = .int .i64 z ∧ Bel w11 wr) (fun i _ => 2 - (intOf i).toNat)
                  case atStart => exact ⟨0, by omega, rfl, bl_refl _⟩
                  case round =>
                    obtain ⟨z, hz, rfl, hB12⟩ := hrel
                    by_cases hlz : z < 2
                    · have hzI : (z : Int) < 2 := by omega
                      rcases (show z = 0 ∨ z = 1 by omega) with h0 | h0
                      · have hq1 : (((z : Nat) : Int) == 1) = false := by rw [h0]; rfl
                        clear h0
                        obtain ⟨y, hy⟩ : ∃ y : Nat, (QO Q (ofP Q X inn) rn j).ra = (y : Int) := ⟨(QO Q (ofP Q X inn) rn j).ra.toNat, by have := hch j hlj; omega⟩
                        have hyS : y < sn := by have := hch j hlj; omega
                        have hyI : (y : Int) < (sn : Int) := by omega
                        have ht9 : TO Q (ofP Q X inn) rn y = true := by have h := (htc j hlj).1; rw [hy] at h; simpa using h
                        have kb : wr.cell? ⟨gm, j * 14, none⟩ = some (.int .i64 (y : Int)) := by have h := keep hB12 (keep hb11 (keep hB10 km0)); rwa [hy] at h
                        have kb0 := keep hB12 (keep hb11 (keep hB10 km0))
                        have d7 : wr.rangeAt gsw7 (y * 5) [.float .f64 (S7 y).sm, .float .f64 (S7 y).si, .float .f64 (S7 y).sx, .float .f64 (S7 y).sy, .float .f64 (S7 y).ss] := by have h := (((hS7.bel hB8).bel hB10).bel (bl_trans hb11 hB12)) y hyS; rw [Nat.zero_add] at h; exact h
                        have d3 : wr.rangeAt gsw3 (y * 5) [.float .f64 (S3 y).sm, .float .f64 (S3 y).si, .float .f64 (S3 y).sx, .float .f64 (S3 y).sy, .float .f64 (S3 y).ss] := by have h := (((hS3.bel hB8).bel hB10).bel (bl_trans hb11 hB12)) y hyS; rw [Nat.zero_add] at h; exact h
                        have hp7 := hR7 y hyS
                        have hp3 := hR3 y hyS
                        rw [k2 y ht9] at hp3
                        clear hy ht9 htc hch
                        repeat (first | go_values | go_skip | go_guarded | go_step | go_upon | go_back | dsimp only)
                        refine wp_region_mono 10 rfl (fun i W v => match i with | 0 => v = .slice (some ⟨gsw7, 0, none⟩) sn scw7 | 1 => v = .int .i64 (y : Int) | 2 => v = .pointer (some ⟨gsw7, y * 5, none⟩) | 3 => v = .agg #[.float .f64 (S7 y).sm, .float .f64 (S7 y).si, .float .f64 (S7 y).sx, .float .f64 (S7 y).sy, .float .f64 (S7 y).ss] | 4 => v = .slice (some ⟨gsw3, 0, none⟩) sn scw3 | 5 => v = .int .i64 (y : Int) | 6 => v = .pointer (some ⟨gsw3, y * 5, none⟩) | 7 => v = .agg #[.float .f64 (S3 y).sm, .float .f64 (S3 y).si, .float .f64 (S3 y).sx, .float .f64 (S3 y).sy, .float .f64 (S3 y).ss] | 8 => v = .bool true | 9 => v = .bool false | _ => False) ?A_r46a (by kernel_rfl) (by kernel_rfl) ?hA_r46a ?hmo_r46a ?hq_r46a ?ht_r46a
                        case hA_r46a =>
                          intro s
                          simp only [putL, dstO, Act.put, List.getElem?_toArray, List.getElem?_cons_zero, List.getElem?_cons_succ, Option.bind_some, List.setIfInBounds_toArray, List.set_cons_zero, List.set_cons_succ, if_true]
                          all_goals exact rfl
                        case hmo_r46a =>
                          intro i W W' v hi hb h
                          rcases (show i = 0 ∨ i = 1 ∨ i = 2 ∨ i = 3 ∨ i = 4 ∨ i = 5 ∨ i = 6 ∨ i = 7 ∨ i = 8 ∨ i = 9 by omega) with rfl | rfl | rfl | rfl | rfl | rfl | rfl | rfl | rfl | rfl
                          all_goals exact h
                        case hq_r46a =>
                          intro i o hi ho s W hs hb K hK
                          rcases (show i = 0 ∨ i = 1 ∨ i = 2 ∨ i = 3 ∨ i = 4 ∨ i = 5 ∨ i = 6 ∨ i = 7 ∨ i = 8 ∨ i = 9 by omega) with rfl | rfl | rfl | rfl | rfl | rfl | rfl | rfl | rfl | rfl
                          · cases ho
                            simp only [Act.put, List.setIfInBounds_toArray, List.set_cons_zero, List.set_cons_succ] at hK
                            clear hs
                            go_simp
                            all_goals first | with_reducible exact hK.out _ _ rfl (bl_refl _) | exact hK.out _ _ rfl (bl_refl _)
                          · cases ho
                            simp only [Act.put, List.setIfInBounds_toArray, List.set_cons_zero, List.set_cons_succ] at hK
                            clear hs
                            go_simp
                            all_goals first | with_reducible exact hK.out _ _ rfl (bl_refl _) | exact hK.out _ _ rfl (bl_refl _)
                          · cases ho
                            have e0 : s 0 = _ := hs 0 (by decide) (by kernel_rfl)
                            have e1 : s 1 = _ := hs 1 (by decide) (by kernel_rfl)
                            simp only [e0, e1] at hK ⊢
                            simp only [Act.put, List.setIfInBounds_toArray, List.set_cons_zero, List.set_cons_succ] at hK
                            clear hs
                            go_simp
                            all_goals first | with_reducible exact hK.out _ _ rfl (bl_refl _) | exact hK.out _ _ rfl (bl_refl _)
                          · cases ho
                            have e2 : s 2 = _ := hs 2 (by decide) (by kernel_rfl)
                            simp only [e2] at hK ⊢
                            simp only [Act.put, List.setIfInBounds_toArray, List.set_cons_zero, List.set_cons_succ] at hK
                            clear hs
                            refine wp_load_mid (P := Try.prog) 35 _ rfl _ _ rfl [.float .f64 (S7 y).sm, .float .f64 (S7 y).si, .float .f64 (S7 y).sx, .float .f64 (S7 y).sy, .float .f64 (S7 y).ss] _ (rng_bel d7 hb) Try.underlying35 rfl (by kernel_rfl) ?_; exact hK.out _ _ rfl (bl_refl _)
                          · cases ho
                            simp only [Act.put, List.setIfInBounds_toArray, List.set_cons_zero, List.set_cons_succ] at hK
                            clear hs
                            go_simp
                            all_goals first | with_reducible exact hK.out _ _ rfl (bl_refl _) | exact hK.out _ _ rfl (bl_refl _)
                          · cases ho
                            simp only [Act.put, List.setIfInBounds_toArray, List.set_cons_zero, List.set_cons_succ] at hK
                            clear hs
                            go_simp
                            all_goals first | with_reducible exact hK.out _ _ rfl (bl_refl _) | exact hK.out _ _ rfl (bl_refl _)
                          · cases ho
                            have e4 : s 4 = _ := hs 4 (by decide) (by kernel_rfl)
                            have e5 : s 5 = _ := hs 5 (by decide) (by kernel_rfl)
                            simp only [e4, e5] at hK ⊢
                            simp only [Act.put, List.setIfInBounds_toArray, List.set_cons_zero, List.set_cons_succ] at hK
                            clear hs
                            go_simp
                            all_goals first | with_reducible exact hK.out _ _ rfl (bl_refl _) | exact hK.out _ _ rfl (bl_refl _)
                          · cases ho
                            have e6 : s 6 = _ := hs 6 (by decide) (by kernel_rfl)
                            simp only [e6] at hK ⊢
                            simp only [Act.put, List.setIfInBounds_toArray, List.set_cons_zero, List.set_cons_succ] at hK
                            clear hs
                            refine wp_load_mid (P := Try.prog) 35 _ rfl _ _ rfl [.float .f64 (S3 y).sm, .float .f64 (S3 y).si, .float .f64 (S3 y).sx, .float .f64 (S3 y).sy, .float .f64 (S3 y).ss] _ (rng_bel d3 hb) Try.underlying35 rfl (by kernel_rfl) ?_; exact hK.out _ _ rfl (bl_refl _)
                          · cases ho
                            have e3 : s 3 = _ := hs 3 (by decide) (by kernel_rfl)
                            have e7 : s 7 = _ := hs 7 (by decide) (by kernel_rfl)
                            simp only [e3, e7] at hK ⊢
                            simp only [Act.put, List.setIfInBounds_toArray, List.set_cons_zero, List.set_cons_succ] at hK
                            clear hs
                            go_simp
                            all_goals (try go_wp2_with (first | (go_at_call 15; (with_reducible refine (same_rel (S7 y) (S3 y) _ _ hp7 hp3).mono ?_); rintro e w' ⟨rfl, hb1⟩)))
                            all_goals first | exact hK.out _ _ rfl hb1 | exact hK.out _ _ rfl hb1 | with_reducible exact hK.out _ _ rfl (bl_refl _) | exact hK.out _ _ rfl (bl_refl _)
                          · cases ho
                            have e8 : s 8 = _ := hs 8 (by decide) (by kernel_rfl)
                            simp only [e8] at hK ⊢
                            simp only [Act.put, List.setIfInBounds_toArray, List.set_cons_zero, List.set_cons_succ] at hK
                            clear hs
                            go_simp
                            all_goals first | with_reducible exact hK.out _ _ rfl (bl_refl _) | exact hK.out _ _ rfl (bl_refl _)
                        case ht_r46a =>
                          intro s W hs hb
                          have e0 : s 0 = _ := hs 0 (by decide)
                          have e1 : s 1 = _ := hs 1 (by decide)
                          have e2 : s 2 = _ := hs 2 (by decide)
                          have e3 : s 3 = _ := hs 3 (by decide)
                          have e4 : s 4 = _ := hs 4 (by decide)
                          have e5 : s 5 = _ := hs 5 (by decide)
                          have e6 : s 6 = _ := hs 6 (by decide)
                          have e7 : s 7 = _ := hs 7 (by decide)
                          have e8 : s 8 = _ := hs 8 (by decide)
                          have e9 : s 9 = _ := hs 9 (by decide)
                          simp only [e0, e1, e2, e3, e4, e5, e6, e7, e8, e9]
                          clear hs e0 e1 e2 e3 e4 e5 e6 e7 e8 e9
                          repeat (first | go_values | go_skip | go_guarded | go_step | go_upon | go_back | dsimp only)
                          exact ⟨⟨z + 1, by omega, by first | go_num | rfl, bl_trans hB12 hb⟩, by simp [intOf]; omega⟩
                      · have hq1 : (((z : Nat) : Int) == 1) = true := by rw [h0]; rfl
                        clear h0
                        obtain ⟨y, hy⟩ : ∃ y : Nat, (QO Q (ofP Q X inn) rn j).rb = (y : Int) := ⟨(QO Q (ofP Q X inn) rn j).rb.toNat, by have := hch j hlj; omega⟩
                        have hyS : y < sn := by have := hch j hlj; omega
                        have hyI : (y : Int) < (sn : Int) := by omega
                        have ht9 : TO Q (ofP Q X inn) rn y = true := by have h := (htc j hlj).2; rw [hy] at h; simpa using h
                        have kb : wr.cell? ⟨gm, j * 14 + 1, none⟩ = some (.int .i64 (y : Int)) := by have h := keep hB12 (keep hb11 (keep hB10 km1)); rwa [hy] at h
                        have kb0 := keep hB12 (keep hb11 (keep hB10 km0))
                        have d7 : wr.rangeAt gsw7 (y * 5) [.float .f64 (S7 y).sm, .float .f64 (S7 y).si, .float .f64 (S7 y).sx, .float .f64 (S7 y).sy, .float .f64 (S7 y).ss] := by have h := (((hS7.bel hB8).bel hB10).bel (bl_trans hb11 hB12)) y hyS; rw [Nat.zero_add] at h; exact h
                        have d3 : wr.rangeAt gsw3 (y * 5) [.float .f64 (S3 y).sm, .float .f64 (S3 y).si, .float .f64 (S3 y).sx, .float .f64 (S3 y).sy, .float .f64 (S3 y).ss] := by have h := (((hS3.bel hB8).bel hB10).bel (bl_trans hb11 hB12)) y hyS; rw [Nat.zero_add] at h; exact h
                        have hp7 := hR7 y hyS
                        have hp3 := hR3 y hyS
                        rw [k2 y ht9] at hp3
                        clear hy ht9 htc hch
                        repeat (first | go_values | go_skip | go_guarded | go_step | go_upon | go_back | dsimp only)
                        refine wp_region_mono 10 rfl (fun i W v => match i with | 0 => v = .slice (some ⟨gsw7, 0, none⟩) sn scw7 | 1 => v = .int .i64 (y : Int) | 2 => v = .pointer (some ⟨gsw7, y * 5, none⟩) | 3 => v = .agg #[.float .f64 (S7 y).sm, .float .f64 (S7 y).si, .float .f64 (S7 y).sx, .float .f64 (S7 y).sy, .float .f64 (S7 y).ss] | 4 => v = .slice (some ⟨gsw3, 0, none⟩) sn scw3 | 5 => v = .int .i64 (y : Int) | 6 => v = .pointer (some ⟨gsw3, y * 5, none⟩) | 7 => v = .agg #[.float .f64 (S3 y).sm, .float .f64 (S3 y).si, .float .f64 (S3 y).sx, .float .f64 (S3 y).sy, .float .f64 (S3 y).ss] | 8 => v = .bool true | 9 => v = .bool false | _ => False) ?A_r46b (by kernel_rfl) (by kernel_rfl) ?hA_r46b ?hmo_r46b ?hq_r46b ?ht_r46b
                        case hA_r46b =>
                          intro s
                          simp only [putL, dstO, Act.put, List.getElem?_toArray, List.getElem?_cons_zero, List.getElem?_cons_succ, Option.bind_some, List.setIfInBounds_toArray, List.set_cons_zero, List.set_cons_succ, if_true]
                          all_goals exact rfl
                        case hmo_r46b =>
                          intro i W W' v hi hb h
                          rcases (show i = 0 ∨ i = 1 ∨ i = 2 ∨ i = 3 ∨ i = 4 ∨ i = 5 ∨ i = 6 ∨ i = 7 ∨ i = 8 ∨ i = 9 by omega) with rfl | rfl | rfl | rfl | rfl | rfl | rfl | rfl | rfl | rfl
                          all_goals exact h
                        case hq_r46b =>
                          intro i o hi ho s W hs hb K hK
                          rcases (show i = 0 ∨ i = 1 ∨ i = 2 ∨ i = 3 ∨ i = 4 ∨ i = 5 ∨ i = 6 ∨ i = 7 ∨ i = 8 ∨ i = 9 by omega) with rfl | rfl | rfl | rfl | rfl | rfl | rfl | rfl | rfl | rfl
                          · cases ho
                            simp only [Act.put, List.setIfInBounds_toArray, List.set_cons_zero, List.set_cons_succ] at hK
                            clear hs
                            go_simp
                            all_goals first | with_reducible exact hK.out _ _ rfl (bl_refl _) | exact hK.out _ _ rfl (bl_refl _)
                          · cases ho
                            simp only [Act.put, List.setIfInBounds_toArray, List.set_cons_zero, List.set_cons_succ] at hK
                            clear hs
                            go_simp
                            all_goals first | with_reducible exact hK.out _ _ rfl (bl_refl _) | exact hK.out _ _ rfl (bl_refl _)
                          · cases ho
                            have e0 : s 0 = _ := hs 0 (by decide) (by kernel_rfl)
                            have e1 : s 1 = _ := hs 1 (by decide) (by kernel_rfl)
                            simp only [e0, e1] at hK ⊢
                            simp only [Act.put, List.setIfInBounds_toArray, List.set_cons_zero, List.set_cons_succ] at hK
                            clear hs
                            go_simp
                            all_goals first | with_reducible exact hK.out _ _ rfl (bl_refl _) | exact hK.out _ _ rfl (bl_refl _)
                          · cases ho
                            have e2 : s 2 = _ := hs 2 (by decide) (by kernel_rfl)
                            simp only [e2] at hK ⊢
                            simp only [Act.put, List.setIfInBounds_toArray, List.set_cons_zero, List.set_cons_succ] at hK
                            clear hs
                            refine wp_load_mid (P := Try.prog) 35 _ rfl _ _ rfl [.float .f64 (S7 y).sm, .float .f64 (S7 y).si, .float .f64 (S7 y).sx, .float .f64 (S7 y).sy, .float .f64 (S7 y).ss] _ (rng_bel d7 hb) Try.underlying35 rfl (by kernel_rfl) ?_; exact hK.out _ _ rfl (bl_refl _)
                          · cases ho
                            simp only [Act.put, List.setIfInBounds_toArray, List.set_cons_zero, List.set_cons_succ] at hK
                            clear hs
                            go_simp
                            all_goals first | with_reducible exact hK.out _ _ rfl (bl_refl _) | exact hK.out _ _ rfl (bl_refl _)
                          · cases ho
                            simp only [Act.put, List.setIfInBounds_toArray, List.set_cons_zero, List.set_cons_succ] at hK
                            clear hs
                            go_simp
                            all_goals first | with_reducible exact hK.out _ _ rfl (bl_refl _) | exact hK.out _ _ rfl (bl_refl _)
                          · cases ho
                            have e4 : s 4 = _ := hs 4 (by decide) (by kernel_rfl)
                            have e5 : s 5 = _ := hs 5 (by decide) (by kernel_rfl)
                            simp only [e4, e5] at hK ⊢
                            simp only [Act.put, List.setIfInBounds_toArray, List.set_cons_zero, List.set_cons_succ] at hK
                            clear hs
                            go_simp
                            all_goals first | with_reducible exact hK.out _ _ rfl (bl_refl _) | exact hK.out _ _ rfl (bl_refl _)
                          · cases ho
                            have e6 : s 6 = _ := hs 6 (by decide) (by kernel_rfl)
                            simp only [e6] at hK ⊢
                            simp only [Act.put, List.setIfInBounds_toArray, List.set_cons_zero, List.set_cons_succ] at hK
                            clear hs
                            refine wp_load_mid (P := Try.prog) 35 _ rfl _ _ rfl [.float .f64 (S3 y).sm, .float .f64 (S3 y).si, .float .f64 (S3 y).sx, .float .f64 (S3 y).sy, .float .f64 (S3 y).ss] _ (rng_bel d3 hb) Try.underlying35 rfl (by kernel_rfl) ?_; exact hK.out _ _ rfl (bl_refl _)
                          · cases ho
                            have e3 : s 3 = _ := hs 3 (by decide) (by kernel_rfl)
                            have e7 : s 7 = _ := hs 7 (by decide) (by kernel_rfl)
                            simp only [e3, e7] at hK ⊢
                            simp only [Act.put, List.setIfInBounds_toArray, List.set_cons_zero, List.set_cons_succ] at hK
                            clear hs
                            go_simp
                            all_goals (try go_wp2_with (first | (go_at_call 15; (with_reducible refine (same_rel (S7 y) (S3 y) _ _ hp7 hp3).mono ?_); rintro e w' ⟨rfl, hb1⟩)))
                            all_goals first | exact hK.out _ _ rfl hb1 | exact hK.out _ _ rfl hb1 | with_reducible exact hK.out _ _ rfl (bl_refl _) | exact hK.out _ _ rfl (bl_refl _)
                          · cases ho
                            have e8 : s 8 = _ := hs 8 (by decide) (by kernel_rfl)
                            simp only [e8] at hK ⊢
                            simp only [Act.put, List.setIfInBounds_toArray, List.set_cons_zero, List.set_cons_succ] at hK
                            clear hs
                            go_simp
                            all_goals first | with_reducible exact hK.out _ _ rfl (bl_refl _) | exact hK.out _ _ rfl (bl_refl _)
                        case ht_r46b =>
                          intro s W hs hb
                          have e0 : s 0 = _ := hs 0 (by decide)
                          have e1 : s 1 = _ := hs 1 (by decide)
                          have e2 : s 2 = _ := hs 2 (by decide)
                          have e3 : s 3 = _ := hs 3 (by decide)
                          have e4 : s 4 = _ := hs 4 (by decide)
                          have e5 : s 5 = _ := hs 5 (by decide)
                          have e6 : s 6 = _ := hs 6 (by decide)
                          have e7 : s 7 = _ := hs 7 (by decide)
                          have e8 : s 8 = _ := hs 8 (by decide)
                          have e9 : s 9 = _ := hs 9 (by decide)
                          simp only [e0, e1, e2, e3, e4, e5, e6, e7, e8, e9]
                          clear hs e0 e1 e2 e3 e4 e5 e6 e7 e8 e9
                          repeat (first | go_values | go_skip | go_guarded | go_step | go_upon | go_back | dsimp only)
                          exact ⟨⟨z + 1, by omega, by first | go_num | rfl, bl_trans hB12 hb⟩, by simp [intOf]; omega⟩
                    · have hzI : ¬ (z : Int) < 2 := by omega
                      repeat (first | go_values | go_skip | go_guarded | go_step | go_upon | go_back | dsimp only)
                      exact ⟨⟨j + 1, by omega, by first | go_num | rfl, bl_trans (bl_trans (bl_trans hB8 hB10) hb11) hB12⟩, by simp [intOf]; omega⟩
              · have hjm : m = j := by omega
                subst hjm
                repeat (first | go_values | go_skip | go_guarded | go_step | go_upon | go_back | dsimp only)
                go_ret
                exact ⟨rfl, bl_trans BG hB8⟩

end Go.Proofs.Ytchfgaooogfkdaa
