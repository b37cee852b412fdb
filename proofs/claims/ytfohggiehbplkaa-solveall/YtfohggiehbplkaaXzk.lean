/-
  Plain facts that go together.
-/
import Derived.Test.YtfohggiehbplkaaVec
import Derived.Test.YtfohggiehbplkaaXz
import Derived.Below
import Derived.OwnWalk
import Derived.Laws.AppendOwn
import Derived.Lib.SliceRun
import Derived.Laws.MakeOwn
import Derived.WalkKit
import Derived.WalkLawsBesides
import Derived.WalkSpells
import Derived.ProofKit
import Derived.OpenShut
import Derived.Deep.RegionHeld3
namespace Go.Proofs.Ytfohggiehbplkaa
open Go.ChangeShapes Go.WideShapes Go.ChangeAt Go.RowKit
set_option linter.unusedSimpArgs false
set_option linter.unusedVariables false
set_option maxRecDepth 100000 in
set_option maxHeartbeats 4000000 in
theorem rowsLent_w (rb ro rn rc_ : Nat) (rs : Option Addr) (Q : Nat → RD) (w : World) (hrs : rn = 0 ∨ rs = some ⟨rb, ro, none⟩) (hrc : rn ≤ rc_) (hrm : rc_ ≤ maxLen) (hr : Rws w rb ro rn Q) (or_ : ∀ i, i < rn → rok (Q i)) (hby : rn * 112 ≤ 140737488351232) : Calls Try.prog 29 #[.slice rs rn rc_] w fun e w' => ∃ g cap, w.heap.size ≤ g ∧ rn + 1 ≤ cap ∧ cap ≤ maxLen ∧ Rws w' g 0 rn Q ∧ w'.rangeAt g (rn * 14) [.int .i64 0, .int .i64 0, .float .f64 0, .float .f64 0, .float .f64 0, .float .f64 0, .float .f64 0, .float .f64 0, .float .f64 0, .float .f64 0, .float .f64 0, .float .f64 0, .int .i64 77, .float .f64 0] ∧ e = .returned (.slice (some ⟨g, 0, none⟩) rn cap) ∧ Bel w w' := by
 obtain ⟨v1, w1, hr1, hO1, hB1⟩ : ∃ v1 w1, (Builtin.append_ #[30, 30] 30 #[.slice none 0 0, .slice rs rn rc_]).run Try.prog w = .ok v1 w1 ∧ OwnR 14 w.heap.size w1 v1 rn (rowsL Q rn) ∧ Bel w w1 := by
  rcases Nat.eq_zero_or_pos rn with hz | hp
  ·subst hz
   exact ⟨_, _, run_app0n w _ _ _, OwnR.nil _ _ _, bl_refl _⟩
  ·have e9 : rs = some ⟨rb, ro, none⟩ := by rcases hrs with h | h; omega; exact h
   subst e9
   obtain ⟨v', w', a1, a2, _, a4⟩ := run_appR (P := Try.prog) 30 30 43 Try.underlying30 info_row rfl rb ro rn rc_ (OwnR.nil 14 w.heap.size w) (rowsL_len Q rn) (rowsL_rw hr) (rowsL_one Q rn) hp (Nat.le_refl _) (by unfold maxLen; omega) (by omega)
   simp only [Nat.zero_add, List.nil_append] at a2
   exact ⟨v', w', a1, a2, a4 w (bl_refl _) (Nat.le_refl _)⟩
 have hb : Bel w1 (w1.alloc (.cells #[.int .i64 0, .int .i64 0, .float .f64 0, .float .f64 0, .float .f64 0, .float .f64 0, .float .f64 0, .float .f64 0, .float .f64 0, .float .f64 0, .float .f64 0, .float .f64 0, .int .i64 77, .float .f64 0] 43)) := bl_alloc (bl_refl _) _ _
 obtain ⟨v2, w2, hr2, hO2, ⟨g, cap, rfl⟩, hB2⟩ := run_appR (P := Try.prog) 30 30 43 Try.underlying30 info_row rfl w1.heap.size 0 1 1 (hO1.bel hb) (N := [.int .i64 0, .int .i64 0, .float .f64 0, .float .f64 0, .float .f64 0, .float .f64 0, .float .f64 0, .float .f64 0, .float .f64 0, .float .f64 0, .float .f64 0, .float .f64 0, .int .i64 77, .float .f64 0]) rfl (rng_new w1 [.int .i64 0, .int .i64 0, .float .f64 0, .float .f64 0, .float .f64 0, .float .f64 0, .float .f64 0, .float .f64 0, .float .f64 0, .float .f64 0, .float .f64 0, .float .f64 0, .int .i64 77, .float .f64 0] 43) (by intro u hu; simp only [List.mem_cons, List.not_mem_nil, or_false] at hu; rcases hu with rfl | rfl | rfl | rfl | rfl | rfl | rfl | rfl | rfl | rfl | rfl | rfl | rfl | rfl <;> rfl) (by decide) (by have := (bl_trans hB1 hb).size; omega) (by unfold maxLen; omega) (by omega)
 have hBB := hB2 w (bl_trans hB1 hb) (Nat.le_refl _)
 rcases hO2.2 with ⟨h2, _⟩ | ⟨k, c, e, h1, h2, h3, h4, h5, h6⟩
 ·cases h2
 injection e with e1 e2 e3
 injection e1 with e4
 injection e4 with e5
 subst e3 e5
 have hcI : (rn : Int) ≤ (cap : Int) := by omega
 go_enter Try.func29, Try.ntmps29
 repeat (first | ((with_reducible show Oper.wp _ ⟨_, Op.build 43 _, _, _, _, _⟩ _ _ _ _); refine wp_build 43 _ rfl (.agg #[.int .i64 0, .int .i64 0, .float .f64 0, .float .f64 0, .float .f64 0, .float .f64 0, .float .f64 0, .float .f64 0, .float .f64 0, .float .f64 0, .float .f64 0, .float .f64 0, .int .i64 77, .float .f64 0]) (by kernel_rfl) ?_; simp only [go_sem]) | ((with_reducible show wpList _ _ _ (⟨some 6, _, _, _, _, _⟩ :: _) _ _); at_builtin; refine wpList_runX 30 rfl (.tmp 4) (.tmp 5) rfl rfl rfl hr1 ?_) | ((with_reducible show wpList _ _ _ (⟨some 10, _, _, _, _, _⟩ :: _) _ _); at_builtin; refine wpList_runX 30 rfl (.tmp 7) (.tmp 9) rfl rfl rfl hr2 ?_) | go_values | go_skip | go_guarded | go_step | go_upon | go_back | dsimp only)
 go_ret
 refine ⟨g, cap, h1, h2, h3, rowsL_at h4, fun j v hj => ?_, rfl, hBB⟩
 have h7 := h4 (rn * 14 + j) v (by rw [List.getElem?_append_right (by rw [rowsL_len]; omega), rowsL_len, Nat.add_sub_cancel_left]; exact hj)
 rwa [Nat.zero_add] at h7
theorem run_app0m (w : World) (ty c : Nat) (a : Option Addr) : (Builtin.append_ #[61, 61] ty #[.slice none 0 0, .slice a 0 c]).run Try.prog w = .ok (.slice none 0 0) w := by
 obtain ⟨i0, hi, hz0, hz1, hz2⟩ := info_parts info_still
 cases a <;> simp [Builtin.append_, run_underlying Try.underlying61, sizeOf, typeInfo, hi, Builtin.lenOf, Builtin.firstCells, loadCells, loadCellsFrom, storeCells]
set_option maxRecDepth 100000 in
set_option maxHeartbeats 4000000 in
theorem stillsLent_w (sb so sn sc_ : Nat) (ss : Option Addr) (S : Nat → SD) (w : World) (hss : sn = 0 ∨ ss = some ⟨sb, so, none⟩) (hsc : sn ≤ sc_) (hsm : sc_ ≤ maxLen) (hs : Sts w sb so sn S) (os : ∀ i, i < sn → sok (S i)) (hby : sn * 40 ≤ 140737488351232) : Calls Try.prog 30 #[.slice ss sn sc_] w fun e w' => ∃ g cap, w.heap.size ≤ g ∧ sn + 1 ≤ cap ∧ cap ≤ maxLen ∧ Sts w' g 0 sn S ∧ w'.rangeAt g (sn * 5) [.float .f64 0, .float .f64 0, .float .f64 0, .float .f64 0, .float .f64 4635118810238550016] ∧ e = .returned (.slice (some ⟨g, 0, none⟩) sn cap) ∧ Bel w w' := by
 obtain ⟨v1, w1, hr1, hO1, hB1⟩ : ∃ v1 w1, (Builtin.append_ #[61, 61] 61 #[.slice none 0 0, .slice ss sn sc_]).run Try.prog w = .ok v1 w1 ∧ OwnR 5 w.heap.size w1 v1 sn (stL S sn) ∧ Bel w w1 := by
  rcases Nat.eq_zero_or_pos sn with hz | hp
  ·subst hz
   exact ⟨_, _, run_app0m w _ _ _, OwnR.nil _ _ _, bl_refl _⟩
  ·have e9 : ss = some ⟨sb, so, none⟩ := by rcases hss with h | h; omega; exact h
   subst e9
   obtain ⟨v', w', a1, a2, _, a4⟩ := run_appR (P := Try.prog) 61 61 45 Try.underlying61 info_still rfl sb so sn sc_ (OwnR.nil 5 w.heap.size w) (stL_len S sn) (stL_rw hs) (stL_one S sn) hp (Nat.le_refl _) (by unfold maxLen; omega) (by omega)
   simp only [Nat.zero_add, List.nil_append] at a2
   exact ⟨v', w', a1, a2, a4 w (bl_refl _) (Nat.le_refl _)⟩
 have hb : Bel w1 (w1.alloc (.cells #[.float .f64 0, .float .f64 0, .float .f64 0, .float .f64 0, .float .f64 4635118810238550016] 45)) := bl_alloc (bl_refl _) _ _
 obtain ⟨v2, w2, hr2, hO2, ⟨g, cap, rfl⟩, hB2⟩ := run_appR (P := Try.prog) 61 61 45 Try.underlying61 info_still rfl w1.heap.size 0 1 1 (hO1.bel hb) (N := [.float .f64 0, .float .f64 0, .float .f64 0, .float .f64 0, .float .f64 4635118810238550016]) rfl (rng_new w1 [.float .f64 0, .float .f64 0, .float .f64 0, .float .f64 0, .float .f64 4635118810238550016] 45) (by intro u hu; simp only [List.mem_cons, List.not_mem_nil, or_false] at hu; rcases hu with rfl | rfl | rfl | rfl | rfl <;> rfl) (by decide) (by have := (bl_trans hB1 hb).size; omega) (by unfold maxLen; omega) (by omega)
 have hBB := hB2 w (bl_trans hB1 hb) (Nat.le_refl _)
 rcases hO2.2 with ⟨h2, _⟩ | ⟨k, c, e, h1, h2, h3, h4, h5, h6⟩
 ·cases h2
 injection e with e1 e2 e3
 injection e1 with e4
 injection e4 with e5
 subst e3 e5
 have hcI : (sn : Int) ≤ (cap : Int) := by omega
 go_enter Try.func30, Try.ntmps30
 repeat (first | ((with_reducible show Oper.wp _ ⟨_, Op.build 45 _, _, _, _, _⟩ _ _ _ _); refine wp_build 45 _ rfl (.agg #[.float .f64 0, .float .f64 0, .float .f64 0, .float .f64 0, .float .f64 4635118810238550016]) (by kernel_rfl) ?_; simp only [go_sem]) | ((with_reducible show wpList _ _ _ (⟨some 6, _, _, _, _, _⟩ :: _) _ _); at_builtin; refine wpList_runX 61 rfl (.tmp 4) (.tmp 5) rfl rfl rfl hr1 ?_) | ((with_reducible show wpList _ _ _ (⟨some 10, _, _, _, _, _⟩ :: _) _ _); at_builtin; refine wpList_runX 61 rfl (.tmp 7) (.tmp 9) rfl rfl rfl hr2 ?_) | go_values | go_skip | go_guarded | go_step | go_upon | go_back | dsimp only)
 go_ret
 refine ⟨g, cap, h1, h2, h3, stL_at h4, fun j v hj => ?_, rfl, hBB⟩
 have h7 := h4 (sn * 5 + j) v (by rw [List.getElem?_append_right (by rw [stL_len]; omega), stL_len, Nat.add_sub_cancel_left]; exact hj)
 rwa [Nat.zero_add] at h7
theorem le_max9 {x : Nat} (h : leK .f64 0 x = true) : leK .f64 x 9218868437227405311 = finK .f64 x := by
 have h1 : nanK .f64 9218868437227405311 = false := by decide +kernel
 have h2 : woK .f64 9218868437227405311 = 9218868437227405311 := by decide +kernel
 have h3 : woK .f64 0 = 0 := by decide +kernel
 have hn := (le_nums h).2
 unfold leK at h ⊢
 unfold finK
 rw [h1, h2, hn, woK_eq, inf64, Bool.eq_iff_iff]
 rw [h3, woK_eq] at h
 cases hg : ngK .f64 x <;> rw [hg] at h <;> simp at h ⊢ <;> omega
set_option maxRecDepth 100000 in
set_option maxHeartbeats 4000000 in
theorem rstill21 (s : SD) (w : World) : Calls Try.prog 121 #[.agg #[.float .f64 s.sm, .float .f64 s.si, .float .f64 s.sx, .float .f64 s.sy, .float .f64 s.ss]] w fun e w' => e = .returned (.bool (stB s)) ∧ Bel w w' := by
 have c1 := cmp_ge .f64
 have c2 := cmp_le .f64
 have hA : (w.alloc (.cells #[.float .f64 s.sm, .float .f64 s.si, .float .f64 s.sx, .float .f64 s.sy, .float .f64 s.ss] 45)).rangeAt w.heap.size 0 [.float .f64 s.sm, .float .f64 s.si, .float .f64 s.sx, .float .f64 s.sy, .float .f64 s.ss] := rng_new w [.float .f64 s.sm, .float .f64 s.si, .float .f64 s.sx, .float .f64 s.sy, .float .f64 s.ss] 45
 have k0 : (w.alloc (.cells #[.float .f64 s.sm, .float .f64 s.si, .float .f64 s.sx, .float .f64 s.sy, .float .f64 s.ss] 45)).cell? ⟨w.heap.size, 0, none⟩ = some (.float .f64 s.sm) := hA 0 _ rfl
 have k1 : (w.alloc (.cells #[.float .f64 s.sm, .float .f64 s.si, .float .f64 s.sx, .float .f64 s.sy, .float .f64 s.ss] 45)).cell? ⟨w.heap.size, 1, none⟩ = some (.float .f64 s.si) := hA 1 _ rfl
 have B0 : Bel w (w.alloc (.cells #[.float .f64 s.sm, .float .f64 s.si, .float .f64 s.sx, .float .f64 s.sy, .float .f64 s.ss] 45)) := bl_alloc (bl_refl w) _ _
 unfold stB weB
 cases h0 : leK .f64 0 s.sm
 ·go_enter Try.func121, Try.ntmps121
  repeat (first | go_values | go_skip | go_guarded | go_step | go_upon | go_back | dsimp only)
  go_ret
  exact ⟨rfl, B0⟩
 have m0 := le_max9 h0
 cases h1 : finK .f64 s.sm
 ·rw [h1] at m0
  go_enter Try.func121, Try.ntmps121
  repeat (first | go_values | go_skip | go_guarded | go_step | go_upon | go_back | dsimp only)
  go_ret
  exact ⟨rfl, B0⟩
 rw [h1] at m0
 cases h2 : leK .f64 0 s.si
 ·go_enter Try.func121, Try.ntmps121
  repeat (first | go_values | go_skip | go_guarded | go_step | go_upon | go_back | dsimp only)
  go_ret
  exact ⟨rfl, B0⟩
 have m1 := le_max9 h2
 cases h3 : finK .f64 s.si
 all_goals
  rw [h3] at m1
  go_enter Try.func121, Try.ntmps121
  repeat (first | go_values | go_skip | go_guarded | go_step | go_upon | go_back | dsimp only)
  go_ret
  exact ⟨rfl, B0⟩
theorem asE_many {Q : Nat → RD} {n : Nat} {S : Nat → SD} {m : Nat} (h : 1048576 < n ∨ 1024 < m) : asE Q n S m = 4 := by unfold asE; rw [if_pos h]
theorem asE_row {Q : Nat → RD} {n : Nat} {S : Nat → SD} {m k : Nat} (h1 : n ≤ 1048576) (h2 : m ≤ 1024) (hk : k < n) (h : chB (Q k) n m = false) : asE Q n S m = 200 := by unfold asE; rw [if_neg (by omega), crB_no h hk]; rfl
theorem asE_st {Q : Nat → RD} {n : Nat} {S : Nat → SD} {m k : Nat} (h1 : n ≤ 1048576) (h2 : m ≤ 1024) (hk : k < m) (h : stB (S k) = false) : asE Q n S m = 200 := by
 unfold asE
 rw [if_neg (by omega), anyN_at (p := fun i => !stB (S i)) (k := k) (by simp [h]) hk]
 simp
set_option maxRecDepth 100000 in
set_option maxHeartbeats 4000000 in
theorem asked21 (rb ro rn rc_ : Nat) (rs : Option Addr) (Q : Nat → RD) (sb so sn sc_ : Nat) (ss : Option Addr) (S : Nat → SD) (w : World) (hrs : rn = 0 ∨ rs = some ⟨rb, ro, none⟩) (hrc : rn ≤ rc_) (hrm : rc_ ≤ maxLen) (hr : Rws w rb ro rn Q) (or_ : ∀ i, i < rn → rok (Q i)) (hss : sn = 0 ∨ ss = some ⟨sb, so, none⟩) (hsc : sn ≤ sc_) (hsm : sc_ ≤ maxLen) (hs : Sts w sb so sn S) (os : ∀ i, i < sn → sok (S i)) : Calls Try.prog 75 #[.slice rs rn rc_, .slice ss sn sc_] w fun e w' => e = .returned (.int .i64 (asE Q rn S sn)) ∧ Bel w w' := by
 by_cases h1 : 1048576 < rn
 ·have h1I : (1048576 : Int) < (rn : Int) := by omega
  rw [asE_many (.inl h1)]
  go_enter Try.func75, Try.ntmps75
  repeat (first | go_values | go_skip | go_guarded | go_step | go_upon | go_back | dsimp only)
  go_ret
  exact ⟨rfl, bl_refl _⟩
 by_cases h2 : 1024 < sn
 ·have h1I : ¬ (1048576 : Int) < (rn : Int) := by omega
  have h2I : (1024 : Int) < (sn : Int) := by omega
  rw [asE_many (.inr h2)]
  go_enter Try.func75, Try.ntmps75
  repeat (first | go_values | go_skip | go_guarded | go_step | go_upon | go_back | dsimp only)
  go_ret
  exact ⟨rfl, bl_refl _⟩
 have h1I : ¬ (1048576 : Int) < (rn : Int) := by omega
 have h2I : ¬ (1024 : Int) < (sn : Int) := by omega
 go_enter Try.func75, Try.ntmps75
 repeat (first | go_values | go_skip | go_guarded | go_step | go_upon | go_back | dsimp only)
 go_loopw [5] (fun i wr => ∃ k : Nat, k ≤ rn ∧ i = .int .i64 k ∧ Bel w wr ∧ ∀ j, j < k → chB (Q j) rn sn = true) (fun i _ => rn - (intOf i).toNat)
 case atStart => exact ⟨0, by omega, rfl, bl_refl _, fun j hj => by omega⟩
 case round =>
  obtain ⟨k, hk, rfl, hB, hq⟩ := hrel
  by_cases hlt : k < rn
  ·have e9 : rs = some ⟨rb, ro, none⟩ := by rcases hrs with h | h; omega; exact h
   subst e9
   have hkI : (k : Int) < (rn : Int) := by omega
   have hld : wr.rangeAt rb (ro + k * 14) [.int .i64 (Q k).ra, .int .i64 (Q k).rb, .float .f64 (Q k).r2, .float .f64 (Q k).r3, .float .f64 (Q k).r4, .float .f64 (Q k).r5, .float .f64 (Q k).r6, .float .f64 (Q k).r7, .float .f64 (Q k).r8, .float .f64 (Q k).r9, .float .f64 (Q k).r10, .float .f64 (Q k).r11, .int .i64 (Q k).ro, .float .f64 (Q k).r13] := (hr.bel hB) k hlt
   cases hc : chB (Q k) rn sn
   ·repeat (first | ((with_reducible show Oper.wp _ ⟨_, Op.load 43 _, _, _, _, _⟩ _ _ _ _); refine wp_load_mid (P := Try.prog) 43 _ rfl _ _ rfl [.int .i64 (Q k).ra, .int .i64 (Q k).rb, .float .f64 (Q k).r2, .float .f64 (Q k).r3, .float .f64 (Q k).r4, .float .f64 (Q k).r5, .float .f64 (Q k).r6, .float .f64 (Q k).r7, .float .f64 (Q k).r8, .float .f64 (Q k).r9, .float .f64 (Q k).r10, .float .f64 (Q k).r11, .int .i64 (Q k).ro, .float .f64 (Q k).r13] _ hld Try.underlying43 rfl (by kernel_rfl) ?_; simp only [go_sem]) | (go_at_call 120; (with_reducible refine (rcheck_w (Q k) rn sn _).mono ?_); rintro e w' ⟨rfl, hb⟩; rw [hc]) | go_values | go_skip | go_guarded | go_step | go_upon | go_back | dsimp only)
    go_ret
    exact ⟨by rw [asE_row (by omega) (by omega) hlt hc]; rfl, bl_trans hB hb⟩
   ·repeat (first | ((with_reducible show Oper.wp _ ⟨_, Op.load 43 _, _, _, _, _⟩ _ _ _ _); refine wp_load_mid (P := Try.prog) 43 _ rfl _ _ rfl [.int .i64 (Q k).ra, .int .i64 (Q k).rb, .float .f64 (Q k).r2, .float .f64 (Q k).r3, .float .f64 (Q k).r4, .float .f64 (Q k).r5, .float .f64 (Q k).r6, .float .f64 (Q k).r7, .float .f64 (Q k).r8, .float .f64 (Q k).r9, .float .f64 (Q k).r10, .float .f64 (Q k).r11, .int .i64 (Q k).ro, .float .f64 (Q k).r13] _ hld Try.underlying43 rfl (by kernel_rfl) ?_; simp only [go_sem]) | (go_at_call 120; (with_reducible refine (rcheck_w (Q k) rn sn _).mono ?_); rintro e w' ⟨rfl, hb⟩; rw [hc]) | go_values | go_skip | go_guarded | go_step | go_upon | go_back | dsimp only)
    refine ⟨⟨k + 1, by omega, by go_num, bl_trans hB hb, fun j hj => ?_⟩, by simp [intOf]; omega⟩
    rcases Nat.lt_or_ge j k with h | h
    ·exact hq j h
    ·have e : j = k := by omega
     subst e; exact hc
  ·have hkn : rn = k := by omega
   subst hkn
   obtain ⟨w1, rfl⟩ : ∃ w1, w1 = wr := ⟨_, rfl⟩
   repeat (first | go_values | go_skip | go_guarded | go_step | go_upon | go_back | dsimp only)
   go_loopw [6] (fun i wr => ∃ k : Nat, k ≤ sn ∧ i = .int .i64 k ∧ Bel w wr ∧ ∀ j, j < k → stB (S j) = true) (fun i _ => sn - (intOf i).toNat)
   case atStart => exact ⟨0, by omega, rfl, hB, fun j hj => by omega⟩
   case round =>
    obtain ⟨k, hk2, rfl, hB2, hq2⟩ := hrel
    by_cases hlt2 : k < sn
    ·have e9 : ss = some ⟨sb, so, none⟩ := by rcases hss with h | h; omega; exact h
     subst e9
     have hkI : (k : Int) < (sn : Int) := by omega
     have hld : wr.rangeAt sb (so + k * 5) [.float .f64 (S k).sm, .float .f64 (S k).si, .float .f64 (S k).sx, .float .f64 (S k).sy, .float .f64 (S k).ss] := (hs.bel hB2) k hlt2
     cases hc : stB (S k)
     ·repeat (first | ((with_reducible show Oper.wp _ ⟨_, Op.load 45 _, _, _, _, _⟩ _ _ _ _); refine wp_load_mid (P := Try.prog) 45 _ rfl _ _ rfl [.float .f64 (S k).sm, .float .f64 (S k).si, .float .f64 (S k).sx, .float .f64 (S k).sy, .float .f64 (S k).ss] _ hld Try.underlying45 rfl (by kernel_rfl) ?_; simp only [go_sem]) | (go_at_call 121; (with_reducible refine (rstill21 (S k) _).mono ?_); rintro e w' ⟨rfl, hb⟩; rw [hc]) | go_values | go_skip | go_guarded | go_step | go_upon | go_back | dsimp only)
      go_ret
      exact ⟨by rw [asE_st (by omega) (by omega) hlt2 hc]; rfl, bl_trans hB2 hb⟩
     ·repeat (first | ((with_reducible show Oper.wp _ ⟨_, Op.load 45 _, _, _, _, _⟩ _ _ _ _); refine wp_load_mid (P := Try.prog) 45 _ rfl _ _ rfl [.float .f64 (S k).sm, .float .f64 (S k).si, .float .f64 (S k).sx, .float .f64 (S k).sy, .float .f64 (S k).ss] _ hld Try.underlying45 rfl (by kernel_rfl) ?_; simp only [go_sem]) | (go_at_call 121; (with_reducible refine (rstill21 (S k) _).mono ?_); rintro e w' ⟨rfl, hb⟩; rw [hc]) | go_values | go_skip | go_guarded | go_step | go_upon | go_back | dsimp only)
      refine ⟨⟨k + 1, by omega, by go_num, bl_trans hB2 hb, fun j hj => ?_⟩, by simp [intOf]; omega⟩
      rcases Nat.lt_or_ge j k with h | h
      ·exact hq2 j h
      ·have e : j = k := by omega
       subst e; exact hc
    ·have hkn : sn = k := by omega
     subst hkn
     repeat (first | go_values | go_skip | go_guarded | go_step | go_upon | go_back | dsimp only)
     go_ret
     exact ⟨by rw [asE_of (by omega) (by omega) hq hq2]; rfl, hB2⟩
section
variable {Q : Nat → RD} {p : Nat → Bool} {rn : Nat} {M : Nat → SD}
/-- the picks' rows, Of told anew -/
abbrev QO (Q : Nat → RD) (p : Nat → Bool) (rn : Nat) : Nat → RD := onlyR Q (pickN p rn)
end
/-- a list of rows and one of numbers that grow together -/
structure TwoO (B : Nat) (w : World) (vo vn : Value) (c : Nat) (Ro Rn : List Value) : Prop where
 o : OwnR 14 B w vo c Ro
 n : OwnR 1 B w vn c Rn
 z : c = 0 → vo = .slice none 0 0 ∧ vn = .slice none 0 0
 d : ∀ go co gn cn, vo = .slice (some ⟨go, 0, none⟩) c co → vn = .slice (some ⟨gn, 0, none⟩) c cn → go ≠ gn
theorem TwoO.bel {B : Nat} {w w' : World} {vo vn : Value} {c : Nat} {Ro Rn : List Value} (h : TwoO B w vo vn c Ro Rn) (g : Bel w w') : TwoO B w' vo vn c Ro Rn := ⟨h.o.bel g, h.n.bel g, h.z, h.d⟩
set_option maxRecDepth 100000 in
set_option maxHeartbeats 4000000 in
theorem sameRows9 (ab ao ac bb bo bc n : Nat) (as_ bs_ : Option Addr) (Q : Nat → RD) (w : World) (ha : n = 0 ∨ as_ = some ⟨ab, ao, none⟩) (hb_ : n = 0 ∨ bs_ = some ⟨bb, bo, none⟩) (h1 : n ≤ ac) (h2 : n ≤ bc) (hn : n ≤ 9223372036854775807) (hS : Rws w ab ao n Q) (hT : Rws w bb bo n Q) (ok : ∀ i, i < n → rok (Q i)) : Calls Try.prog 35 #[.slice as_ n ac, .slice bs_ n bc] w fun e w' => e = .returned (.bool true) ∧ Bel w w' := by
 go_enter Try.func35, Try.ntmps35
 repeat (first | go_values | go_skip | go_guarded | go_step | go_upon | go_back | dsimp only)
 go_loopw [5] (fun i wr => ∃ k : Nat, k ≤ n ∧ i = .int .i64 k ∧ Bel w wr) (fun i _ => n - (intOf i).toNat)
 case atStart => exact ⟨0, by omega, rfl, bl_refl _⟩
 case round =>
  obtain ⟨k, hk, rfl, hB⟩ := hrel
  by_cases hlt : k < n
  ·have e1 : as_ = some ⟨ab, ao, none⟩ := by rcases ha with h | h; omega; exact h
   have e2 : bs_ = some ⟨bb, bo, none⟩ := by rcases hb_ with h | h; omega; exact h
   subst e1 e2
   have hkI : (k : Int) < (n : Int) := by omega
   have hx0 : wr.rangeAt ab (ao + k * 14) [.int .i64 (Q k).ra, .int .i64 (Q k).rb, .float .f64 (Q k).r2, .float .f64 (Q k).r3, .float .f64 (Q k).r4, .float .f64 (Q k).r5, .float .f64 (Q k).r6, .float .f64 (Q k).r7, .float .f64 (Q k).r8, .float .f64 (Q k).r9, .float .f64 (Q k).r10, .float .f64 (Q k).r11, .int .i64 (Q k).ro, .float .f64 (Q k).r13] := (hS.bel hB) k hlt
   have hy0 : wr.rangeAt bb (bo + k * 14) [.int .i64 (Q k).ra, .int .i64 (Q k).rb, .float .f64 (Q k).r2, .float .f64 (Q k).r3, .float .f64 (Q k).r4, .float .f64 (Q k).r5, .float .f64 (Q k).r6, .float .f64 (Q k).r7, .float .f64 (Q k).r8, .float .f64 (Q k).r9, .float .f64 (Q k).r10, .float .f64 (Q k).r11, .int .i64 (Q k).ro, .float .f64 (Q k).r13] := (hT.bel hB) k hlt
   replace ok := ok k hlt
   clear hS hT
   repeat (first | go_values | go_skip | go_guarded | go_step | go_upon | go_back | dsimp only)
   refine wp_region_mono 10 rfl (fun i W v => match i with | 0 => v = .slice (some ⟨ab, ao, none⟩) n ac | 1 => v = .int .i64 (k : Int) | 2 => v = .pointer (some ⟨ab, ao + k * 14, none⟩) | 3 => v = .agg #[.int .i64 (Q k).ra, .int .i64 (Q k).rb, .float .f64 (Q k).r2, .float .f64 (Q k).r3, .float .f64 (Q k).r4, .float .f64 (Q k).r5, .float .f64 (Q k).r6, .float .f64 (Q k).r7, .float .f64 (Q k).r8, .float .f64 (Q k).r9, .float .f64 (Q k).r10, .float .f64 (Q k).r11, .int .i64 (Q k).ro, .float .f64 (Q k).r13] | 4 => v = .slice (some ⟨bb, bo, none⟩) n bc | 5 => v = .int .i64 (k : Int) | 6 => v = .pointer (some ⟨bb, bo + k * 14, none⟩) | 7 => v = .agg #[.int .i64 (Q k).ra, .int .i64 (Q k).rb, .float .f64 (Q k).r2, .float .f64 (Q k).r3, .float .f64 (Q k).r4, .float .f64 (Q k).r5, .float .f64 (Q k).r6, .float .f64 (Q k).r7, .float .f64 (Q k).r8, .float .f64 (Q k).r9, .float .f64 (Q k).r10, .float .f64 (Q k).r11, .int .i64 (Q k).ro, .float .f64 (Q k).r13] | 8 => v = .bool true | 9 => v = .bool false | _ => False) ?A_wu (by kernel_rfl) (by kernel_rfl) ?hA_wu ?hmo_wu ?hq_wu ?ht_wu
   case hA_wu =>
    intro s
    simp only [putL, dstO, Act.put, List.getElem?_toArray, List.getElem?_cons_zero, List.getElem?_cons_succ, Option.bind_some, List.setIfInBounds_toArray, List.set_cons_zero, List.set_cons_succ, if_true]
    all_goals exact rfl
   case hmo_wu =>
    intro i W W' v hi hb h
    rcases (show i = 0 ∨ i = 1 ∨ i = 2 ∨ i = 3 ∨ i = 4 ∨ i = 5 ∨ i = 6 ∨ i = 7 ∨ i = 8 ∨ i = 9 by omega) with rfl | rfl | rfl | rfl | rfl | rfl | rfl | rfl | rfl | rfl
    all_goals exact h
   case hq_wu =>
    intro i o hi ho s W hs hb K hK
    rcases (show i = 0 ∨ i = 1 ∨ i = 2 ∨ i = 3 ∨ i = 4 ∨ i = 5 ∨ i = 6 ∨ i = 7 ∨ i = 8 ∨ i = 9 by omega) with rfl | rfl | rfl | rfl | rfl | rfl | rfl | rfl | rfl | rfl
    rotate_left 2
    cases ho
    have e0 : s 0 = _ := hs 0 (by decide) (by kernel_rfl)
    have e1 : s 1 = _ := hs 1 (by decide) (by kernel_rfl)
    simp only [e0, e1] at hK ⊢
    rotate_left 1
    ·cases ho
     have e2 : s 2 = _ := hs 2 (by decide) (by kernel_rfl)
     simp only [e2] at hK ⊢
     simp only [Act.put, List.setIfInBounds_toArray, List.set_cons_zero, List.set_cons_succ] at hK
     clear hs
     refine wp_load_mid (P := Try.prog) 43 _ rfl _ _ rfl [.int .i64 (Q k).ra, .int .i64 (Q k).rb, .float .f64 (Q k).r2, .float .f64 (Q k).r3, .float .f64 (Q k).r4, .float .f64 (Q k).r5, .float .f64 (Q k).r6, .float .f64 (Q k).r7, .float .f64 (Q k).r8, .float .f64 (Q k).r9, .float .f64 (Q k).r10, .float .f64 (Q k).r11, .int .i64 (Q k).ro, .float .f64 (Q k).r13] _ (rng_bel hx0 hb) Try.underlying43 rfl (by kernel_rfl) ?_; exact hK.out _ _ rfl (bl_refl _)
    rotate_left 2
    cases ho
    have e4 : s 4 = _ := hs 4 (by decide) (by kernel_rfl)
    have e5 : s 5 = _ := hs 5 (by decide) (by kernel_rfl)
    simp only [e4, e5] at hK ⊢
    rotate_left 1
    ·cases ho
     have e6 : s 6 = _ := hs 6 (by decide) (by kernel_rfl)
     simp only [e6] at hK ⊢
     simp only [Act.put, List.setIfInBounds_toArray, List.set_cons_zero, List.set_cons_succ] at hK
     clear hs
     refine wp_load_mid (P := Try.prog) 43 _ rfl _ _ rfl [.int .i64 (Q k).ra, .int .i64 (Q k).rb, .float .f64 (Q k).r2, .float .f64 (Q k).r3, .float .f64 (Q k).r4, .float .f64 (Q k).r5, .float .f64 (Q k).r6, .float .f64 (Q k).r7, .float .f64 (Q k).r8, .float .f64 (Q k).r9, .float .f64 (Q k).r10, .float .f64 (Q k).r11, .int .i64 (Q k).ro, .float .f64 (Q k).r13] _ (rng_bel hy0 hb) Try.underlying43 rfl (by kernel_rfl) ?_; exact hK.out _ _ rfl (bl_refl _)
    ·cases ho
     have e3 : s 3 = _ := hs 3 (by decide) (by kernel_rfl)
     have e7 : s 7 = _ := hs 7 (by decide) (by kernel_rfl)
     simp only [e3, e7] at hK ⊢
     simp only [Act.put, List.setIfInBounds_toArray, List.set_cons_zero, List.set_cons_succ] at hK
     clear hs
     go_simp
     all_goals (try go_wp2_with (first | (go_at_call 82; (with_reducible refine (sameRow21 (Q k) _ ok).mono ?_); rintro e w' ⟨rfl, hb1⟩)))
     all_goals first | exact hK.out _ _ rfl hb1 | exact hK.out _ _ rfl hb1 | with_reducible exact hK.out _ _ rfl (bl_refl _) | exact hK.out _ _ rfl (bl_refl _)
    cases ho
    have e8 : s 8 = _ := hs 8 (by decide) (by kernel_rfl)
    simp only [e8] at hK ⊢
    rotate_left 1
    all_goals
     try cases ho
     simp only [Act.put, List.setIfInBounds_toArray, List.set_cons_zero, List.set_cons_succ] at hK
     clear hs
     go_simp
     all_goals first | with_reducible exact hK.out _ _ rfl (bl_refl _) | exact hK.out _ _ rfl (bl_refl _)
   case ht_wu =>
    intro s W hs hb
    have e0 : s 0 = _ := hs 0 (by decide)
    have e1 : s 1 = _ := hs 1 (by decide)
    have e2 : s 2 = _ := hs 2 (by decide)
    have e3 : s 3 = _ := hs 3 (by decide)
    have e4 : s 4 = _ := hs 4 (by decide)
    have e5 : s 5 = _ := hs 5 (by decide)
    have e6 : s 6 = _ := hs 6 (by decide)
    have e7 : s 7 = _ := hs 7 (by decide)
    have e8 : s 8 = _ := hs 8 (by decide)
    have e9 : s 9 = _ := hs 9 (by decide)
    simp only [e0, e1, e2, e3, e4, e5, e6, e7, e8, e9]
    clear hs e0 e1 e2 e3 e4 e5 e6 e7 e8 e9
    repeat (first | go_values | go_skip | go_guarded | go_step | go_upon | go_back | dsimp only)
    exact ⟨⟨k + 1, by omega, by go_num, bl_trans hB hb⟩, by simp [intOf]; omega⟩
  ·have hkn : k = n := by omega
   subst hkn
   repeat (first | go_values | go_skip | go_guarded | go_step | go_upon | go_back | dsimp only)
   go_ret
   exact ⟨rfl, hB⟩
set_option maxRecDepth 100000 in
set_option maxHeartbeats 4000000 in
theorem sameStills9 (ab ao ac bb bo bc n : Nat) (as_ bs_ : Option Addr) (S T M : Nat → SD) (w : World) (ha : n = 0 ∨ as_ = some ⟨ab, ao, none⟩) (hb_ : n = 0 ∨ bs_ = some ⟨bb, bo, none⟩) (h1 : n ≤ ac) (h2 : n ≤ bc) (hn : n ≤ 9223372036854775807) (hS : Sts w ab ao n S) (hT : Sts w bb bo n T) (hp : ∀ i, i < n → RelS (S i) (M i)) (hq : ∀ i, i < n → RelS (T i) (M i)) : Calls Try.prog 36 #[.slice as_ n ac, .slice bs_ n bc] w fun e w' => e = .returned (.bool true) ∧ Bel w w' := by
 go_enter Try.func36, Try.ntmps36
 repeat (first | go_values | go_skip | go_guarded | go_step | go_upon | go_back | dsimp only)
 go_loopw [5] (fun i wr => ∃ k : Nat, k ≤ n ∧ i = .int .i64 k ∧ Bel w wr) (fun i _ => n - (intOf i).toNat)
 case atStart => exact ⟨0, by omega, rfl, bl_refl _⟩
 case round =>
  obtain ⟨k, hk, rfl, hB⟩ := hrel
  by_cases hlt : k < n
  ·have e1 : as_ = some ⟨ab, ao, none⟩ := by rcases ha with h | h; omega; exact h
   have e2 : bs_ = some ⟨bb, bo, none⟩ := by rcases hb_ with h | h; omega; exact h
   subst e1 e2
   have hkI : (k : Int) < (n : Int) := by omega
   have hx0 : wr.rangeAt ab (ao + k * 5) [.float .f64 (S k).sm, .float .f64 (S k).si, .float .f64 (S k).sx, .float .f64 (S k).sy, .float .f64 (S k).ss] := (hS.bel hB) k hlt
   have hy0 : wr.rangeAt bb (bo + k * 5) [.float .f64 (T k).sm, .float .f64 (T k).si, .float .f64 (T k).sx, .float .f64 (T k).sy, .float .f64 (T k).ss] := (hT.bel hB) k hlt
   replace hp := hp k hlt
   replace hq := hq k hlt
   clear hS hT
   repeat (first | go_values | go_skip | go_guarded | go_step | go_upon | go_back | dsimp only)
   refine wp_region_mono 10 rfl (fun i W v => match i with | 0 => v = .slice (some ⟨ab, ao, none⟩) n ac | 1 => v = .int .i64 (k : Int) | 2 => v = .pointer (some ⟨ab, ao + k * 5, none⟩) | 3 => v = .agg #[.float .f64 (S k).sm, .float .f64 (S k).si, .float .f64 (S k).sx, .float .f64 (S k).sy, .float .f64 (S k).ss] | 4 => v = .slice (some ⟨bb, bo, none⟩) n bc | 5 => v = .int .i64 (k : Int) | 6 => v = .pointer (some ⟨bb, bo + k * 5, none⟩) | 7 => v = .agg #[.float .f64 (T k).sm, .float .f64 (T k).si, .float .f64 (T k).sx, .float .f64 (T k).sy, .float .f64 (T k).ss] | 8 => v = .bool true | 9 => v = .bool false | _ => False) ?A_ws (by kernel_rfl) (by kernel_rfl) ?hA_ws ?hmo_ws ?hq_ws ?ht_ws
   case hA_ws =>
    intro s
    simp only [putL, dstO, Act.put, List.getElem?_toArray, List.getElem?_cons_zero, List.getElem?_cons_succ, Option.bind_some, List.setIfInBounds_toArray, List.set_cons_zero, List.set_cons_succ, if_true]
    all_goals exact rfl
   case hmo_ws =>
    intro i W W' v hi hb h
    rcases (show i = 0 ∨ i = 1 ∨ i = 2 ∨ i = 3 ∨ i = 4 ∨ i = 5 ∨ i = 6 ∨ i = 7 ∨ i = 8 ∨ i = 9 by omega) with rfl | rfl | rfl | rfl | rfl | rfl | rfl | rfl | rfl | rfl
    all_goals exact h
   case hq_ws =>
    intro i o hi ho s W hs hb K hK
    rcases (show i = 0 ∨ i = 1 ∨ i = 2 ∨ i = 3 ∨ i = 4 ∨ i = 5 ∨ i = 6 ∨ i = 7 ∨ i = 8 ∨ i = 9 by omega) with rfl | rfl | rfl | rfl | rfl | rfl | rfl | rfl | rfl | rfl
    rotate_left 2
    cases ho
    have e0 : s 0 = _ := hs 0 (by decide) (by kernel_rfl)
    have e1 : s 1 = _ := hs 1 (by decide) (by kernel_rfl)
    simp only [e0, e1] at hK ⊢
    rotate_left 1
    ·cases ho
     have e2 : s 2 = _ := hs 2 (by decide) (by kernel_rfl)
     simp only [e2] at hK ⊢
     simp only [Act.put, List.setIfInBounds_toArray, List.set_cons_zero, List.set_cons_succ] at hK
     clear hs
     refine wp_load_mid (P := Try.prog) 45 _ rfl _ _ rfl [.float .f64 (S k).sm, .float .f64 (S k).si, .float .f64 (S k).sx, .float .f64 (S k).sy, .float .f64 (S k).ss] _ (rng_bel hx0 hb) Try.underlying45 rfl (by kernel_rfl) ?_; exact hK.out _ _ rfl (bl_refl _)
    rotate_left 2
    cases ho
    have e4 : s 4 = _ := hs 4 (by decide) (by kernel_rfl)
    have e5 : s 5 = _ := hs 5 (by decide) (by kernel_rfl)
    simp only [e4, e5] at hK ⊢
    rotate_left 1
    ·cases ho
     have e6 : s 6 = _ := hs 6 (by decide) (by kernel_rfl)
     simp only [e6] at hK ⊢
     simp only [Act.put, List.setIfInBounds_toArray, List.set_cons_zero, List.set_cons_succ] at hK
     clear hs
     refine wp_load_mid (P := Try.prog) 45 _ rfl _ _ rfl [.float .f64 (T k).sm, .float .f64 (T k).si, .float .f64 (T k).sx, .float .f64 (T k).sy, .float .f64 (T k).ss] _ (rng_bel hy0 hb) Try.underlying45 rfl (by kernel_rfl) ?_; exact hK.out _ _ rfl (bl_refl _)
    ·cases ho
     have e3 : s 3 = _ := hs 3 (by decide) (by kernel_rfl)
     have e7 : s 7 = _ := hs 7 (by decide) (by kernel_rfl)
     simp only [e3, e7] at hK ⊢
     simp only [Act.put, List.setIfInBounds_toArray, List.set_cons_zero, List.set_cons_succ] at hK
     clear hs
     go_simp
     all_goals (try go_wp2_with (first | (go_at_call 83; (with_reducible refine (same_rel (S k) (T k) (M k) _ hp hq).mono ?_); rintro e w' ⟨rfl, hb1⟩)))
     all_goals first | exact hK.out _ _ rfl hb1 | exact hK.out _ _ rfl hb1 | with_reducible exact hK.out _ _ rfl (bl_refl _) | exact hK.out _ _ rfl (bl_refl _)
    cases ho
    have e8 : s 8 = _ := hs 8 (by decide) (by kernel_rfl)
    simp only [e8] at hK ⊢
    rotate_left 1
    all_goals
     try cases ho
     simp only [Act.put, List.setIfInBounds_toArray, List.set_cons_zero, List.set_cons_succ] at hK
     clear hs
     go_simp
     all_goals first | with_reducible exact hK.out _ _ rfl (bl_refl _) | exact hK.out _ _ rfl (bl_refl _)
   case ht_ws =>
    intro s W hs hb
    have e0 : s 0 = _ := hs 0 (by decide)
    have e1 : s 1 = _ := hs 1 (by decide)
    have e2 : s 2 = _ := hs 2 (by decide)
    have e3 : s 3 = _ := hs 3 (by decide)
    have e4 : s 4 = _ := hs 4 (by decide)
    have e5 : s 5 = _ := hs 5 (by decide)
    have e6 : s 6 = _ := hs 6 (by decide)
    have e7 : s 7 = _ := hs 7 (by decide)
    have e8 : s 8 = _ := hs 8 (by decide)
    have e9 : s 9 = _ := hs 9 (by decide)
    simp only [e0, e1, e2, e3, e4, e5, e6, e7, e8, e9]
    clear hs e0 e1 e2 e3 e4 e5 e6 e7 e8 e9
    repeat (first | go_values | go_skip | go_guarded | go_step | go_upon | go_back | dsimp only)
    exact ⟨⟨k + 1, by omega, by go_num, bl_trans hB hb⟩, by simp [intOf]; omega⟩
  ·have hkn : k = n := by omega
   subst hkn
   repeat (first | go_values | go_skip | go_guarded | go_step | go_upon | go_back | dsimp only)
   go_ret
   exact ⟨rfl, hB⟩
def lgB (n m : Nat) : Bool := decide ((200 < n ∧ n ≤ 1048576) ∨ (60 < m ∧ m ≤ 1024))
set_option maxRecDepth 100000 in
set_option maxHeartbeats 4000000 in
theorem large_w (rs ss : Option Addr) (rn rc_ sn sc_ : Nat) (w : World) : Calls Try.prog 28 #[.slice rs rn rc_, .slice ss sn sc_] w fun e w' => e = .returned (.bool (lgB rn sn)) ∧ w' = w := by
 by_cases a1 : 200 < rn
 ·have b1 : (200 : Int) < (rn : Int) := by omega
  by_cases a2 : rn ≤ 1048576
  ·have b2 : (rn : Int) ≤ 1048576 := by omega
   have e : lgB rn sn = true := by unfold lgB; simp; omega
   go_enter Try.func28, Try.ntmps28
   repeat (first | go_values | go_skip | go_guarded | go_step | go_upon | go_back | dsimp only)
   go_ret
   exact ⟨by rw [e]; rfl, rfl⟩
  ·have b2 : ¬ (rn : Int) ≤ 1048576 := by omega
   by_cases a3 : 60 < sn
   ·have b3 : (60 : Int) < (sn : Int) := by omega
    by_cases a4 : sn ≤ 1024
    ·have b4 : (sn : Int) ≤ 1024 := by omega
     have e : lgB rn sn = true := by unfold lgB; simp; omega
     go_enter Try.func28, Try.ntmps28
     repeat (first | go_values | go_skip | go_guarded | go_step | go_upon | go_back | dsimp only)
     go_ret
     exact ⟨by rw [e]; rfl, rfl⟩
    ·have b4 : ¬ (sn : Int) ≤ 1024 := by omega
     have e : lgB rn sn = false := by unfold lgB; simp; omega
     go_enter Try.func28, Try.ntmps28
     repeat (first | go_values | go_skip | go_guarded | go_step | go_upon | go_back | dsimp only)
     go_ret
     exact ⟨by rw [e]; rfl, rfl⟩
   ·have b3 : ¬ (60 : Int) < (sn : Int) := by omega
    have e : lgB rn sn = false := by unfold lgB; simp; omega
    go_enter Try.func28, Try.ntmps28
    repeat (first | go_values | go_skip | go_guarded | go_step | go_upon | go_back | dsimp only)
    go_ret
    exact ⟨by rw [e]; rfl, rfl⟩
 ·have b1 : ¬ (200 : Int) < (rn : Int) := by omega
  by_cases a3 : 60 < sn
  ·have b3 : (60 : Int) < (sn : Int) := by omega
   by_cases a4 : sn ≤ 1024
   ·have b4 : (sn : Int) ≤ 1024 := by omega
    have e : lgB rn sn = true := by unfold lgB; simp; omega
    go_enter Try.func28, Try.ntmps28
    repeat (first | go_values | go_skip | go_guarded | go_step | go_upon | go_back | dsimp only)
    go_ret
    exact ⟨by rw [e]; rfl, rfl⟩
   ·have b4 : ¬ (sn : Int) ≤ 1024 := by omega
    have e : lgB rn sn = false := by unfold lgB; simp; omega
    go_enter Try.func28, Try.ntmps28
    repeat (first | go_values | go_skip | go_guarded | go_step | go_upon | go_back | dsimp only)
    go_ret
    exact ⟨by rw [e]; rfl, rfl⟩
  ·have b3 : ¬ (60 : Int) < (sn : Int) := by omega
   have e : lgB rn sn = false := by unfold lgB; simp; omega
   go_enter Try.func28, Try.ntmps28
   repeat (first | go_values | go_skip | go_guarded | go_step | go_upon | go_back | dsimp only)
   go_ret
   exact ⟨by rw [e]; rfl, rfl⟩
set_option maxRecDepth 100000 in
set_option maxHeartbeats 4000000 in
theorem kept_w (rb ro rn rc_ : Nat) (rs : Option Addr) (Q : Nat → RD) (sb so sn sc_ : Nat) (ss : Option Addr) (S : Nat → SD) (g1 c1 g2 c2 : Nat) (w : World) (hrs : rn = 0 ∨ rs = some ⟨rb, ro, none⟩) (hrc : rn ≤ rc_) (hrm : rc_ ≤ maxLen) (hr : Rws w rb ro rn Q) (or_ : ∀ i, i < rn → rok (Q i)) (hss : sn = 0 ∨ ss = some ⟨sb, so, none⟩) (hsc : sn ≤ sc_) (hsm : sc_ ≤ maxLen) (hs : Sts w sb so sn S) (os : ∀ i, i < sn → sok (S i)) (hR : Rws w g1 0 rn Q) (hR1 : w.rangeAt g1 (rn * 14) [.int .i64 0, .int .i64 0, .float .f64 0, .float .f64 0, .float .f64 0, .float .f64 0, .float .f64 0, .float .f64 0, .float .f64 0, .float .f64 0, .float .f64 0, .float .f64 0, .int .i64 77, .float .f64 0]) (hc1 : rn + 1 ≤ c1) (hm1 : c1 ≤ maxLen) (hS : Sts w g2 0 sn S) (hS1 : w.rangeAt g2 (sn * 5) [.float .f64 0, .float .f64 0, .float .f64 0, .float .f64 0, .float .f64 4635118810238550016]) (hc2 : sn + 1 ≤ c2) (hm2 : c2 ≤ maxLen) : Calls Try.prog 39 #[.slice (some ⟨g1, 0, none⟩) rn c1, .slice rs rn rc_, .slice (some ⟨g2, 0, none⟩) sn c2, .slice ss sn sc_] w fun e w' => e = .returned (.bool true) ∧ Bel w w' := by
 unfold maxLen at hm1 hm2 hrm hsm
 have q0 := cmp_eq .f64
 have e77 : eqK .f64 4635118810238550016 4635118810238550016 = true := by decide +kernel
 have i1 : ((rn : Int) + 1) ≤ (c1 : Int) := by omega
 have i2 : ((sn : Int) + 1) ≤ (c2 : Int) := by omega
 have i3 : (rn : Int) < (rn : Int) + 1 := by omega
 have i4 : (sn : Int) < (sn : Int) + 1 := by omega
 have pS : ∀ i, i < sn → RelS (S i) (tlS (S i)) := fun i hi => RelS.of (os i hi)
 go_enter Try.func39, Try.ntmps39
 repeat (first | (go_at_call 35; (with_reducible refine (sameRows9 g1 0 c1 rb ro rc_ rn (some ⟨g1, 0, none⟩) rs Q _ (.inr rfl) hrs (by omega) hrc (by omega) hR hr or_).mono ?_); rintro e w1 ⟨rfl, hb1⟩) | (go_at_call 36; (with_reducible refine (sameStills9 g2 0 c2 sb so sc_ sn (some ⟨g2, 0, none⟩) ss S S (fun i => tlS (S i)) _ (.inr rfl) hss (by omega) hsc (by omega) (hS.bel hb1) (hs.bel hb1) pS pS).mono ?_); rintro e w2 ⟨rfl, hb2⟩; (have z1 : w2.cell? ⟨g1, rn * 14 + 12, none⟩ = some (.int .i64 77) := keep (bl_trans hb1 hb2) (hR1 12 _ rfl)); (have z2 : w2.cell? ⟨g2, sn * 5 + 4, none⟩ = some (.float .f64 4635118810238550016) := keep (bl_trans hb1 hb2) (hS1 4 _ rfl))) | go_values | go_skip | go_guarded | go_step | go_upon | go_back | dsimp only)
 go_ret
 exact ⟨rfl, bl_trans hb1 hb2⟩
theorem there_cells {w : World} {g n : Nat} (h : w.there g 0 n) : ∃ R : List Value, R.length = n ∧ Rw w g 0 R := by
 refine ⟨(List.range n).map (fun j => (w.cell? ⟨g, j, none⟩).getD undef), by simp, fun j u hj => ?_⟩
 have hl : j < n := by have := (List.getElem?_eq_some_iff.1 hj).1; simpa using this
 have h1 := (h j hl).1
 rw [Nat.zero_add] at h1
 obtain ⟨x, hx⟩ := Option.isSome_iff_exists.1 h1
 rw [Nat.zero_add, hx]
 simp [hl, hx] at hj
 rw [hj]
end Go.Proofs.Ytfohggiehbplkaa
