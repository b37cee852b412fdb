/-
  Plain facts that go together.
-/
import Derived.Test.YtchfgaooogfkdaaVec
import Derived.Test.YtchfgaooogfkdaaXz
import Derived.Below
import Derived.OwnWalk
import Derived.Laws.AppendOwn
import Derived.Lib.SliceRun
import Derived.Laws.MakeOwn
import Derived.WalkKit
import Derived.WalkLawsBesides
import Derived.WalkSpells
import Derived.ProofKit
import Derived.OpenShut
import Derived.Deep.RegionHeld3
namespace Go.Proofs.Ytchfgaooogfkdaa
open Go.ChangeShapes Go.WideShapes Go.ChangeAt Go.RowKit
set_option linter.unusedVariables false
set_option linter.unusedSimpArgs false


set_option maxRecDepth 100000 in
set_option maxHeartbeats 4000000 in
theorem rowsLent_w (rb ro rn rc_ : Nat) (rs : Option Addr) (Q : Nat → RD) (w : World) (hrs : rn = 0 ∨ rs = some ⟨rb, ro, none⟩) (hrc : rn ≤ rc_) (hrm : rc_ ≤ maxLen) (hr : Rws w rb ro rn Q) (or_ : ∀ i, i < rn → rok (Q i)) (hby : rn * 112 ≤ 140737488351232) : Calls Try.prog 18 #[.slice rs rn rc_] w fun e w' => ∃ g cap, w.heap.size ≤ g ∧ rn + 1 ≤ cap ∧ cap ≤ maxLen ∧ Rws w' g 0 rn Q ∧ w'.rangeAt g (rn * 14) [.int .i64 0, .int .i64 0, .float .f64 0, .float .f64 0, .float .f64 0, .float .f64 0, .float .f64 0, .float .f64 0, .float .f64 0, .float .f64 0, .float .f64 0, .float .f64 0, .int .i64 77, .float .f64 0] ∧ e = .returned (.slice (some ⟨g, 0, none⟩) rn cap) ∧ Bel w w' := by
  obtain ⟨v1, w1, hr1, hO1, hB1⟩ : ∃ v1 w1, (Builtin.append_ #[22, 22] 22 #[.slice none 0 0, .slice rs rn rc_]).run Try.prog w = .ok v1 w1 ∧ OwnR 14 w.heap.size w1 v1 rn (rowsL Q rn) ∧ Bel w w1 := by
    rcases Nat.eq_zero_or_pos rn with hz | hp
    · subst hz
      exact ⟨_, _, run_app0n w _ _ _, OwnR.nil _ _ _, bl_refl _⟩
    · have e9 : rs = some ⟨rb, ro, none⟩ := by rcases hrs with h | h; omega; exact h
      subst e9
      obtain ⟨v', w', a1, a2, _, a4⟩ := run_appR (P := Try.prog) 22 22 56 Try.underlying22 info_row rfl rb ro rn rc_ (OwnR.nil 14 w.heap.size w) (rowsL_len Q rn) (rowsL_rw hr) (rowsL_one Q rn) hp (Nat.le_refl _) (by unfold maxLen; omega) (by omega)
      simp only [Nat.zero_add, List.nil_append] at a2
      exact ⟨v', w', a1, a2, a4 w (bl_refl _) (Nat.le_refl _)⟩
  have hb : Bel w1 (w1.alloc (.cells #[.int .i64 0, .int .i64 0, .float .f64 0, .float .f64 0, .float .f64 0, .float .f64 0, .float .f64 0, .float .f64 0, .float .f64 0, .float .f64 0, .float .f64 0, .float .f64 0, .int .i64 77, .float .f64 0] 56)) := bl_alloc (bl_refl _) _ _
  obtain ⟨v2, w2, hr2, hO2, ⟨g, cap, rfl⟩, hB2⟩ := run_appR (P := Try.prog) 22 22 56 Try.underlying22 info_row rfl w1.heap.size 0 1 1 (hO1.bel hb) (N := [.int .i64 0, .int .i64 0, .float .f64 0, .float .f64 0, .float .f64 0, .float .f64 0, .float .f64 0, .float .f64 0, .float .f64 0, .float .f64 0, .float .f64 0, .float .f64 0, .int .i64 77, .float .f64 0]) rfl (rng_new w1 [.int .i64 0, .int .i64 0, .float .f64 0, .float .f64 0, .float .f64 0, .float .f64 0, .float .f64 0, .float .f64 0, .float .f64 0, .float .f64 0, .float .f64 0, .float .f64 0, .int .i64 77, .float .f64 0] 56) (by intro u hu; simp only [List.mem_cons, List.not_mem_nil, or_false] at hu; rcases hu with rfl | rfl | rfl | rfl | rfl | rfl | rfl | rfl | rfl | rfl | rfl | rfl | rfl | rfl <;> rfl) (by decide) (by have := (bl_trans hB1 hb).size; omega) (by unfold maxLen; omega) (by omega)
  have hBB := hB2 w (bl_trans hB1 hb) (Nat.le_refl _)
  rcases hO2.2 with ⟨h2, _⟩ | ⟨k, c, e, h1, h2, h3, h4, h5, h6⟩
  · cases h2
  injection e with e1 e2 e3
  injection e1 with e4
  injection e4 with e5
  subst e3 e5
  have hcI : (rn : Int) ≤ (cap : Int) := by omega
  go_enter Try.func18, Try.ntmps18
  repeat (first | ((with_reducible show Oper.wp _ { dst := _, op := Op.build 56 _, type := _, pos := _, after := _, guard := _ } _ _ _ _); refine wp_build 56 _ rfl (.agg #[.int .i64 0, .int .i64 0, .float .f64 0, .float .f64 0, .float .f64 0, .float .f64 0, .float .f64 0, .float .f64 0, .float .f64 0, .float .f64 0, .float .f64 0, .float .f64 0, .int .i64 77, .float .f64 0]) (by kernel_rfl) ?_; simp only [go_sem]) | ((with_reducible show wpList _ _ _ ({ dst := some 6, op := _, type := _, pos := _, after := _, guard := _ } :: _) _ _); at_builtin; refine wpList_runX 22 rfl (.tmp 4) (.tmp 5) rfl rfl rfl hr1 ?_) | ((with_reducible show wpList _ _ _ ({ dst := some 10, op := _, type := _, pos := _, after := _, guard := _ } :: _) _ _); at_builtin; refine wpList_runX 22 rfl (.tmp 7) (.tmp 9) rfl rfl rfl hr2 ?_) | go_values | go_skip | go_guarded | go_step | go_upon | go_back | dsimp only)
  go_ret
  refine ⟨g, cap, h1, h2, h3, rowsL_at h4, fun j v hj => ?_, rfl, hBB⟩
  have h7 := h4 (rn * 14 + j) v (by rw [List.getElem?_append_right (by rw [rowsL_len]; omega), rowsL_len, Nat.add_sub_cancel_left]; exact hj)
  rwa [Nat.zero_add] at h7

theorem run_app0m (w : World) (ty c : Nat) (a : Option Addr) : (Builtin.append_ #[23, 23] ty #[.slice none 0 0, .slice a 0 c]).run Try.prog w = .ok (.slice none 0 0) w := by
  obtain ⟨i0, hi, hz0, hz1, hz2⟩ := info_parts info_still
  cases a <;> simp [Builtin.append_, run_underlying Try.underlying23, sizeOf, typeInfo, hi, Builtin.lenOf, Builtin.firstCells, loadCells, loadCellsFrom, storeCells]

set_option maxRecDepth 100000 in
set_option maxHeartbeats 4000000 in
theorem stillsLent_w (sb so sn sc_ : Nat) (ss : Option Addr) (S : Nat → SD) (w : World) (hss : sn = 0 ∨ ss = some ⟨sb, so, none⟩) (hsc : sn ≤ sc_) (hsm : sc_ ≤ maxLen) (hs : Sts w sb so sn S) (os : ∀ i, i < sn → sok (S i)) (hby : sn * 40 ≤ 140737488351232) : Calls Try.prog 19 #[.slice ss sn sc_] w fun e w' => ∃ g cap, w.heap.size ≤ g ∧ sn + 1 ≤ cap ∧ cap ≤ maxLen ∧ Sts w' g 0 sn S ∧ w'.rangeAt g (sn * 5) [.float .f64 0, .float .f64 0, .float .f64 0, .float .f64 0, .float .f64 4635118810238550016] ∧ e = .returned (.slice (some ⟨g, 0, none⟩) sn cap) ∧ Bel w w' := by
  obtain ⟨v1, w1, hr1, hO1, hB1⟩ : ∃ v1 w1, (Builtin.append_ #[23, 23] 23 #[.slice none 0 0, .slice ss sn sc_]).run Try.prog w = .ok v1 w1 ∧ OwnR 5 w.heap.size w1 v1 sn (stL S sn) ∧ Bel w w1 := by
    rcases Nat.eq_zero_or_pos sn with hz | hp
    · subst hz
      exact ⟨_, _, run_app0m w _ _ _, OwnR.nil _ _ _, bl_refl _⟩
    · have e9 : ss = some ⟨sb, so, none⟩ := by rcases hss with h | h; omega; exact h
      subst e9
      obtain ⟨v', w', a1, a2, _, a4⟩ := run_appR (P := Try.prog) 23 23 35 Try.underlying23 info_still rfl sb so sn sc_ (OwnR.nil 5 w.heap.size w) (stL_len S sn) (stL_rw hs) (stL_one S sn) hp (Nat.le_refl _) (by unfold maxLen; omega) (by omega)
      simp only [Nat.zero_add, List.nil_append] at a2
      exact ⟨v', w', a1, a2, a4 w (bl_refl _) (Nat.le_refl _)⟩
  have hb : Bel w1 (w1.alloc (.cells #[.float .f64 0, .float .f64 0, .float .f64 0, .float .f64 0, .float .f64 4635118810238550016] 35)) := bl_alloc (bl_refl _) _ _
  obtain ⟨v2, w2, hr2, hO2, ⟨g, cap, rfl⟩, hB2⟩ := run_appR (P := Try.prog) 23 23 35 Try.underlying23 info_still rfl w1.heap.size 0 1 1 (hO1.bel hb) (N := [.float .f64 0, .float .f64 0, .float .f64 0, .float .f64 0, .float .f64 4635118810238550016]) rfl (rng_new w1 [.float .f64 0, .float .f64 0, .float .f64 0, .float .f64 0, .float .f64 4635118810238550016] 35) (by intro u hu; simp only [List.mem_cons, List.not_mem_nil, or_false] at hu; rcases hu with rfl | rfl | rfl | rfl | rfl <;> rfl) (by decide) (by have := (bl_trans hB1 hb).size; omega) (by unfold maxLen; omega) (by omega)
  have hBB := hB2 w (bl_trans hB1 hb) (Nat.le_refl _)
  rcases hO2.2 with ⟨h2, _⟩ | ⟨k, c, e, h1, h2, h3, h4, h5, h6⟩
  · cases h2
  injection e with e1 e2 e3
  injection e1 with e4
  injection e4 with e5
  subst e3 e5
  have hcI : (sn : Int) ≤ (cap : Int) := by omega
  go_enter Try.func19, Try.ntmps19
  repeat (first | ((with_reducible show Oper.wp _ { dst := _, op := Op.build 35 _, type := _, pos := _, after := _, guard := _ } _ _ _ _); refine wp_build 35 _ rfl (.agg #[.float .f64 0, .float .f64 0, .float .f64 0, .float .f64 0, .float .f64 4635118810238550016]) (by kernel_rfl) ?_; simp only [go_sem]) | ((with_reducible show wpList _ _ _ ({ dst := some 6, op := _, type := _, pos := _, after := _, guard := _ } :: _) _ _); at_builtin; refine wpList_runX 23 rfl (.tmp 4) (.tmp 5) rfl rfl rfl hr1 ?_) | ((with_reducible show wpList _ _ _ ({ dst := some 10, op := _, type := _, pos := _, after := _, guard := _ } :: _) _ _); at_builtin; refine wpList_runX 23 rfl (.tmp 7) (.tmp 9) rfl rfl rfl hr2 ?_) | go_values | go_skip | go_guarded | go_step | go_upon | go_back | dsimp only)
  go_ret
  refine ⟨g, cap, h1, h2, h3, stL_at h4, fun j v hj => ?_, rfl, hBB⟩
  have h7 := h4 (sn * 5 + j) v (by rw [List.getElem?_append_right (by rw [stL_len]; omega), stL_len, Nat.add_sub_cancel_left]; exact hj)
  rwa [Nat.zero_add] at h7

end Go.Proofs.Ytchfgaooogfkdaa

namespace Go.Proofs.Ytchfgaooogfkdaa
open Go.ChangeShapes Go.WideShapes Go.ChangeAt Go.RowKit
set_option linter.unusedVariables false
set_option linter.unusedSimpArgs false


theorem le_max9 {x : Nat} (h : leK .f64 0 x = true) : leK .f64 x 9218868437227405311 = finK .f64 x := by
  have h1 : nanK .f64 9218868437227405311 = false := by decide +kernel
  have h2 : woK .f64 9218868437227405311 = 9218868437227405311 := by decide +kernel
  have h3 : woK .f64 0 = 0 := by decide +kernel
  have hn := (le_nums h).2
  unfold leK at h ⊢
  unfold finK
  rw [h1, h2, hn, woK_eq, inf64, Bool.eq_iff_iff]
  rw [h3, woK_eq] at h
  cases hg : ngK .f64 x <;> rw [hg] at h <;> simp at h ⊢ <;> omega
set_option maxRecDepth 100000 in
set_option maxHeartbeats 4000000 in
theorem rmoved21 (s : SD) (w : World) : Calls Try.prog 60 #[.agg #[.float .f64 s.sm, .float .f64 s.si, .float .f64 s.sx, .float .f64 s.sy, .float .f64 s.ss]] w fun e w' => e = .returned (.bool (mvB s)) ∧ Bel w w' := by
  have c1 := cmp_gt .f64
  have hA : (w.alloc (.cells #[.float .f64 s.sm, .float .f64 s.si, .float .f64 s.sx, .float .f64 s.sy, .float .f64 s.ss] 35)).rangeAt w.heap.size 0 [.float .f64 s.sm, .float .f64 s.si, .float .f64 s.sx, .float .f64 s.sy, .float .f64 s.ss] := rng_new w [.float .f64 s.sm, .float .f64 s.si, .float .f64 s.sx, .float .f64 s.sy, .float .f64 s.ss] 35
  have k0 : (w.alloc (.cells #[.float .f64 s.sm, .float .f64 s.si, .float .f64 s.sx, .float .f64 s.sy, .float .f64 s.ss] 35)).cell? ⟨w.heap.size, 0, none⟩ = some (.float .f64 s.sm) := hA 0 _ rfl
  have k1 : (w.alloc (.cells #[.float .f64 s.sm, .float .f64 s.si, .float .f64 s.sx, .float .f64 s.sy, .float .f64 s.ss] 35)).cell? ⟨w.heap.size, 1, none⟩ = some (.float .f64 s.si) := hA 1 _ rfl
  have B0 : Bel w (w.alloc (.cells #[.float .f64 s.sm, .float .f64 s.si, .float .f64 s.sx, .float .f64 s.sy, .float .f64 s.ss] 35)) := bl_alloc (bl_refl w) _ _
  unfold mvB
  cases h1 : ltK .f64 0 s.sm
  · cases h2 : ltK .f64 0 s.si
    all_goals
      go_enter Try.func60, Try.ntmps60
      repeat (first | go_values | go_skip | go_guarded | go_step | go_upon | go_back | dsimp only)
      go_ret
      exact ⟨rfl, B0⟩
  · go_enter Try.func60, Try.ntmps60
    repeat (first | go_values | go_skip | go_guarded | go_step | go_upon | go_back | dsimp only)
    go_ret
    exact ⟨rfl, B0⟩
set_option maxRecDepth 100000 in
set_option maxHeartbeats 4000000 in
theorem rof21 (rb ro rn rc_ : Nat) (rs : Option Addr) (Q : Nat → RD) (t : Int) (w : World) (hrs : rn = 0 ∨ rs = some ⟨rb, ro, none⟩) (hrc : rn ≤ rc_) (hrm : rc_ ≤ maxLen) (hr : Rws w rb ro rn Q) (or_ : ∀ i, i < rn → rok (Q i)) : Calls Try.prog 61 #[.slice rs rn rc_, .int .i64 t] w fun e w' => e = .returned (.bool (anyN (fun i => decide ((Q i).ra = t) || decide ((Q i).rb = t)) rn)) ∧ w' = w := by
  unfold maxLen at hrm
  go_enter Try.func61, Try.ntmps61
  repeat (first | go_values | go_skip | go_guarded | go_step | go_upon | go_back | dsimp only)
  go_loopw [5] (fun i wr => ∃ k : Nat, k ≤ rn ∧ i = .int .i64 k ∧ wr = w ∧ anyN (fun i => decide ((Q i).ra = t) || decide ((Q i).rb = t)) k = false) (fun i _ => rn - (intOf i).toNat)
  case atStart => exact ⟨0, by omega, rfl, rfl, rfl⟩
  case round =>
    obtain ⟨k, hk, rfl, rfl, hq⟩ := hrel
    by_cases hlt : k < rn
    · have e9 : rs = some ⟨rb, ro, none⟩ := by rcases hrs with h | h; omega; exact h
      subst e9
      have hkI : (k : Int) < (rn : Int) := by omega
      have x0 : wr.cell? ⟨rb, ro + k * 14, none⟩ = some (.int .i64 (Q k).ra) := hr k hlt 0 _ rfl
      have x1 : wr.cell? ⟨rb, ro + k * 14 + 1, none⟩ = some (.int .i64 (Q k).rb) := hr k hlt 1 _ rfl
      by_cases hA : (Q k).ra = t
      · have hA1 : ((Q k).ra == t) = true := by simp [hA]
        repeat (first | go_values | go_skip | go_guarded | go_step | go_upon | go_back | dsimp only)
        go_ret
        exact ⟨by rw [anyN_at (p := (fun i => decide ((Q i).ra = t) || decide ((Q i).rb = t))) (k := k) (by simp [hA]) hlt]; rfl, rfl⟩
      · have hA1 : ((Q k).ra == t) = false := by simp [hA]
        by_cases hB : (Q k).rb = t
        · have hB1 : ((Q k).rb == t) = true := by simp [hB]
          repeat (first | go_values | go_skip | go_guarded | go_step | go_upon | go_back | dsimp only)
          go_ret
          exact ⟨by rw [anyN_at (p := (fun i => decide ((Q i).ra = t) || decide ((Q i).rb = t))) (k := k) (by simp [hB]) hlt]; rfl, rfl⟩
        · have hB1 : ((Q k).rb == t) = false := by simp [hB]
          repeat (first | go_values | go_skip | go_guarded | go_step | go_upon | go_back | dsimp only)
          refine ⟨⟨k + 1, by omega, by go_num, (by first | rfl | trivial), ?_⟩, by simp [intOf]; omega⟩
          unfold anyN
          rw [hq]
          simp [hA, hB]
    · have hkn : k = rn := by omega
      subst hkn
      repeat (first | go_values | go_skip | go_guarded | go_step | go_upon | go_back | dsimp only)
      go_ret
      exact ⟨by rw [hq]; rfl, rfl⟩


set_option maxRecDepth 100000 in
set_option maxHeartbeats 4000000 in
theorem rstill21 (s : SD) (w : World) : Calls Try.prog 87 #[.agg #[.float .f64 s.sm, .float .f64 s.si, .float .f64 s.sx, .float .f64 s.sy, .float .f64 s.ss]] w fun e w' => e = .returned (.bool (stB s)) ∧ Bel w w' := by
  have c1 := cmp_ge .f64
  have c2 := cmp_le .f64
  have hA : (w.alloc (.cells #[.float .f64 s.sm, .float .f64 s.si, .float .f64 s.sx, .float .f64 s.sy, .float .f64 s.ss] 35)).rangeAt w.heap.size 0 [.float .f64 s.sm, .float .f64 s.si, .float .f64 s.sx, .float .f64 s.sy, .float .f64 s.ss] := rng_new w [.float .f64 s.sm, .float .f64 s.si, .float .f64 s.sx, .float .f64 s.sy, .float .f64 s.ss] 35
  have k0 : (w.alloc (.cells #[.float .f64 s.sm, .float .f64 s.si, .float .f64 s.sx, .float .f64 s.sy, .float .f64 s.ss] 35)).cell? ⟨w.heap.size, 0, none⟩ = some (.float .f64 s.sm) := hA 0 _ rfl
  have k1 : (w.alloc (.cells #[.float .f64 s.sm, .float .f64 s.si, .float .f64 s.sx, .float .f64 s.sy, .float .f64 s.ss] 35)).cell? ⟨w.heap.size, 1, none⟩ = some (.float .f64 s.si) := hA 1 _ rfl
  have B0 : Bel w (w.alloc (.cells #[.float .f64 s.sm, .float .f64 s.si, .float .f64 s.sx, .float .f64 s.sy, .float .f64 s.ss] 35)) := bl_alloc (bl_refl w) _ _
  unfold stB weB
  cases h0 : leK .f64 0 s.sm
  · go_enter Try.func87, Try.ntmps87
    repeat (first | go_values | go_skip | go_guarded | go_step | go_upon | go_back | dsimp only)
    go_ret
    exact ⟨rfl, B0⟩
  have m0 := le_max9 h0
  cases h1 : finK .f64 s.sm
  · rw [h1] at m0
    go_enter Try.func87, Try.ntmps87
    repeat (first | go_values | go_skip | go_guarded | go_step | go_upon | go_back | dsimp only)
    go_ret
    exact ⟨rfl, B0⟩
  rw [h1] at m0
  cases h2 : leK .f64 0 s.si
  · go_enter Try.func87, Try.ntmps87
    repeat (first | go_values | go_skip | go_guarded | go_step | go_upon | go_back | dsimp only)
    go_ret
    exact ⟨rfl, B0⟩
  have m1 := le_max9 h2
  cases h3 : finK .f64 s.si
  all_goals
    rw [h3] at m1
    go_enter Try.func87, Try.ntmps87
    repeat (first | go_values | go_skip | go_guarded | go_step | go_upon | go_back | dsimp only)
    go_ret
    exact ⟨rfl, B0⟩
theorem asE_many {Q : Nat → RD} {n : Nat} {S : Nat → SD} {m : Nat} (h : 1048576 < n ∨ 1024 < m) : asE Q n S m = 4 := by unfold asE; rw [if_pos h]
theorem asE_row {Q : Nat → RD} {n : Nat} {S : Nat → SD} {m k : Nat} (h1 : n ≤ 1048576) (h2 : m ≤ 1024) (hk : k < n) (h : chB (Q k) n m = false) : asE Q n S m = 200 := by unfold asE; rw [if_neg (by omega), crB_no h hk]; rfl
theorem asE_st {Q : Nat → RD} {n : Nat} {S : Nat → SD} {m k : Nat} (h1 : n ≤ 1048576) (h2 : m ≤ 1024) (hk : k < m) (h : stB (S k) = false) : asE Q n S m = 200 := by
  unfold asE
  rw [if_neg (by omega), anyN_at (p := fun i => !stB (S i)) (k := k) (by simp [h]) hk]
  simp
set_option maxRecDepth 100000 in
set_option maxHeartbeats 4000000 in
theorem asked21 (rb ro rn rc_ : Nat) (rs : Option Addr) (Q : Nat → RD) (sb so sn sc_ : Nat) (ss : Option Addr) (S : Nat → SD) (w : World) (hrs : rn = 0 ∨ rs = some ⟨rb, ro, none⟩) (hrc : rn ≤ rc_) (hrm : rc_ ≤ maxLen) (hr : Rws w rb ro rn Q) (or_ : ∀ i, i < rn → rok (Q i)) (hss : sn = 0 ∨ ss = some ⟨sb, so, none⟩) (hsc : sn ≤ sc_) (hsm : sc_ ≤ maxLen) (hs : Sts w sb so sn S) (os : ∀ i, i < sn → sok (S i)) : Calls Try.prog 52 #[.slice rs rn rc_, .slice ss sn sc_] w fun e w' => e = .returned (.int .i64 (asE Q rn S sn)) ∧ Bel w w' := by
  by_cases h1 : 1048576 < rn
  · have h1I : (1048576 : Int) < (rn : Int) := by omega
    rw [asE_many (.inl h1)]
    go_enter Try.func52, Try.ntmps52
    repeat (first | go_values | go_skip | go_guarded | go_step | go_upon | go_back | dsimp only)
    go_ret
    exact ⟨rfl, bl_refl _⟩
  by_cases h2 : 1024 < sn
  · have h1I : ¬ (1048576 : Int) < (rn : Int) := by omega
    have h2I : (1024 : Int) < (sn : Int) := by omega
    rw [asE_many (.inr h2)]
    go_enter Try.func52, Try.ntmps52
    repeat (first | go_values | go_skip | go_guarded | go_step | go_upon | go_back | dsimp only)
    go_ret
    exact ⟨rfl, bl_refl _⟩
  have h1I : ¬ (1048576 : Int) < (rn : Int) := by omega
  have h2I : ¬ (1024 : Int) < (sn : Int) := by omega
  go_enter Try.func52, Try.ntmps52
  repeat (first | go_values | go_skip | go_guarded | go_step | go_upon | go_back | dsimp only)
  go_loopw [5] (fun i wr => ∃ k : Nat, k ≤ rn ∧ i = .int .i64 k ∧ Bel w wr ∧ ∀ j, j < k → chB (Q j) rn sn = true) (fun i _ => rn - (intOf i).toNat)
  case atStart => exact ⟨0, by omega, rfl, bl_refl _, fun j hj => by omega⟩
  case round =>
    obtain ⟨k, hk, rfl, hB, hq⟩ := hrel
    by_cases hlt : k < rn
    · have e9 : rs = some ⟨rb, ro, none⟩ := by rcases hrs with h | h; omega; exact h
      subst e9
      have hkI : (k : Int) < (rn : Int) := by omega
      have hld : wr.rangeAt rb (ro + k * 14) [.int .i64 (Q k).ra, .int .i64 (Q k).rb, .float .f64 (Q k).r2, .float .f64 (Q k).r3, .float .f64 (Q k).r4, .float .f64 (Q k).r5, .float .f64 (Q k).r6, .float .f64 (Q k).r7, .float .f64 (Q k).r8, .float .f64 (Q k).r9, .float .f64 (Q k).r10, .float .f64 (Q k).r11, .int .i64 (Q k).ro, .float .f64 (Q k).r13] := (hr.bel hB) k hlt
      cases hc : chB (Q k) rn sn
      · repeat (first | ((with_reducible show Oper.wp _ { dst := _, op := Op.load 56 _, type := _, pos := _, after := _, guard := _ } _ _ _ _); refine wp_load_mid (P := Try.prog) 56 _ rfl _ _ rfl [.int .i64 (Q k).ra, .int .i64 (Q k).rb, .float .f64 (Q k).r2, .float .f64 (Q k).r3, .float .f64 (Q k).r4, .float .f64 (Q k).r5, .float .f64 (Q k).r6, .float .f64 (Q k).r7, .float .f64 (Q k).r8, .float .f64 (Q k).r9, .float .f64 (Q k).r10, .float .f64 (Q k).r11, .int .i64 (Q k).ro, .float .f64 (Q k).r13] _ hld Try.underlying56 rfl (by kernel_rfl) ?_; simp only [go_sem]) | (go_at_call 65; (with_reducible refine (rcheck_w (Q k) rn sn _).mono ?_); rintro e w' ⟨rfl, hb⟩; rw [hc]) | go_values | go_skip | go_guarded | go_step | go_upon | go_back | dsimp only)
        go_ret
        exact ⟨by rw [asE_row (by omega) (by omega) hlt hc]; rfl, bl_trans hB hb⟩
      · repeat (first | ((with_reducible show Oper.wp _ { dst := _, op := Op.load 56 _, type := _, pos := _, after := _, guard := _ } _ _ _ _); refine wp_load_mid (P := Try.prog) 56 _ rfl _ _ rfl [.int .i64 (Q k).ra, .int .i64 (Q k).rb, .float .f64 (Q k).r2, .float .f64 (Q k).r3, .float .f64 (Q k).r4, .float .f64 (Q k).r5, .float .f64 (Q k).r6, .float .f64 (Q k).r7, .float .f64 (Q k).r8, .float .f64 (Q k).r9, .float .f64 (Q k).r10, .float .f64 (Q k).r11, .int .i64 (Q k).ro, .float .f64 (Q k).r13] _ hld Try.underlying56 rfl (by kernel_rfl) ?_; simp only [go_sem]) | (go_at_call 65; (with_reducible refine (rcheck_w (Q k) rn sn _).mono ?_); rintro e w' ⟨rfl, hb⟩; rw [hc]) | go_values | go_skip | go_guarded | go_step | go_upon | go_back | dsimp only)
        refine ⟨⟨k + 1, by omega, by go_num, bl_trans hB hb, fun j hj => ?_⟩, by simp [intOf]; omega⟩
        rcases Nat.lt_or_ge j k with h | h
        · exact hq j h
        · have e : j = k := by omega
          subst e; exact hc
    · have hkn : rn = k := by omega
      subst hkn
      obtain ⟨w1, rfl⟩ : ∃ w1, w1 = wr := ⟨_, rfl⟩
      repeat (first | go_values | go_skip | go_guarded | go_step | go_upon | go_back | dsimp only)
      go_loopw [6] (fun i wr => ∃ k : Nat, k ≤ sn ∧ i = .int .i64 k ∧ Bel w wr ∧ ∀ j, j < k → stB (S j) = true) (fun i _ => sn - (intOf i).toNat)
      case atStart => exact ⟨0, by omega, rfl, hB, fun j hj => by omega⟩
      case round =>
        obtain ⟨k, hk2, rfl, hB2, hq2⟩ := hrel
        by_cases hlt2 : k < sn
        · have e9 : ss = some ⟨sb, so, none⟩ := by rcases hss with h | h; omega; exact h
          subst e9
          have hkI : (k : Int) < (sn : Int) := by omega
          have hld : wr.rangeAt sb (so + k * 5) [.float .f64 (S k).sm, .float .f64 (S k).si, .float .f64 (S k).sx, .float .f64 (S k).sy, .float .f64 (S k).ss] := (hs.bel hB2) k hlt2
          cases hc : stB (S k)
          · repeat (first | ((with_reducible show Oper.wp _ { dst := _, op := Op.load 35 _, type := _, pos := _, after := _, guard := _ } _ _ _ _); refine wp_load_mid (P := Try.prog) 35 _ rfl _ _ rfl [.float .f64 (S k).sm, .float .f64 (S k).si, .float .f64 (S k).sx, .float .f64 (S k).sy, .float .f64 (S k).ss] _ hld Try.underlying35 rfl (by kernel_rfl) ?_; simp only [go_sem]) | (go_at_call 87; (with_reducible refine (rstill21 (S k) _).mono ?_); rintro e w' ⟨rfl, hb⟩; rw [hc]) | go_values | go_skip | go_guarded | go_step | go_upon | go_back | dsimp only)
            go_ret
            exact ⟨by rw [asE_st (by omega) (by omega) hlt2 hc]; rfl, bl_trans hB2 hb⟩
          · repeat (first | ((with_reducible show Oper.wp _ { dst := _, op := Op.load 35 _, type := _, pos := _, after := _, guard := _ } _ _ _ _); refine wp_load_mid (P := Try.prog) 35 _ rfl _ _ rfl [.float .f64 (S k).sm, .float .f64 (S k).si, .float .f64 (S k).sx, .float .f64 (S k).sy, .float .f64 (S k).ss] _ hld Try.underlying35 rfl (by kernel_rfl) ?_; simp only [go_sem]) | (go_at_call 87; (with_reducible refine (rstill21 (S k) _).mono ?_); rintro e w' ⟨rfl, hb⟩; rw [hc]) | go_values | go_skip | go_guarded | go_step | go_upon | go_back | dsimp only)
            refine ⟨⟨k + 1, by omega, by go_num, bl_trans hB2 hb, fun j hj => ?_⟩, by simp [intOf]; omega⟩
            rcases Nat.lt_or_ge j k with h | h
            · exact hq2 j h
            · have e : j = k := by omega
              subst e; exact hc
        · have hkn : sn = k := by omega
          subst hkn
          repeat (first | go_values | go_skip | go_guarded | go_step | go_upon | go_back | dsimp only)
          go_ret
          exact ⟨by rw [asE_of (by omega) (by omega) hq hq2]; rfl, hB2⟩

end Go.Proofs.Ytchfgaooogfkdaa

namespace Go.Proofs.Ytchfgaooogfkdaa
open Go.ChangeShapes Go.WideShapes Go.ChangeAt Go.RowKit
set_option linter.unusedVariables false
set_option linter.unusedSimpArgs false


set_option maxRecDepth 100000 in
set_option maxHeartbeats 4000000 in
theorem rapart_bad1 (rb ro rn rc_ : Nat) (rs : Option Addr) (Q : Nat → RD) (qb qo qn qc_ : Nat) (qs : Option Addr) (Q2 : Nat → RD) (sb so sn sc_ : Nat) (ss : Option Addr) (S : Nat → SD) (w : World) (hrs : rn = 0 ∨ rs = some ⟨rb, ro, none⟩) (hrc : rn ≤ rc_) (hrm : rc_ ≤ maxLen) (hr : Rws w rb ro rn Q) (or_ : ∀ i, i < rn → rok (Q i)) (hqs : qn = 0 ∨ qs = some ⟨qb, qo, none⟩) (hqc : qn ≤ qc_) (hqm : qc_ ≤ maxLen) (hq : Rws w qb qo qn Q2) (oq_ : ∀ i, i < qn → rok (Q2 i)) (hss : sn = 0 ∨ ss = some ⟨sb, so, none⟩) (hsc : sn ≤ sc_) (hsm : sc_ ≤ maxLen) (hs : Sts w sb so sn S) (os : ∀ i, i < sn → sok (S i)) (er : Int) (he : asE Q rn S sn = er) (h0 : er ≠ 0) : Calls Try.prog 27 #[.slice rs rn rc_, .slice qs qn qc_, .slice ss sn sc_] w fun e w' => e = .returned (.tuple #[.bool false, .int .i64 er]) ∧ Bel w w' := by
  have h1 : (er == 0) = false := by simp [h0]
  have t1 : Stg 1 := trivial
  go_enter Try.func27, Try.ntmps27
  repeat (first | (have zz := t1; clear zz t1; have t2 : Stg 2 := trivial; go_at_call 52; (with_reducible refine (asked21 rb ro rn rc_ rs Q sb so sn sc_ ss S _ hrs hrc hrm (hr) or_ hss hsc hsm (hs) os).mono ?_); rintro e w1 ⟨rfl, hbw1⟩; rw [he]) | go_values | go_skip | go_guarded | go_step | go_upon | go_back | dsimp only)
  refine bodyPost_ret (v := .tuple #[.bool false, .int .i64 er]) (by kernel_rfl) rfl ?_
  exact ⟨rfl, hbw1⟩
set_option maxRecDepth 100000 in
set_option maxHeartbeats 4000000 in
theorem rapart_bad2 (rb ro rn rc_ : Nat) (rs : Option Addr) (Q : Nat → RD) (qb qo qn qc_ : Nat) (qs : Option Addr) (Q2 : Nat → RD) (sb so sn sc_ : Nat) (ss : Option Addr) (S : Nat → SD) (w : World) (hrs : rn = 0 ∨ rs = some ⟨rb, ro, none⟩) (hrc : rn ≤ rc_) (hrm : rc_ ≤ maxLen) (hr : Rws w rb ro rn Q) (or_ : ∀ i, i < rn → rok (Q i)) (hqs : qn = 0 ∨ qs = some ⟨qb, qo, none⟩) (hqc : qn ≤ qc_) (hqm : qc_ ≤ maxLen) (hq : Rws w qb qo qn Q2) (oq_ : ∀ i, i < qn → rok (Q2 i)) (hss : sn = 0 ∨ ss = some ⟨sb, so, none⟩) (hsc : sn ≤ sc_) (hsm : sc_ ≤ maxLen) (hs : Sts w sb so sn S) (os : ∀ i, i < sn → sok (S i)) (he : asE Q rn S sn = 0) (er : Int) (he2 : asE Q2 qn S sn = er) (h0 : er ≠ 0) : Calls Try.prog 27 #[.slice rs rn rc_, .slice qs qn qc_, .slice ss sn sc_] w fun e w' => e = .returned (.tuple #[.bool false, .int .i64 er]) ∧ Bel w w' := by
  have h1 : (er == 0) = false := by simp [h0]
  have t1 : Stg 1 := trivial
  go_enter Try.func27, Try.ntmps27
  repeat (first | (have zz := t1; clear zz t1; have t2 : Stg 2 := trivial; go_at_call 52; (with_reducible refine (asked21 rb ro rn rc_ rs Q sb so sn sc_ ss S _ hrs hrc hrm (hr) or_ hss hsc hsm (hs) os).mono ?_); rintro e w1 ⟨rfl, hbw1⟩; rw [he]) | (have zz := t2; clear zz t2; have t3 : Stg 3 := trivial; go_at_call 52; (with_reducible refine (asked21 qb qo qn qc_ qs Q2 sb so sn sc_ ss S _ hqs hqc hqm (hq.bel hbw1) oq_ hss hsc hsm (hs.bel hbw1) os).mono ?_); rintro e w2 ⟨rfl, hbw2⟩; rw [he2]) | go_values | go_skip | go_guarded | go_step | go_upon | go_back | dsimp only)
  refine bodyPost_ret (v := .tuple #[.bool false, .int .i64 er]) (by kernel_rfl) rfl ?_
  exact ⟨rfl, bl_trans hbw1 hbw2⟩
theorem ap_no {Q P : Nat → RD} {n m k : Nat} {S : Nat → SD} (h1 : mvB (S k) = true) (h2 : tchB Q n k = true) (h3 : tchB P m k = true) : apB Q n P m S = false := by
  cases h : apB Q n P m S
  · rfl
  · rw [ap_iff.1 h k h1 h3] at h2; cases h2
theorem tch_low {Q : Nat → RD} {n sn : Nat} (h : ∀ i, i < n → chB (Q i) n sn = true) {k : Nat} (ht : tchB Q n k = true) : k < sn := by
  obtain ⟨i, hi, hk⟩ := tch_iff.1 ht
  have g := h i hi
  unfold chB mayB at g
  simp only [Bool.and_eq_true, decide_eq_true_eq] at g
  rcases hk with rfl | rfl <;> omega
set_option maxRecDepth 100000 in
set_option maxHeartbeats 4000000 in
theorem rapart_ok (rb ro rn rc_ : Nat) (rs : Option Addr) (Q : Nat → RD) (qb qo qn qc_ : Nat) (qs : Option Addr) (Q2 : Nat → RD) (sb so sn sc_ : Nat) (ss : Option Addr) (S : Nat → SD) (w : World) (hrs : rn = 0 ∨ rs = some ⟨rb, ro, none⟩) (hrc : rn ≤ rc_) (hrm : rc_ ≤ maxLen) (hr : Rws w rb ro rn Q) (or_ : ∀ i, i < rn → rok (Q i)) (hqs : qn = 0 ∨ qs = some ⟨qb, qo, none⟩) (hqc : qn ≤ qc_) (hqm : qc_ ≤ maxLen) (hq : Rws w qb qo qn Q2) (oq_ : ∀ i, i < qn → rok (Q2 i)) (hss : sn = 0 ∨ ss = some ⟨sb, so, none⟩) (hsc : sn ≤ sc_) (hsm : sc_ ≤ maxLen) (hs : Sts w sb so sn S) (os : ∀ i, i < sn → sok (S i)) (he : asE Q rn S sn = 0) (he2 : asE Q2 qn S sn = 0) : Calls Try.prog 27 #[.slice rs rn rc_, .slice qs qn qc_, .slice ss sn sc_] w fun e w' => e = .returned (.tuple #[.bool (apB Q rn Q2 qn S), .int .i64 0]) ∧ Bel w w' := by
  obtain ⟨l1, l2, hch, _⟩ := asE_zero he
  obtain ⟨l3, _, hch2, _⟩ := asE_zero he2
  have t1 : Stg 1 := trivial
  go_enter Try.func27, Try.ntmps27
  repeat (first | (have zz := t1; clear zz t1; have t2 : Stg 2 := trivial; go_at_call 52; (with_reducible refine (asked21 rb ro rn rc_ rs Q sb so sn sc_ ss S _ hrs hrc hrm (hr) or_ hss hsc hsm (hs) os).mono ?_); rintro e w1 ⟨rfl, hbw1⟩; rw [he]) | (have zz := t2; clear zz t2; have t3 : Stg 3 := trivial; go_at_call 52; (with_reducible refine (asked21 qb qo qn qc_ qs Q2 sb so sn sc_ ss S _ hqs hqc hqm (hq.bel hbw1) oq_ hss hsc hsm (hs.bel hbw1) os).mono ?_); rintro e w2 ⟨rfl, hbw2⟩; rw [he2]) | go_values | go_skip | go_guarded | go_step | go_upon | go_back | dsimp only)
  go_loopw [9] (fun i wr => ∃ k : Nat, k ≤ sn ∧ i = .int .i64 k ∧ Bel w wr ∧ ∀ j, j < k → ¬ (mvB (S j) = true ∧ tchB Q rn j = true ∧ tchB Q2 qn j = true)) (fun i _ => sn - (intOf i).toNat)
  case atStart => exact ⟨0, by omega, rfl, bl_trans hbw1 hbw2, fun j hj => by omega⟩
  case round =>
    obtain ⟨k, hk, rfl, hB, hq0⟩ := hrel
    by_cases hlt : k < sn
    · have e9 : ss = some ⟨sb, so, none⟩ := by rcases hss with h | h; omega; exact h
      subst e9
      have hkI : (k : Int) < (sn : Int) := by omega
      have hld : wr.rangeAt sb (so + k * 5) [.float .f64 (S k).sm, .float .f64 (S k).si, .float .f64 (S k).sx, .float .f64 (S k).sy, .float .f64 (S k).ss] := (hs.bel hB) k hlt
      have a1 := has_tch hch k
      have a2 := has_tch hch2 k
      have t7 : Stg 7 := trivial
      have nx : ¬ (mvB (S k) = true ∧ tchB Q rn k = true ∧ tchB Q2 qn k = true) → ∀ j, j < k + 1 → ¬ (mvB (S j) = true ∧ tchB Q rn j = true ∧ tchB Q2 qn j = true) := fun h j hj => by
        rcases Nat.lt_or_ge j k with g | g
        · exact hq0 j g
        · have e : j = k := by omega
          subst e; exact h
      cases hm : mvB (S k)
      · repeat (first | ((with_reducible show Oper.wp _ { dst := _, op := Op.load 35 _, type := _, pos := _, after := _, guard := _ } _ _ _ _); refine wp_load_mid (P := Try.prog) 35 _ rfl _ _ rfl [.float .f64 (S k).sm, .float .f64 (S k).si, .float .f64 (S k).sx, .float .f64 (S k).sy, .float .f64 (S k).ss] _ (by with_reducible assumption) Try.underlying35 rfl (by kernel_rfl) ?_; simp only [go_sem]) | (go_at_call 60; (with_reducible refine (rmoved21 (S k) _).mono ?_); rintro e wm ⟨rfl, hbm⟩; rw [hm]) | go_values | go_skip | go_guarded | go_step | go_upon | go_back | dsimp only)
        exact ⟨⟨k + 1, by omega, by go_num, bl_trans hB hbm, nx (by rw [hm]; simp)⟩, by simp [intOf]; omega⟩
      · cases h1 : tchB Q rn k
        · rw [h1] at a1
          repeat (first | ((with_reducible show Oper.wp _ { dst := _, op := Op.load 35 _, type := _, pos := _, after := _, guard := _ } _ _ _ _); refine wp_load_mid (P := Try.prog) 35 _ rfl _ _ rfl [.float .f64 (S k).sm, .float .f64 (S k).si, .float .f64 (S k).sx, .float .f64 (S k).sy, .float .f64 (S k).ss] _ (by with_reducible assumption) Try.underlying35 rfl (by kernel_rfl) ?_; simp only [go_sem]) | (go_at_call 60; (with_reducible refine (rmoved21 (S k) _).mono ?_); rintro e wm ⟨rfl, hbm⟩; rw [hm]) | (have zz := t7; clear zz t7; have t8 : Stg 8 := trivial; go_at_call 61; (with_reducible refine (rof21 rb ro rn rc_ rs Q (k : Int) _ hrs hrc hrm ((hr.bel hB).bel hbm) or_).mono ?_); rintro e wo ⟨rfl, rfl⟩; rw [a1]) | (have zz := t8; clear zz t8; have t9 : Stg 9 := trivial; go_at_call 61; (with_reducible refine (rof21 qb qo qn qc_ qs Q2 (k : Int) _ hqs hqc hqm ((hq.bel hB).bel hbm) oq_).mono ?_); rintro e wp ⟨rfl, rfl⟩; rw [a2]) | go_values | go_skip | go_guarded | go_step | go_upon | go_back | dsimp only)
          exact ⟨⟨k + 1, by omega, by go_num, bl_trans hB hbm, nx (by rw [h1]; simp)⟩, by simp [intOf]; omega⟩
        · rw [h1] at a1
          cases h2 : tchB Q2 qn k
          · rw [h2] at a2
            repeat (first | ((with_reducible show Oper.wp _ { dst := _, op := Op.load 35 _, type := _, pos := _, after := _, guard := _ } _ _ _ _); refine wp_load_mid (P := Try.prog) 35 _ rfl _ _ rfl [.float .f64 (S k).sm, .float .f64 (S k).si, .float .f64 (S k).sx, .float .f64 (S k).sy, .float .f64 (S k).ss] _ (by with_reducible assumption) Try.underlying35 rfl (by kernel_rfl) ?_; simp only [go_sem]) | (go_at_call 60; (with_reducible refine (rmoved21 (S k) _).mono ?_); rintro e wm ⟨rfl, hbm⟩; rw [hm]) | (have zz := t7; clear zz t7; have t8 : Stg 8 := trivial; go_at_call 61; (with_reducible refine (rof21 rb ro rn rc_ rs Q (k : Int) _ hrs hrc hrm ((hr.bel hB).bel hbm) or_).mono ?_); rintro e wo ⟨rfl, rfl⟩; rw [a1]) | (have zz := t8; clear zz t8; have t9 : Stg 9 := trivial; go_at_call 61; (with_reducible refine (rof21 qb qo qn qc_ qs Q2 (k : Int) _ hqs hqc hqm ((hq.bel hB).bel hbm) oq_).mono ?_); rintro e wp ⟨rfl, rfl⟩; rw [a2]) | go_values | go_skip | go_guarded | go_step | go_upon | go_back | dsimp only)
            exact ⟨⟨k + 1, by omega, by go_num, bl_trans hB hbm, nx (by rw [h2]; simp)⟩, by simp [intOf]; omega⟩
          · rw [h2] at a2
            repeat (first | ((with_reducible show Oper.wp _ { dst := _, op := Op.load 35 _, type := _, pos := _, after := _, guard := _ } _ _ _ _); refine wp_load_mid (P := Try.prog) 35 _ rfl _ _ rfl [.float .f64 (S k).sm, .float .f64 (S k).si, .float .f64 (S k).sx, .float .f64 (S k).sy, .float .f64 (S k).ss] _ (by with_reducible assumption) Try.underlying35 rfl (by kernel_rfl) ?_; simp only [go_sem]) | (go_at_call 60; (with_reducible refine (rmoved21 (S k) _).mono ?_); rintro e wm ⟨rfl, hbm⟩; rw [hm]) | (have zz := t7; clear zz t7; have t8 : Stg 8 := trivial; go_at_call 61; (with_reducible refine (rof21 rb ro rn rc_ rs Q (k : Int) _ hrs hrc hrm ((hr.bel hB).bel hbm) or_).mono ?_); rintro e wo ⟨rfl, rfl⟩; rw [a1]) | (have zz := t8; clear zz t8; have t9 : Stg 9 := trivial; go_at_call 61; (with_reducible refine (rof21 qb qo qn qc_ qs Q2 (k : Int) _ hqs hqc hqm ((hq.bel hB).bel hbm) oq_).mono ?_); rintro e wp ⟨rfl, rfl⟩; rw [a2]) | go_values | go_skip | go_guarded | go_step | go_upon | go_back | dsimp only)
            refine bodyPost_ret (v := .tuple #[.bool false, .int .i64 0]) (by kernel_rfl) rfl ?_
            exact ⟨by rw [ap_no hm h1 h2], bl_trans hB hbm⟩
    · have hkn : sn = k := by omega
      subst hkn
      repeat (first | go_values | go_skip | go_guarded | go_step | go_upon | go_back | dsimp only)
      refine bodyPost_ret (v := .tuple #[.bool true, .int .i64 0]) (by kernel_rfl) rfl ?_
      refine ⟨?_, hB⟩
      rw [show apB Q rn Q2 qn S = true from ap_iff.2 (fun i hm h2 => ?_)]
      cases h1 : tchB Q rn i
      · rfl
      · exact absurd ⟨hm, h1, h2⟩ (hq0 i (tch_low hch h1))

end Go.Proofs.Ytchfgaooogfkdaa
