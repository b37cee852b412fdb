/-
  What each function of package poly answers, and what the reference of its chapter answers: one contract a function, for every float: the answer stands in the relation of its formula to what was given; of the memory that was there nothing has turned.
-/
import Derived.Test.YtfaiaepkmlmoaaaGreatVec
import Derived.Test.YtfaiaepkmlmoaaaGreatRs
import Derived.Test.YtfaiaepkmlmoaaaGreatBel
import Derived.Below
import Derived.WalkKit
import Derived.WalkLawsBesides
import Derived.WalkSpells
import Derived.ProofKit
import Derived.OpenShut
import Derived.Deep.RegionHeld3
namespace Go.Proofs.YtfaiaepkmlmoaaaGreat
open Go.ChangeShapes Go.WideShapes Go.ChangeAt Go.RowKit
set_option linter.unusedVariables false
set_option linter.unusedSimpArgs false


set_option maxHeartbeats 4000000 in
theorem rchk7_1 (V : Value) (xs ys : Nat → Nat) (r : Nat) (w : World) (h : AnyS w V 1 xs ys) : Calls Tryz.prog 35 #[.agg #[.int .u8 1, .float .f64 r, V]] w fun e w' => e = .returned (.int .i64 (shE 1 r xs ys 1)) ∧ Bel w w' := by
  obtain ⟨a, c, rfl, hcc, hm, _, o, hA⟩ := id h
  obtain ⟨hp, b, off, rfl, hsl⟩ : 0 < 1 ∧ ∃ b off, a = some ⟨b, off, none⟩ ∧ Sl w b off 1 xs ys := by
    rcases hA with e | e
    · omega
    · exact e
  have hb0 := hsl.lt hp
  have c1 := cmp_ge .f64
  have c2 := cmp_le .f64
  have z0_0 : (w.alloc (.cells #[.int .u8 1, .float .f64 r, .slice (some ⟨b, off, none⟩) 1 c] 27)).cell? ⟨w.heap.size, 0, none⟩ = some (.int .u8 1) := by rw [World.cell?_alloc_new]; rfl
  have z0_1 : (w.alloc (.cells #[.int .u8 1, .float .f64 r, .slice (some ⟨b, off, none⟩) 1 c] 27)).cell? ⟨w.heap.size, 1, none⟩ = some (.float .f64 r) := by rw [World.cell?_alloc_new]; rfl
  have z0_2 : (w.alloc (.cells #[.int .u8 1, .float .f64 r, .slice (some ⟨b, off, none⟩) 1 c] 27)).cell? ⟨w.heap.size, 2, none⟩ = some (.slice (some ⟨b, off, none⟩) 1 c) := by rw [World.cell?_alloc_new]; rfl
  have B0 : Bel w (w.alloc (.cells #[.int .u8 1, .float .f64 r, .slice (some ⟨b, off, none⟩) 1 c] 27)) := bl_alloc (bl_refl w) _ _
  go_enter Tryz.func35, Tryz.ntmps35
  go_wp2
  go_loopw [4] (fun i' wr => ∃ k : Nat, k ≤ 1 ∧ i' = .int .i64 k ∧ Bel w wr ∧ wr.cell? ⟨w.heap.size, 0, none⟩ = some (.int .u8 1) ∧ wr.cell? ⟨w.heap.size, 1, none⟩ = some (.float .f64 r) ∧ wr.cell? ⟨w.heap.size, 2, none⟩ = some (.slice (some ⟨b, off, none⟩) 1 c) ∧ ∀ q, q < k → (withinK .f64 (xs q) 4787326403894837248 && withinK .f64 (ys q) 4787326403894837248) = true) (fun i' _ => 1 - (intOf i').toNat)
  case atStart => exact ⟨0, by omega, rfl, B0, z0_0, z0_1, z0_2, fun q hq => by omega⟩
  case round =>
    obtain ⟨k, hk, rfl, hB, d0, d1, d2, hq⟩ := hrel
    by_cases hlt : k < 1
    · obtain ⟨x0, x1⟩ := (hsl.bel hB) k hlt
      obtain ⟨o1, o2⟩ := o k hlt
      have hbb : b < wr.heap.size := Nat.lt_of_lt_of_le hb0 hB.size
      have k1 : (k : Int) < 1 := by omega
      cases hw : (withinK .f64 (xs k) 4787326403894837248 && withinK .f64 (ys k) 4787326403894837248)
      all_goals go_wp2_with (first | (go_at_call 56; refine (real7 _ _ _ o1 o2).mono ?_; rintro e w1 ⟨rfl, hb⟩; unfold inB; rw [hw]; have B := hb))
      · have e0 : shE 1 r xs ys 1 = 5 := by rw [sh_1]; exact rdE_bad1 (allB_no hlt hw)
        go_ret
        exact ⟨by rw [e0]; rfl, bl_trans hB B⟩
      · refine ⟨⟨k + 1, by omega, by go_num, bl_trans hB B, keep B d0, keep B d1, keep B d2, fun q h => ?_⟩, by simp [intOf]; omega⟩
        rcases Nat.lt_or_ge q k with g | g
        · exact hq q g
        · rw [show q = k by omega]; exact hw
    · have hkn : k = 1 := by omega
      subst hkn
      have hre : reaB xs ys 1 = true := allB_iff.2 hq
      cases h1 : leK .f64 4472074429978902528 r
      · have e0 : shE 1 r xs ys 1 = 5 := by rw [sh_1]; exact rdE_bad2 (show rdB r = false by unfold rdB; rw [h1]; rfl)
        go_wp2
        go_ret
        exact ⟨by rw [e0]; rfl, hB⟩
      · cases h2 : leK .f64 r 4787326403894837248
        · have e0 : shE 1 r xs ys 1 = 5 := by rw [sh_1]; exact rdE_bad2 (show rdB r = false by unfold rdB; rw [h2, Bool.and_false])
          go_wp2
          go_ret
          exact ⟨by rw [e0]; rfl, hB⟩
        · have e : rdE xs ys 1 r = 0 := rdE_good hre (by unfold rdB; rw [h1, h2]; rfl)
          have hr' := rd_parts (r := r) (rdE_ok e).2
          · have e0 : shE 1 r xs ys 1 = 0 := by rw [sh_1]; exact e
            go_wp2
            haveI := belBy_some wr
            refine wp_region_quiet_bel (by kernel_rfl) (by kernel_rfl) ?_
            repeat (go_big_quiet_step (fail))
            refine wpQuiet_nil ?_
            rintro _ ⟨nq, rfl⟩
            go_wp2
            go_ret
            exact ⟨by rw [e0]; rfl, bl_trans hB nq.h⟩

set_option maxHeartbeats 4000000 in
theorem rchk7_2 (V : Value) (xs ys : Nat → Nat) (r : Nat) (w : World) (h : AnyS w V 2 xs ys) : Calls Tryz.prog 35 #[.agg #[.int .u8 2, .float .f64 r, V]] w fun e w' => e = .returned (.int .i64 (shE 2 r xs ys 2)) ∧ Bel w w' := by
  obtain ⟨a, c, rfl, hcc, hm, _, o, hA⟩ := id h
  obtain ⟨hp, b, off, rfl, hsl⟩ : 0 < 2 ∧ ∃ b off, a = some ⟨b, off, none⟩ ∧ Sl w b off 2 xs ys := by
    rcases hA with e | e
    · omega
    · exact e
  have hb0 := hsl.lt hp
  have c1 := cmp_ge .f64
  have c2 := cmp_le .f64
  have z0_0 : (w.alloc (.cells #[.int .u8 2, .float .f64 r, .slice (some ⟨b, off, none⟩) 2 c] 27)).cell? ⟨w.heap.size, 0, none⟩ = some (.int .u8 2) := by rw [World.cell?_alloc_new]; rfl
  have z0_1 : (w.alloc (.cells #[.int .u8 2, .float .f64 r, .slice (some ⟨b, off, none⟩) 2 c] 27)).cell? ⟨w.heap.size, 1, none⟩ = some (.float .f64 r) := by rw [World.cell?_alloc_new]; rfl
  have z0_2 : (w.alloc (.cells #[.int .u8 2, .float .f64 r, .slice (some ⟨b, off, none⟩) 2 c] 27)).cell? ⟨w.heap.size, 2, none⟩ = some (.slice (some ⟨b, off, none⟩) 2 c) := by rw [World.cell?_alloc_new]; rfl
  have B0 : Bel w (w.alloc (.cells #[.int .u8 2, .float .f64 r, .slice (some ⟨b, off, none⟩) 2 c] 27)) := bl_alloc (bl_refl w) _ _
  go_enter Tryz.func35, Tryz.ntmps35
  go_wp2
  go_loopw [4] (fun i' wr => ∃ k : Nat, k ≤ 2 ∧ i' = .int .i64 k ∧ Bel w wr ∧ wr.cell? ⟨w.heap.size, 0, none⟩ = some (.int .u8 2) ∧ wr.cell? ⟨w.heap.size, 1, none⟩ = some (.float .f64 r) ∧ wr.cell? ⟨w.heap.size, 2, none⟩ = some (.slice (some ⟨b, off, none⟩) 2 c) ∧ ∀ q, q < k → (withinK .f64 (xs q) 4787326403894837248 && withinK .f64 (ys q) 4787326403894837248) = true) (fun i' _ => 2 - (intOf i').toNat)
  case atStart => exact ⟨0, by omega, rfl, B0, z0_0, z0_1, z0_2, fun q hq => by omega⟩
  case round =>
    obtain ⟨k, hk, rfl, hB, d0, d1, d2, hq⟩ := hrel
    by_cases hlt : k < 2
    · obtain ⟨x0, x1⟩ := (hsl.bel hB) k hlt
      obtain ⟨o1, o2⟩ := o k hlt
      have hbb : b < wr.heap.size := Nat.lt_of_lt_of_le hb0 hB.size
      have k1 : (k : Int) < 2 := by omega
      cases hw : (withinK .f64 (xs k) 4787326403894837248 && withinK .f64 (ys k) 4787326403894837248)
      all_goals go_wp2_with (first | (go_at_call 56; refine (real7 _ _ _ o1 o2).mono ?_; rintro e w1 ⟨rfl, hb⟩; unfold inB; rw [hw]; have B := hb))
      · have e0 : shE 2 r xs ys 2 = 5 := by rw [sh_2]; unfold ckE; rw [rdE_bad1 (allB_no hlt hw)]; rfl
        go_ret
        exact ⟨by rw [e0]; rfl, bl_trans hB B⟩
      · refine ⟨⟨k + 1, by omega, by go_num, bl_trans hB B, keep B d0, keep B d1, keep B d2, fun q h => ?_⟩, by simp [intOf]; omega⟩
        rcases Nat.lt_or_ge q k with g | g
        · exact hq q g
        · rw [show q = k by omega]; exact hw
    · have hkn : k = 2 := by omega
      subst hkn
      have hre : reaB xs ys 2 = true := allB_iff.2 hq
      cases h1 : leK .f64 4472074429978902528 r
      · have e0 : shE 2 r xs ys 2 = 5 := by rw [sh_2]; unfold ckE; rw [rdE_bad2 (show rdB r = false by unfold rdB; rw [h1]; rfl)]; rfl
        go_wp2
        go_ret
        exact ⟨by rw [e0]; rfl, hB⟩
      · cases h2 : leK .f64 r 4787326403894837248
        · have e0 : shE 2 r xs ys 2 = 5 := by rw [sh_2]; unfold ckE; rw [rdE_bad2 (show rdB r = false by unfold rdB; rw [h2, Bool.and_false])]; rfl
          go_wp2
          go_ret
          exact ⟨by rw [e0]; rfl, hB⟩
        · have e : rdE xs ys 2 r = 0 := rdE_good hre (by unfold rdB; rw [h1, h2]; rfl)
          have hr' := rd_parts (r := r) (rdE_ok e).2
          · have g := gd_of o hre
            obtain ⟨g1, g2⟩ := g 0 (by decide)
            obtain ⟨g3, g4⟩ := g 1 (by decide)
            obtain ⟨w1, w2⟩ := cw_bd g
            unfold cwK at w1 w2
            cases hcp : cpB (xs 0) (ys 0) (xs 1) (ys 1)
            · have hl : ltK .f64 (lnK (Dv .sub (xs 1) (xs 0)) (Dv .sub (ys 1) (ys 0))) 4472074429978902528 = false := hcp
              have e0 : shE 2 r xs ys 2 = 0 := by rw [sh_2]; unfold ckE; rw [e, hcp]; rfl
              go_wp2
              have c3 := cmp_lt .f64
              haveI := belBy_some wr
              obtain ⟨x0, x1⟩ := (hsl.bel hB) 0 (by decide)
              obtain ⟨x2, x3⟩ := (hsl.bel hB) 1 (by decide)
              rw [show off + 0 * 2 = off by omega] at x0 x1
              rw [show off + 1 * 2 = off + 2 by omega] at x2 x3
              have y0 := belBy_cell x0
              have y1 := belBy_cell x1
              have y2 := belBy_cell x2
              have y3 := belBy_cell x3
              have y4 := belBy_cell d2
              refine wp_region_quiet_bel (by kernel_rfl) (by kernel_rfl) ?_
              repeat (go_big_quiet_step (first | (go_at_call 58; exact calls_bel (minus7 _ g3 g4 g1 g2)) | (go_at_call 57; exact calls_bel (length7 _ w1 w2 (by decide)))))
              refine wpQuiet_nil ?_
              rintro _ ⟨nq, rfl⟩
              go_wp2
              go_ret
              exact ⟨by rw [e0]; rfl, bl_trans hB nq.h⟩
            · have hl : ltK .f64 (lnK (Dv .sub (xs 1) (xs 0)) (Dv .sub (ys 1) (ys 0))) 4472074429978902528 = true := hcp
              have e0 : shE 2 r xs ys 2 = 6 := by rw [sh_2]; unfold ckE; rw [e, hcp]; rfl
              go_wp2
              have c3 := cmp_lt .f64
              haveI := belBy_some wr
              obtain ⟨x0, x1⟩ := (hsl.bel hB) 0 (by decide)
              obtain ⟨x2, x3⟩ := (hsl.bel hB) 1 (by decide)
              rw [show off + 0 * 2 = off by omega] at x0 x1
              rw [show off + 1 * 2 = off + 2 by omega] at x2 x3
              have y0 := belBy_cell x0
              have y1 := belBy_cell x1
              have y2 := belBy_cell x2
              have y3 := belBy_cell x3
              have y4 := belBy_cell d2
              refine wp_region_quiet_bel (by kernel_rfl) (by kernel_rfl) ?_
              repeat (go_big_quiet_step (first | (go_at_call 58; exact calls_bel (minus7 _ g3 g4 g1 g2)) | (go_at_call 57; exact calls_bel (length7 _ w1 w2 (by decide)))))
              refine wpQuiet_nil ?_
              rintro _ ⟨nq, rfl⟩
              go_wp2
              go_ret
              exact ⟨by rw [e0]; rfl, bl_trans hB nq.h⟩

theorem rchk7_b (V : Value) (n : Nat) (xs ys : Nat → Nat) (k : Int) (r : Nat) (w : World) (h : AnyS w V n xs ys) (k12 : k = 1 ∨ k = 2) (hn : ¬ (n : Int) = k) : Calls Tryz.prog 35 #[.agg #[.int .u8 k, .float .f64 r, V]] w fun e w' => e = .returned (.int .i64 (shE k r xs ys n)) ∧ Bel w w' := by
  obtain ⟨a, c, rfl, hcc, hm, _, o, hA⟩ := id h
  rcases k12 with rfl | rfl
  · have n1 : ¬ n = 1 := by omega
    have e0 : shE 1 r xs ys n = 6 := sh_no (by unfold kdE; simp [n1]) (by decide)
    go_enter Tryz.func35, Tryz.ntmps35
    go_wp2
    go_ret
    refine ⟨by first | rfl | (rw [e0]; rfl), ?_⟩
    repeat (first | exact bl_refl _ | assumption | apply bl_drewN | apply bl_drew | apply bl_alloc | refine bl_set ?_ (by simp <;> omega) | refine bl_trans ?_ (by assumption))
  · have n1 : ¬ n = 2 := by omega
    have e0 : shE 2 r xs ys n = 6 := sh_no (by unfold kdE; simp [n1]) (by decide)
    go_enter Tryz.func35, Tryz.ntmps35
    go_wp2
    go_ret
    refine ⟨by first | rfl | (rw [e0]; rfl), ?_⟩
    repeat (first | exact bl_refl _ | assumption | apply bl_drewN | apply bl_drew | apply bl_alloc | refine bl_set ?_ (by simp <;> omega) | refine bl_trans ?_ (by assumption))
set_option maxHeartbeats 1000000 in
theorem rchk7_3 (V : Value) (n : Nat) (xs ys : Nat → Nat) (r : Nat) (w : World) (h : AnyS w V n xs ys) : Calls Tryz.prog 35 #[.agg #[.int .u8 3, .float .f64 r, V]] w fun e w' => e = .returned (.int .i64 (shE 3 r xs ys n)) ∧ Bel w w' := by
  obtain ⟨a, c, rfl, hcc, hm, _, o, hA⟩ := id h
  have c1 := cmp_ne .f64
  by_cases n3 : 3 ≤ n
  · have n3' : ¬ (n : Int) < 3 := by omega
    by_cases n8 : n ≤ 8
    · have n8' : ¬ (8 : Int) < (n : Int) := by omega
      cases hz : eqK .f64 r 0
      · have e0 : shE 3 r xs ys n = 6 := sh_no (by unfold kdE; simp [hz]) (by decide)
        go_enter Tryz.func35, Tryz.ntmps35
        go_wp2
        go_ret
        refine ⟨by first | rfl | (rw [e0]; rfl), ?_⟩
        repeat (first | exact bl_refl _ | assumption | apply bl_drewN | apply bl_drew | apply bl_alloc | refine bl_set ?_ (by simp <;> omega) | refine bl_trans ?_ (by assumption))
      · have e0 : shE 3 r xs ys n = chkE xs ys n := sh_3 (by unfold kdE; simp [n3, n8, hz])
        have h1 := h.bel (bl_alloc (bl_refl w) #[.int .u8 3, .float .f64 r, .slice a n c] 27)
        go_enter Tryz.func35, Tryz.ntmps35
        go_wp2_with (first | (go_at_call 59; refine (rchk_any _ _ _ _ _ h1).mono ?_; rintro e w1 ⟨rfl, hb⟩))
        go_ret
        refine ⟨by first | rfl | (rw [e0]; rfl), ?_⟩
        repeat (first | exact bl_refl _ | assumption | apply bl_drewN | apply bl_drew | apply bl_alloc | refine bl_set ?_ (by simp <;> omega) | refine bl_trans ?_ (by assumption))
    · have n8' : (8 : Int) < (n : Int) := by omega
      have e0 : shE 3 r xs ys n = 6 := sh_no (by unfold kdE; simp [n8]) (by decide)
      go_enter Tryz.func35, Tryz.ntmps35
      go_wp2
      go_ret
      refine ⟨by first | rfl | (rw [e0]; rfl), ?_⟩
      repeat (first | exact bl_refl _ | assumption | apply bl_drewN | apply bl_drew | apply bl_alloc | refine bl_set ?_ (by simp <;> omega) | refine bl_trans ?_ (by assumption))
  · have n3' : (n : Int) < 3 := by omega
    have e0 : shE 3 r xs ys n = 6 := sh_no (by unfold kdE; simp [n3]) (by decide)
    go_enter Tryz.func35, Tryz.ntmps35
    go_wp2
    go_ret
    refine ⟨by first | rfl | (rw [e0]; rfl), ?_⟩
    repeat (first | exact bl_refl _ | assumption | apply bl_drewN | apply bl_drew | apply bl_alloc | refine bl_set ?_ (by simp <;> omega) | refine bl_trans ?_ (by assumption))
theorem rchk7 (V : Value) (n : Nat) (xs ys : Nat → Nat) (k : Int) (r : Nat) (w : World) (h : AnyS w V n xs ys) : Calls Tryz.prog 35 #[.agg #[.int .u8 k, .float .f64 r, V]] w fun e w' => e = .returned (.int .i64 (shE k r xs ys n)) ∧ Bel w w' := by
  by_cases k1 : k = 1
  · by_cases n1 : n = 1
    · subst k1 n1; exact rchk7_1 V xs ys r w h
    · exact rchk7_b V n xs ys k r w h (.inl k1) (by omega)
  by_cases k2 : k = 2
  · by_cases n1 : n = 2
    · subst k2 n1; exact rchk7_2 V xs ys r w h
    · exact rchk7_b V n xs ys k r w h (.inr k2) (by omega)
  by_cases k3 : k = 3
  · subst k3; exact rchk7_3 V n xs ys r w h
  · obtain ⟨a, c, rfl, hcc, hm, _, o, hA⟩ := id h
    have e0 : shE k r xs ys n = 70 := sh_no (by unfold kdE; simp [k1, k2, k3]) (by decide)
    go_enter Tryz.func35, Tryz.ntmps35
    go_wp2
    go_ret
    refine ⟨by first | rfl | (rw [e0]; rfl), ?_⟩
    repeat (first | exact bl_refl _ | assumption | apply bl_drewN | apply bl_drew | apply bl_alloc | refine bl_set ?_ (by simp <;> omega) | refine bl_trans ?_ (by assumption))

end Go.Proofs.YtfaiaepkmlmoaaaGreat
