/-
  What each function of package poly answers, and what the reference of its chapter answers: one contract a function, for every float: the answer stands in the relation of its formula to what was given; of the memory that was there nothing has turned.
-/
import Derived.Test.YtfaiaepkmlmoaaaGreatVec
import Derived.Test.YtfaiaepkmlmoaaaGreatRc
import Derived.Below
import Derived.OwnWalk
import Derived.WalkKit
import Derived.WalkLawsBesides
import Derived.WalkSpells
import Derived.ProofKit
import Derived.OpenShut
import Derived.Deep.RegionHeld3
namespace Go.Proofs.YtfaiaepkmlmoaaaGreat
open Go.ChangeShapes Go.WideShapes Go.ChangeAt Go.RowKit
set_option linter.unusedVariables false
set_option linter.unusedSimpArgs false


theorem fan_chk {xs ys : Nat → Nat} {n : Nat} (h : chkE xs ys n = 0) : fanE xs ys n = if ltK .f64 0 (sA xs ys (n - 3)) then 0 else 61 := by unfold fanE; rw [if_pos h]
theorem area_zero {xs ys : Nat → Nat} {n : Nat} (h : ¬ fanE xs ys n = 0) : areaE xs ys n = 0 := by unfold areaE fanA; rw [if_neg h]; decide +kernel
set_option maxHeartbeats 1000000 in
theorem rarea_d (b off n cap : Nat) (xs ys : Nat → Nat) (w : World) (sB : Sl w b off n xs ys) (o_ : Oks xs ys n) (hp : 0 < n) (hn : n ≤ maxLen) (hcap : n ≤ cap) (hr : n * 16 ≤ 140737488351232) : Calls Tryz.prog 63 #[.slice (some ⟨b, off, none⟩) n cap] w fun e w' => e = .returned (.tuple #[.float .f64 (areaE xs ys n), .int .i64 (fanE xs ys n)]) ∧ Bel w w' := by
  have CHK := rchk_some b off n cap xs ys w sB o_ hp hn hcap
  by_cases hch : chkE xs ys n = 0
  · rw [hch] at CHK
    obtain ⟨g, h3, h64, _⟩ := chk_ok o_ hch
    have c1 := cmp_gt .f64
    obtain ⟨sb, _, _⟩ := s_bd g (n - 3) (by omega) (by omega)
    have qm := fun t W => run_mul_dv Tryz.prog t (sA xs ys (n - 3)) 4602678819172646912 W sb.2.1 (by decide +kernel)
    cases hw : ltK .f64 0 (sA xs ys (n - 3))
    all_goals
      have ef := fan_chk hch
      rw [hw] at ef
      go_enter Tryz.func63, Tryz.ntmps63
      go_wp2_with (first | (go_at_call 59; refine CHK.mono ?_; rintro e w_1 ⟨rfl, B1⟩) | (go_at_call 82; refine (rsum_d b off n cap xs ys _ (sB.bel B1) g h3 h64 hcap).mono ?_; rintro e w_2 ⟨rfl, hb⟩; have B2 := bl_trans B1 hb))
    · refine bodyPost_ret (v := .tuple #[.float .f64 0, .int .i64 61]) (by simp [results, Tryz.results63, go_sem] <;> (first | exact ⟨⟨rfl, rfl⟩, rfl⟩ | exact ⟨rfl, rfl, rfl, rfl⟩ | exact ⟨rfl, rfl, rfl⟩ | exact ⟨rfl, rfl⟩ | rfl)) rfl ⟨by rw [area_zero (by rw [ef]; decide), ef]; rfl, B2⟩
    · refine bodyPost_ret (v := .tuple #[.float .f64 (Dv .mul (sA xs ys (n - 3)) 4602678819172646912), .int .i64 0]) (by simp [results, Tryz.results63, go_sem] <;> (first | exact ⟨⟨rfl, rfl⟩, rfl⟩ | exact ⟨rfl, rfl, rfl, rfl⟩ | exact ⟨rfl, rfl, rfl⟩ | exact ⟨rfl, rfl⟩ | rfl)) rfl ⟨by unfold areaE fanA; rw [ef]; rfl, B2⟩
  · obtain ⟨v, hv⟩ : ∃ v, chkE xs ys n = v := ⟨_, rfl⟩
    have ef : fanE xs ys n = v := by unfold fanE; rw [if_neg hch, hv]
    rw [hv] at CHK hch
    go_enter Tryz.func63, Tryz.ntmps63
    go_wp2_with (first | (go_at_call 59; refine CHK.mono ?_; rintro e w_1 ⟨rfl, B1⟩))
    all_goals
      refine bodyPost_ret (v := .tuple #[.float .f64 0, .int .i64 v]) (by simp [results, Tryz.results63, go_sem] <;> (first | exact ⟨⟨rfl, rfl⟩, rfl⟩ | exact ⟨rfl, rfl, rfl, rfl⟩ | exact ⟨rfl, rfl, rfl⟩ | exact ⟨rfl, rfl⟩ | rfl)) rfl ⟨by rw [area_zero (by rw [ef]; exact hch), ef], B1⟩
theorem run_add_nv (P : Program) (t : TypeId) (x y : Nat) (w : World) (hx : finK .f64 x = true) (hy : nanK .f64 y = false) : (binOp .add t (.float .f64 x) (.float .f64 y)).run P w = .ok (.float .f64 (Dv .add x y)) w := by
  obtain ⟨v, hv⟩ := Option.isSome_iff_exists.1 (some_add_num hx hy)
  rw [run_add, show fd .add .f64 x y = 0 by unfold fd; rw [hv]; rfl]
  unfold fv Dv
  rw [hv]; rfl
set_option maxHeartbeats 8000000 in
theorem rcentre_d (b off n cap : Nat) (xs ys : Nat → Nat) (w : World) (sB : Sl w b off n xs ys) (o_ : Oks xs ys n) (hp : 0 < n) (hn : n ≤ maxLen) (hcap : n ≤ cap) (hr : n * 16 ≤ 140737488351232) : Calls Tryz.prog 64 #[.slice (some ⟨b, off, none⟩) n cap] w fun e w' => e = .returned (.tuple #[.agg #[.float .f64 (cenX xs ys n), .float .f64 (cenY xs ys n)], .int .i64 (fanE xs ys n)]) ∧ Bel w w' := by
  obtain ⟨z0, z1⟩ : (w.alloc (.cells #[.float .f64 0, .float .f64 0] 32)).cell? ⟨w.heap.size, 0, none⟩ = some (.float .f64 0) ∧ (w.alloc (.cells #[.float .f64 0, .float .f64 0] 32)).cell? ⟨w.heap.size, 1, none⟩ = some (.float .f64 0) := cell_own (by simp) _ _ _
  have B0 := bl_alloc (bl_refl w) #[.float .f64 0, .float .f64 0] 32
  have AREA := rarea_d b off n cap xs ys _ (sB.bel B0) o_ hp hn hcap hr
  obtain ⟨fb1, fb2, fb3⟩ := fan_bd o_
  by_cases hz : fanE xs ys n = 0
  · rw [hz] at AREA
    have hch : chkE xs ys n = 0 := by
      by_cases h : chkE xs ys n = 0
      · exact h
      · unfold fanE at hz; rw [if_neg h] at hz; exact hz
    obtain ⟨g, h3, h64, _⟩ := chk_ok o_ hch
    obtain ⟨m1, m2⟩ := mul3_ne fb1 (by decide) (pos_mg (fan_pos hz))
    have n0 : (0 : Int) < (n : Int) := by omega
    have wn : IntKind.wrap .i64 ((n : Int) - 1) = (n : Int) - 1 := by rw [IntKind.wrap_i64]; omega
    obtain ⟨u0, u1⟩ := g 0 hp
    go_enter Tryz.func64, Tryz.ntmps64
    go_wp2_with (first | (go_at_call 63; refine AREA.mono ?_; rintro e w_1 ⟨rfl, hb⟩; have B1 := bl_trans B0 hb; replace z0 := keep hb z0; replace z1 := keep hb z1))
    clear AREA
    go_loopw [8, 6, 7] (fun i' x' y' wr => ∃ kx f fy : Nat, 1 ≤ kx ∧ kx + 1 ≤ n ∧ i' = .int .i64 kx ∧ (2 ≤ kx → sX xs ys (kx - 2) = f ∧ sY xs ys (kx - 2) = fy) ∧ x' = .float .f64 f ∧ y' = .float .f64 fy ∧ Bel w wr ∧ wr.cell? ⟨w.heap.size, 0, none⟩ = some (.float .f64 0) ∧ wr.cell? ⟨w.heap.size, 1, none⟩ = some (.float .f64 0)) (fun i' _ _ _ => n - (intOf i').toNat)
    case atStart => exact ⟨1, 0, 0, by omega, by omega, rfl, fun h => by omega, rfl, rfl, B1, z0, z1⟩
    case round =>
      clear z0 z1
      obtain ⟨kx, f, fy, hk1, hkn, rfl, hf, rfl, rfl, hB, z0, z1⟩ := hrel
      have zh := hB.size
      by_cases hlt : kx + 1 < n
      · have j1 : (kx : Int) < (n : Int) - 1 := by omega
        have j2 : (kx : Int) < (n : Int) := by omega
        have j3 : (0 : Int) ≤ (kx : Int) + 1 := by omega
        have j4 : (kx : Int) + 1 < (n : Int) := by omega
        have j5 : ((kx : Int) + 1).toNat = kx + 1 := by omega
        have wj : IntKind.wrap .i64 ((kx : Int) + 1) = (kx : Int) + 1 := by rw [IntKind.wrap_i64]; omega
        obtain ⟨v0, v1⟩ := g kx (by omega)
        obtain ⟨v2, v3⟩ := g (kx + 1) hlt
        have i1 : Bd 42 (Dv .sub (xs kx) (xs 0)) := bd_sub v0 u0 (by decide)
        have i2 : Bd 42 (Dv .sub (ys kx) (ys 0)) := bd_sub v1 u1 (by decide)
        have i3 : Bd 42 (Dv .sub (xs (kx + 1)) (xs 0)) := bd_sub v2 u0 (by decide)
        have i4 : Bd 42 (Dv .sub (ys (kx + 1)) (ys 0)) := bd_sub v3 u1 (by decide)
        obtain ⟨tb1, tb2, tb3⟩ := t_bd u0 u1 v0 v1 v2 v3
        have eA : crK (Dv .sub (xs kx) (xs 0)) (Dv .sub (ys kx) (ys 0)) (Dv .sub (xs (kx + 1)) (xs 0)) (Dv .sub (ys (kx + 1)) (ys 0)) = (tA (xs 0) (ys 0) (xs kx) (ys kx) (xs (kx + 1)) (ys (kx + 1))) := rfl
        have qx := fun t W => run_add_dv Tryz.prog t (Dv .sub (xs kx) (xs 0)) (Dv .sub (xs (kx + 1)) (xs 0)) W i1.2.1 i3.2.1
        have qy := fun t W => run_add_dv Tryz.prog t (Dv .sub (ys kx) (ys 0)) (Dv .sub (ys (kx + 1)) (ys 0)) W i2.2.1 i4.2.1
        have qu := fun t W => run_mul_dv Tryz.prog t (Dv .add (Dv .sub (xs kx) (xs 0)) (Dv .sub (xs (kx + 1)) (xs 0))) (tA (xs 0) (ys 0) (xs kx) (ys kx) (xs (kx + 1)) (ys (kx + 1))) W (bd_add i1 i3 (by decide)).2.1 tb1.2.1
        have qv := fun t W => run_mul_dv Tryz.prog t (Dv .add (Dv .sub (ys kx) (ys 0)) (Dv .sub (ys (kx + 1)) (ys 0))) (tA (xs 0) (ys 0) (xs kx) (ys kx) (xs (kx + 1)) (ys (kx + 1))) W (bd_add i2 i4 (by decide)).2.1 tb1.2.1
        have eX : Dv .mul (Dv .add (Dv .sub (xs kx) (xs 0)) (Dv .sub (xs (kx + 1)) (xs 0))) (tA (xs 0) (ys 0) (xs kx) (ys kx) (xs (kx + 1)) (ys (kx + 1))) = (tX (xs 0) (ys 0) (xs kx) (ys kx) (xs (kx + 1)) (ys (kx + 1))) := rfl
        have eY : Dv .mul (Dv .add (Dv .sub (ys kx) (ys 0)) (Dv .sub (ys (kx + 1)) (ys 0))) (tA (xs 0) (ys 0) (xs kx) (ys kx) (xs (kx + 1)) (ys (kx + 1))) = (tY (xs 0) (ys 0) (xs kx) (ys kx) (xs (kx + 1)) (ys (kx + 1))) := rfl
        go_wp2
        refine wp_region_multiA 9 (fun i v => match i with | 0 => v = .slice (some ⟨b, off, none⟩) n cap | 1 => v = .pointer (some ⟨b, off, none⟩) | 2 => v = .agg #[.float .f64 (xs 0), .float .f64 (ys 0)] | 3 => v = .slice (some ⟨b, off, none⟩) n cap | 4 => v = .int .i64 (kx : Int) | 5 => v = .pointer (some ⟨b, off + kx * 2, none⟩) | 6 => v = .agg #[.float .f64 (xs kx), .float .f64 (ys kx)] | 7 => v = .agg #[.float .f64 (Dv .sub (xs kx) (xs 0)), .float .f64 (Dv .sub (ys kx) (ys 0))] | 8 => ∃ b, v = .pointer (some ⟨b, 0, none⟩) | _ => False) (fun i => match i with | 8 => some (Obj.cells #[.float .f64 0, .float .f64 0] 32) | _ => none) ?A_wf (by kernel_rfl) (by kernel_rfl) ?hA_wf ?ha_wf ?hq_wf [9] rfl ?ht_wf
        case hA_wf =>
          intro s
          simp only [putL, dstO, Act.put, List.getElem?_toArray, List.getElem?_cons_zero, List.getElem?_cons_succ, Option.bind_some, List.setIfInBounds_toArray, List.set_cons_zero, List.set_cons_succ, if_true]
          all_goals exact rfl
        case ha_wf =>
          intro i o ob hi ho hal
          rcases (show i = 0 ∨ i = 1 ∨ i = 2 ∨ i = 3 ∨ i = 4 ∨ i = 5 ∨ i = 6 ∨ i = 7 ∨ i = 8 by omega) with rfl | rfl | rfl | rfl | rfl | rfl | rfl | rfl | rfl
          · cases hal
          · cases hal
          · cases hal
          · cases hal
          · cases hal
          · cases hal
          · cases hal
          · cases hal
          · cases ho; cases hal; exact ⟨fun v hv => ⟨_, hv.choose_spec.2⟩, ⟨_, _, rfl⟩, fun A W => by go_simp⟩
        case hq_wf =>
          intro i o hi ho hal s hs W hb K hK
          obtain ⟨y0, y1⟩ := (sB.bel (bl_trans hB hb)) 0 hp; simp only [Nat.zero_mul, Nat.add_zero] at y0 y1; obtain ⟨y2, y3⟩ := (sB.bel (bl_trans hB hb)) kx (by omega)
          rcases (show i = 0 ∨ i = 1 ∨ i = 2 ∨ i = 3 ∨ i = 4 ∨ i = 5 ∨ i = 6 ∨ i = 7 ∨ i = 8 by omega) with rfl | rfl | rfl | rfl | rfl | rfl | rfl | rfl | rfl
          · cases ho
            simp only [Act.put, List.setIfInBounds_toArray, List.set_cons_zero, List.set_cons_succ] at hK
            clear hs
            go_simp
            all_goals (try go_wp2_with (first | (go_at_call 83; refine (lead_d _ _ _ _ _ (by with_reducible assumption) (by with_reducible assumption) (by with_reducible assumption) (by with_reducible assumption)).mono ?_; rintro e w1 ⟨rfl, hb1⟩)))
            all_goals first | exact hK.out _ _ rfl (bl_refl _) | exact hK.out _ _ rfl (by assumption) | exact hK.out _ _ (by assumption) (by assumption)
          · cases ho
            have e0 : s 0 = _ := hs 0 (by decide) (by kernel_rfl)
            simp only [e0] at hK ⊢
            simp only [Act.put, List.setIfInBounds_toArray, List.set_cons_zero, List.set_cons_succ] at hK
            clear hs
            go_simp
            all_goals (try go_wp2_with (first | (go_at_call 83; refine (lead_d _ _ _ _ _ (by with_reducible assumption) (by with_reducible assumption) (by with_reducible assumption) (by with_reducible assumption)).mono ?_; rintro e w1 ⟨rfl, hb1⟩)))
            all_goals first | exact hK.out _ _ rfl (bl_refl _) | exact hK.out _ _ rfl (by assumption) | exact hK.out _ _ (by assumption) (by assumption)
          · cases ho
            have e1 : s 1 = _ := hs 1 (by decide) (by kernel_rfl)
            simp only [e1] at hK ⊢
            simp only [Act.put, List.setIfInBounds_toArray, List.set_cons_zero, List.set_cons_succ] at hK
            clear hs
            go_simp
            all_goals (try go_wp2_with (first | (go_at_call 83; refine (lead_d _ _ _ _ _ (by with_reducible assumption) (by with_reducible assumption) (by with_reducible assumption) (by with_reducible assumption)).mono ?_; rintro e w1 ⟨rfl, hb1⟩)))
            all_goals first | exact hK.out _ _ rfl (bl_refl _) | exact hK.out _ _ rfl (by assumption) | exact hK.out _ _ (by assumption) (by assumption)
          · cases ho
            simp only [Act.put, List.setIfInBounds_toArray, List.set_cons_zero, List.set_cons_succ] at hK
            clear hs
            go_simp
            all_goals (try go_wp2_with (first | (go_at_call 83; refine (lead_d _ _ _ _ _ (by with_reducible assumption) (by with_reducible assumption) (by with_reducible assumption) (by with_reducible assumption)).mono ?_; rintro e w1 ⟨rfl, hb1⟩)))
            all_goals first | exact hK.out _ _ rfl (bl_refl _) | exact hK.out _ _ rfl (by assumption) | exact hK.out _ _ (by assumption) (by assumption)
          · cases ho
            simp only [Act.put, List.setIfInBounds_toArray, List.set_cons_zero, List.set_cons_succ] at hK
            clear hs
            go_simp
            all_goals (try go_wp2_with (first | (go_at_call 83; refine (lead_d _ _ _ _ _ (by with_reducible assumption) (by with_reducible assumption) (by with_reducible assumption) (by with_reducible assumption)).mono ?_; rintro e w1 ⟨rfl, hb1⟩)))
            all_goals first | exact hK.out _ _ rfl (bl_refl _) | exact hK.out _ _ rfl (by assumption) | exact hK.out _ _ (by assumption) (by assumption)
          · cases ho
            have e3 : s 3 = _ := hs 3 (by decide) (by kernel_rfl)
            have e4 : s 4 = _ := hs 4 (by decide) (by kernel_rfl)
            simp only [e3, e4] at hK ⊢
            simp only [Act.put, List.setIfInBounds_toArray, List.set_cons_zero, List.set_cons_succ] at hK
            clear hs
            go_simp
            all_goals (try go_wp2_with (first | (go_at_call 83; refine (lead_d _ _ _ _ _ (by with_reducible assumption) (by with_reducible assumption) (by with_reducible assumption) (by with_reducible assumption)).mono ?_; rintro e w1 ⟨rfl, hb1⟩)))
            all_goals first | exact hK.out _ _ rfl (bl_refl _) | exact hK.out _ _ rfl (by assumption) | exact hK.out _ _ (by assumption) (by assumption)
          · cases ho
            have e5 : s 5 = _ := hs 5 (by decide) (by kernel_rfl)
            simp only [e5] at hK ⊢
            simp only [Act.put, List.setIfInBounds_toArray, List.set_cons_zero, List.set_cons_succ] at hK
            clear hs
            go_simp
            all_goals (try go_wp2_with (first | (go_at_call 83; refine (lead_d _ _ _ _ _ (by with_reducible assumption) (by with_reducible assumption) (by with_reducible assumption) (by with_reducible assumption)).mono ?_; rintro e w1 ⟨rfl, hb1⟩)))
            all_goals first | exact hK.out _ _ rfl (bl_refl _) | exact hK.out _ _ rfl (by assumption) | exact hK.out _ _ (by assumption) (by assumption)
          · cases ho
            have e2 : s 2 = _ := hs 2 (by decide) (by kernel_rfl)
            have e6 : s 6 = _ := hs 6 (by decide) (by kernel_rfl)
            simp only [e2, e6] at hK ⊢
            simp only [Act.put, List.setIfInBounds_toArray, List.set_cons_zero, List.set_cons_succ] at hK
            clear hs
            go_simp
            all_goals (try go_wp2_with (first | (go_at_call 83; refine (lead_d _ _ _ _ _ (by with_reducible assumption) (by with_reducible assumption) (by with_reducible assumption) (by with_reducible assumption)).mono ?_; rintro e w1 ⟨rfl, hb1⟩)))
            all_goals first | exact hK.out _ _ rfl (bl_refl _) | exact hK.out _ _ rfl (by assumption) | exact hK.out _ _ (by assumption) (by assumption)
          · cases hal
        case ht_wf =>
          intro s hs W hb hJ
          have e0 : s 0 = _ := hs 0 (by decide)
          have e1 : s 1 = _ := hs 1 (by decide)
          have e2 : s 2 = _ := hs 2 (by decide)
          have e3 : s 3 = _ := hs 3 (by decide)
          have e4 : s 4 = _ := hs 4 (by decide)
          have e5 : s 5 = _ := hs 5 (by decide)
          have e6 : s 6 = _ := hs 6 (by decide)
          have e7 : s 7 = _ := hs 7 (by decide)
          obtain ⟨p8, e8, n8, h8⟩ := laid_at hJ 8 (by decide) rfl
          have c80 : W.cell? ⟨p8, 0, none⟩ = some (.float .f64 0) := heap_cell h8 rfl
          have c81 : W.cell? ⟨p8, 1, none⟩ = some (.float .f64 0) := heap_cell h8 rfl
          have f8 := fun k => heap_frozen (i := k) h8
          simp only [e0, e1, e2, e3, e4, e5, e6, e7, e8]
          clear hs
          refine tail_step rfl (fun K hK => ?_)
          go_simp
          refine hK.out _ _ ?_
          clear hK K
          refine tail_end ?_
          (try simp at n8)
          have BW : Bel w W := by refine bl_trans (b := _) ?_ hb; repeat (first | exact hB | apply bl_alloc | apply bl_drew)
          have BW0 := BW
          have ol0 := World.block_lt_of_cell? _ _ z0
          have od0 := keep hb z0
          have ol1 := World.block_lt_of_cell? _ _ z1
          have od1 := keep hb z1
          simp only at ol0 ol1
          obtain ⟨wf, hN, d80, d81, fr0, bN⟩ := put2_all (p := .float .f64 (Dv .sub (xs kx) (xs 0))) (q := .float .f64 (Dv .sub (ys kx) (ys 0))) c80 c81
          rw [← hN]
          replace BW := bN w BW (by omega)
          replace od0 := (fr0 (w.heap.size) 0 (.inl (by omega))).trans od0
          replace od1 := (fr0 (w.heap.size) 1 (.inl (by omega))).trans od1
          clear hN fr0 bN
          have k_p8_0 : wf.cell? ⟨p8, 0, none⟩ = some (.float .f64 (Dv .sub (xs kx) (xs 0))) := d80
          have k_p8_1 : wf.cell? ⟨p8, 1, none⟩ = some (.float .f64 (Dv .sub (ys kx) (ys 0))) := d81
          clear d80 d81
          replace z0 := od0
          replace z1 := od1
          clear od0
          clear od1
          have l8 : p8 < wf.heap.size := World.block_lt_of_cell? wf _ k_p8_0
          have z_p8 := fun k => (BW.2 _).trans ((BW0.2 ⟨p8, k, none⟩).symm.trans (f8 k))
          have B := hide BW
          clear BW BW0 hJ h8 f8 e0 e1 e2 e3 e4 e5 e6 e7 e8
          have Bf := unhide B
          clear B z_p8
          have zf := Bf.size
          go_wp2
          refine wp_region_multiA 10 (fun i v => match i with | 0 => v = .slice (some ⟨b, off, none⟩) n cap | 1 => v = .pointer (some ⟨b, off, none⟩) | 2 => v = .agg #[.float .f64 (xs 0), .float .f64 (ys 0)] | 3 => v = .slice (some ⟨b, off, none⟩) n cap | 4 => v = .int .i64 (kx : Int) | 5 => v = .int .i64 ((kx : Int) + 1) | 6 => v = .pointer (some ⟨b, off + (kx + 1) * 2, none⟩) | 7 => v = .agg #[.float .f64 (xs (kx + 1)), .float .f64 (ys (kx + 1))] | 8 => v = .agg #[.float .f64 (Dv .sub (xs (kx + 1)) (xs 0)), .float .f64 (Dv .sub (ys (kx + 1)) (ys 0))] | 9 => ∃ b, v = .pointer (some ⟨b, 0, none⟩) | _ => False) (fun i => match i with | 9 => some (Obj.cells #[.float .f64 0, .float .f64 0] 32) | _ => none) ?A_wg (by kernel_rfl) (by kernel_rfl) ?hA_wg ?ha_wg ?hq_wg [10] rfl ?ht_wg
          case hA_wg =>
            intro s
            simp only [putL, dstO, Act.put, List.getElem?_toArray, List.getElem?_cons_zero, List.getElem?_cons_succ, Option.bind_some, List.setIfInBounds_toArray, List.set_cons_zero, List.set_cons_succ, if_true]
            all_goals exact rfl
          case ha_wg =>
            intro i o ob hi ho hal
            rcases (show i = 0 ∨ i = 1 ∨ i = 2 ∨ i = 3 ∨ i = 4 ∨ i = 5 ∨ i = 6 ∨ i = 7 ∨ i = 8 ∨ i = 9 by omega) with rfl | rfl | rfl | rfl | rfl | rfl | rfl | rfl | rfl | rfl
            · cases hal
            · cases hal
            · cases hal
            · cases hal
            · cases hal
            · cases hal
            · cases hal
            · cases hal
            · cases hal
            · cases ho; cases hal; exact ⟨fun v hv => ⟨_, hv.choose_spec.2⟩, ⟨_, _, rfl⟩, fun A W => by go_simp⟩
          case hq_wg =>
            intro i o hi ho hal s hs W hb K hK
            obtain ⟨y0, y1⟩ := (sB.bel (bl_trans Bf hb)) 0 hp; simp only [Nat.zero_mul, Nat.add_zero] at y0 y1; obtain ⟨y4, y5⟩ := (sB.bel (bl_trans Bf hb)) (kx + 1) hlt
            rcases (show i = 0 ∨ i = 1 ∨ i = 2 ∨ i = 3 ∨ i = 4 ∨ i = 5 ∨ i = 6 ∨ i = 7 ∨ i = 8 ∨ i = 9 by omega) with rfl | rfl | rfl | rfl | rfl | rfl | rfl | rfl | rfl | rfl
            · cases ho
              simp only [Act.put, List.setIfInBounds_toArray, List.set_cons_zero, List.set_cons_succ] at hK
              clear hs
              go_simp
              all_goals (try go_wp2_with (first | (go_at_call 83; refine (lead_d _ _ _ _ _ (by with_reducible assumption) (by with_reducible assumption) (by with_reducible assumption) (by with_reducible assumption)).mono ?_; rintro e w1 ⟨rfl, hb1⟩)))
              all_goals first | exact hK.out _ _ rfl (bl_refl _) | exact hK.out _ _ rfl (by assumption) | exact hK.out _ _ (by assumption) (by assumption)
            · cases ho
              have e0 : s 0 = _ := hs 0 (by decide) (by kernel_rfl)
              simp only [e0] at hK ⊢
              simp only [Act.put, List.setIfInBounds_toArray, List.set_cons_zero, List.set_cons_succ] at hK
              clear hs
              go_simp
              all_goals (try go_wp2_with (first | (go_at_call 83; refine (lead_d _ _ _ _ _ (by with_reducible assumption) (by with_reducible assumption) (by with_reducible assumption) (by with_reducible assumption)).mono ?_; rintro e w1 ⟨rfl, hb1⟩)))
              all_goals first | exact hK.out _ _ rfl (bl_refl _) | exact hK.out _ _ rfl (by assumption) | exact hK.out _ _ (by assumption) (by assumption)
            · cases ho
              have e1 : s 1 = _ := hs 1 (by decide) (by kernel_rfl)
              simp only [e1] at hK ⊢
              simp only [Act.put, List.setIfInBounds_toArray, List.set_cons_zero, List.set_cons_succ] at hK
              clear hs
              go_simp
              all_goals (try go_wp2_with (first | (go_at_call 83; refine (lead_d _ _ _ _ _ (by with_reducible assumption) (by with_reducible assumption) (by with_reducible assumption) (by with_reducible assumption)).mono ?_; rintro e w1 ⟨rfl, hb1⟩)))
              all_goals first | exact hK.out _ _ rfl (bl_refl _) | exact hK.out _ _ rfl (by assumption) | exact hK.out _ _ (by assumption) (by assumption)
            · cases ho
              simp only [Act.put, List.setIfInBounds_toArray, List.set_cons_zero, List.set_cons_succ] at hK
              clear hs
              go_simp
              all_goals (try go_wp2_with (first | (go_at_call 83; refine (lead_d _ _ _ _ _ (by with_reducible assumption) (by with_reducible assumption) (by with_reducible assumption) (by with_reducible assumption)).mono ?_; rintro e w1 ⟨rfl, hb1⟩)))
              all_goals first | exact hK.out _ _ rfl (bl_refl _) | exact hK.out _ _ rfl (by assumption) | exact hK.out _ _ (by assumption) (by assumption)
            · cases ho
              simp only [Act.put, List.setIfInBounds_toArray, List.set_cons_zero, List.set_cons_succ] at hK
              clear hs
              go_simp
              all_goals (try go_wp2_with (first | (go_at_call 83; refine (lead_d _ _ _ _ _ (by with_reducible assumption) (by with_reducible assumption) (by with_reducible assumption) (by with_reducible assumption)).mono ?_; rintro e w1 ⟨rfl, hb1⟩)))
              all_goals first | exact hK.out _ _ rfl (bl_refl _) | exact hK.out _ _ rfl (by assumption) | exact hK.out _ _ (by assumption) (by assumption)
            · cases ho
              have e4 : s 4 = _ := hs 4 (by decide) (by kernel_rfl)
              simp only [e4] at hK ⊢
              simp only [Act.put, List.setIfInBounds_toArray, List.set_cons_zero, List.set_cons_succ] at hK
              clear hs
              go_simp
              all_goals (try go_wp2_with (first | (go_at_call 83; refine (lead_d _ _ _ _ _ (by with_reducible assumption) (by with_reducible assumption) (by with_reducible assumption) (by with_reducible assumption)).mono ?_; rintro e w1 ⟨rfl, hb1⟩)))
              all_goals first | exact hK.out _ _ rfl (bl_refl _) | exact hK.out _ _ rfl (by assumption) | exact hK.out _ _ (by assumption) (by assumption)
            · cases ho
              have e3 : s 3 = _ := hs 3 (by decide) (by kernel_rfl)
              have e5 : s 5 = _ := hs 5 (by decide) (by kernel_rfl)
              simp only [e3, e5] at hK ⊢
              simp only [Act.put, List.setIfInBounds_toArray, List.set_cons_zero, List.set_cons_succ] at hK
              clear hs
              go_simp
              all_goals (try go_wp2_with (first | (go_at_call 83; refine (lead_d _ _ _ _ _ (by with_reducible assumption) (by with_reducible assumption) (by with_reducible assumption) (by with_reducible assumption)).mono ?_; rintro e w1 ⟨rfl, hb1⟩)))
              all_goals first | exact hK.out _ _ rfl (bl_refl _) | exact hK.out _ _ rfl (by assumption) | exact hK.out _ _ (by assumption) (by assumption)
            · cases ho
              have e6 : s 6 = _ := hs 6 (by decide) (by kernel_rfl)
              simp only [e6] at hK ⊢
              simp only [Act.put, List.setIfInBounds_toArray, List.set_cons_zero, List.set_cons_succ] at hK
              clear hs
              go_simp
              all_goals (try go_wp2_with (first | (go_at_call 83; refine (lead_d _ _ _ _ _ (by with_reducible assumption) (by with_reducible assumption) (by with_reducible assumption) (by with_reducible assumption)).mono ?_; rintro e w1 ⟨rfl, hb1⟩)))
              all_goals first | exact hK.out _ _ rfl (bl_refl _) | exact hK.out _ _ rfl (by assumption) | exact hK.out _ _ (by assumption) (by assumption)
            · cases ho
              have e2 : s 2 = _ := hs 2 (by decide) (by kernel_rfl)
              have e7 : s 7 = _ := hs 7 (by decide) (by kernel_rfl)
              simp only [e2, e7] at hK ⊢
              simp only [Act.put, List.setIfInBounds_toArray, List.set_cons_zero, List.set_cons_succ] at hK
              clear hs
              go_simp
              all_goals (try go_wp2_with (first | (go_at_call 83; refine (lead_d _ _ _ _ _ (by with_reducible assumption) (by with_reducible assumption) (by with_reducible assumption) (by with_reducible assumption)).mono ?_; rintro e w1 ⟨rfl, hb1⟩)))
              all_goals first | exact hK.out _ _ rfl (bl_refl _) | exact hK.out _ _ rfl (by assumption) | exact hK.out _ _ (by assumption) (by assumption)
            · cases hal
          case ht_wg =>
            intro s hs W hb hJ
            have e0 : s 0 = _ := hs 0 (by decide)
            have e1 : s 1 = _ := hs 1 (by decide)
            have e2 : s 2 = _ := hs 2 (by decide)
            have e3 : s 3 = _ := hs 3 (by decide)
            have e4 : s 4 = _ := hs 4 (by decide)
            have e5 : s 5 = _ := hs 5 (by decide)
            have e6 : s 6 = _ := hs 6 (by decide)
            have e7 : s 7 = _ := hs 7 (by decide)
            have e8 : s 8 = _ := hs 8 (by decide)
            obtain ⟨p9, e9, n9, h9⟩ := laid_at hJ 9 (by decide) rfl
            have c90 : W.cell? ⟨p9, 0, none⟩ = some (.float .f64 0) := heap_cell h9 rfl
            have c91 : W.cell? ⟨p9, 1, none⟩ = some (.float .f64 0) := heap_cell h9 rfl
            have f9 := fun k => heap_frozen (i := k) h9
            simp only [e0, e1, e2, e3, e4, e5, e6, e7, e8, e9]
            clear hs
            refine tail_step rfl (fun K hK => ?_)
            go_simp
            refine hK.out _ _ ?_
            clear hK K
            refine tail_end ?_
            (try simp at n9)
            have BW : Bel w W := by refine bl_trans (b := _) ?_ hb; repeat (first | exact Bf | apply bl_alloc | apply bl_drew)
            have BW0 := BW
            have ol0 := World.block_lt_of_cell? _ _ z0
            have od0 := keep hb z0
            have ol1 := World.block_lt_of_cell? _ _ z1
            have od1 := keep hb z1
            have ol2 := World.block_lt_of_cell? _ _ k_p8_0
            have od2 := keep hb k_p8_0
            have ol3 := World.block_lt_of_cell? _ _ k_p8_1
            have od3 := keep hb k_p8_1
            simp only at ol0 ol1 ol2 ol3
            obtain ⟨wg, hN, d90, d91, fr0, bN⟩ := put2_all (p := .float .f64 (Dv .sub (xs (kx + 1)) (xs 0))) (q := .float .f64 (Dv .sub (ys (kx + 1)) (ys 0))) c90 c91
            rw [← hN]
            replace BW := bN w BW (by omega)
            replace od0 := (fr0 (w.heap.size) 0 (.inl (by omega))).trans od0
            replace od1 := (fr0 (w.heap.size) 1 (.inl (by omega))).trans od1
            replace od2 := (fr0 (p8) 0 (.inl (by omega))).trans od2
            replace od3 := (fr0 (p8) 1 (.inl (by omega))).trans od3
            clear hN fr0 bN
            have k_p9_0 : wg.cell? ⟨p9, 0, none⟩ = some (.float .f64 (Dv .sub (xs (kx + 1)) (xs 0))) := d90
            have k_p9_1 : wg.cell? ⟨p9, 1, none⟩ = some (.float .f64 (Dv .sub (ys (kx + 1)) (ys 0))) := d91
            clear d90 d91
            replace z0 := od0
            replace z1 := od1
            replace k_p8_0 := od2
            replace k_p8_1 := od3
            clear od0
            clear od1
            clear od2
            clear od3
            have l9 : p9 < wg.heap.size := World.block_lt_of_cell? wg _ k_p9_0
            have z_p9 := fun k => (BW.2 _).trans ((BW0.2 ⟨p9, k, none⟩).symm.trans (f9 k))
            have B := hide BW
            clear BW BW0 hJ h9 f9 e0 e1 e2 e3 e4 e5 e6 e7 e8 e9
            have Bg := unhide B
            clear B
            by_cases h1 : kx = 1
            · have x1 : ((kx : Int) == 1) = true := by simp; omega
              have h1' := hide h1
              clear h1
              go_wp2_with (first | (go_at_call 65; refine (rCross_d _ (by with_reducible assumption) (by with_reducible assumption) (by with_reducible assumption) (by with_reducible assumption) (by decide)).mono ?_; rintro e w_9 ⟨rfl, hb⟩; have B9 := bl_trans Bg hb; have a0 := keep hb k_p8_0; have a1 := keep hb k_p8_1; have a2 := keep hb k_p9_0; have a3 := keep hb k_p9_1; have y0 := keep hb z0; have y1 := keep hb z1; rw [eA]))
              refine ⟨⟨kx + 1, _, _, by omega, by omega, by go_num, fun _ => ?_, rfl, rfl, B9, y0, y1⟩, by simp [intOf]; omega⟩
              have h1 := unhide h1'
              subst h1
              exact ⟨rfl, rfl⟩
            · have x1 : ((kx : Int) == 1) = false := by simp; omega
              have x2 : ¬ (kx : Int) = 1 := by omega
              obtain ⟨_, sb1, sb2⟩ := s_bd g (kx - 2) (by omega) (by omega)
              obtain ⟨e1, e2⟩ := hf (by omega)
              rw [e1] at sb1
              rw [e2] at sb2
              have qf := fun t W => run_add_dv Tryz.prog t f (tX (xs 0) (ys 0) (xs kx) (ys kx) (xs (kx + 1)) (ys (kx + 1))) W sb1.2.1 tb2.2.1
              have qh := fun t W => run_add_dv Tryz.prog t fy (tY (xs 0) (ys 0) (xs kx) (ys kx) (xs (kx + 1)) (ys (kx + 1))) W sb2.2.1 tb3.2.1
              go_wp2_with (first | (go_at_call 65; refine (rCross_d _ (by with_reducible assumption) (by with_reducible assumption) (by with_reducible assumption) (by with_reducible assumption) (by decide)).mono ?_; rintro e w_9 ⟨rfl, hb⟩; have B9 := bl_trans Bg hb; have a0 := keep hb k_p8_0; have a1 := keep hb k_p8_1; have a2 := keep hb k_p9_0; have a3 := keep hb k_p9_1; have y0 := keep hb z0; have y1 := keep hb z1; rw [eA]))
              refine ⟨⟨kx + 1, _, _, by omega, by omega, by go_num, fun _ => ?_, rfl, rfl, B9, y0, y1⟩, by simp [intOf]; omega⟩
              rw [show kx + 1 - 2 = (kx - 2) + 1 by omega]
              refine ⟨?_, ?_⟩
              · show Dv .add (sX xs ys (kx - 2)) _ = _
                rw [e1, show kx - 2 + 2 = kx by omega, show kx - 2 + 3 = kx + 1 by omega]
              · show Dv .add (sY xs ys (kx - 2)) _ = _
                rw [e2, show kx - 2 + 2 = kx by omega, show kx - 2 + 3 = kx + 1 by omega]
      · have j1 : ¬ (kx : Int) < (n : Int) - 1 := by omega
        obtain ⟨e1, e2⟩ := hf (by omega)
        have hk3 : kx - 2 = n - 3 := by omega
        have eX : fanX xs ys n = f := by unfold fanX; rw [if_pos hz, ← hk3]; exact e1
        have eY : fanY xs ys n = fy := by unfold fanY; rw [if_pos hz, ← hk3]; exact e2
        have eF : fanA xs ys n = sA xs ys (n - 3) := by unfold fanA; rw [if_pos hz]
        rw [eX] at fb2
        rw [eY] at fb3
        have v1 := (g 0 hp).1.2.1
        have v2 := (g 0 hp).2.2.1
        have v3 := quo_num fb2.2.1 m2.2.1 m1
        have v4 := quo_num fb3.2.1 m2.2.1 m1
        have qm : ∀ t W, (binOp .mul t (.float .f64 4613937818241073152) (.float .f64 (sA xs ys (n - 3)))).run Tryz.prog W = .ok (.float .f64 (fanB xs ys n)) W := fun t W => by
          unfold fanB
          rw [eF]
          exact run_mul_dv Tryz.prog t 4613937818241073152 (sA xs ys (n - 3)) W (by decide +kernel) (by rw [← eF]; exact fb1.2.1)
        have q1 := fun t W => run_quo_dv Tryz.prog t f (fanB xs ys n) W fb2.2.1 m2.2.1 m1
        have q2 := fun t W => run_quo_dv Tryz.prog t fy (fanB xs ys n) W fb3.2.1 m2.2.1 m1
        have q3 := fun t W => run_add_nv Tryz.prog t (xs 0) (Dv .quo f (fanB xs ys n)) W v1 v3
        have q4 := fun t W => run_add_nv Tryz.prog t (ys 0) (Dv .quo fy (fanB xs ys n)) W v2 v4
        go_wp2_with (first | (go_at_call 82; refine (rsum_d b off n cap xs ys _ (sB.bel hB) g h3 h64 hcap).mono ?_; rintro e w_8 ⟨rfl, hb⟩; have B8 := bl_trans hB hb; replace z0 := keep hb z0; replace z1 := keep hb z1))
        refine wp_region_multiA 17 (fun i v => match i with | 0 => v = .slice (some ⟨b, off, none⟩) n cap | 1 => v = .pointer (some ⟨b, off, none⟩) | 2 => v = .pointer (some ⟨b, off, none⟩) | 3 => v = .float .f64 (xs 0) | 4 => v = .float .f64 f | 5 => v = .float .f64 (fanB xs ys n) | 6 => v = .float .f64 (Dv .quo f (fanB xs ys n)) | 7 => v = .float .f64 (Dv .add (xs 0) (Dv .quo f (fanB xs ys n))) | 8 => v = .slice (some ⟨b, off, none⟩) n cap | 9 => v = .pointer (some ⟨b, off, none⟩) | 10 => v = .pointer (some ⟨b, off + 1, none⟩) | 11 => v = .float .f64 (ys 0) | 12 => v = .float .f64 fy | 13 => v = .float .f64 (fanB xs ys n) | 14 => v = .float .f64 (Dv .quo fy (fanB xs ys n)) | 15 => v = .float .f64 (Dv .add (ys 0) (Dv .quo fy (fanB xs ys n))) | 16 => v = .agg #[.float .f64 (Dv .add (xs 0) (Dv .quo f (fanB xs ys n))), .float .f64 (Dv .add (ys 0) (Dv .quo fy (fanB xs ys n)))] | _ => False) (fun i => match i with  | _ => none) ?A_wh (by kernel_rfl) (by kernel_rfl) ?hA_wh ?ha_wh ?hq_wh [17, 18] rfl ?ht_wh
        case hA_wh =>
          intro s
          simp only [putL, dstO, Act.put, List.getElem?_toArray, List.getElem?_cons_zero, List.getElem?_cons_succ, Option.bind_some, List.setIfInBounds_toArray, List.set_cons_zero, List.set_cons_succ, if_true]
          all_goals exact rfl
        case ha_wh =>
          intro i o ob hi ho hal
          rcases (show i = 0 ∨ i = 1 ∨ i = 2 ∨ i = 3 ∨ i = 4 ∨ i = 5 ∨ i = 6 ∨ i = 7 ∨ i = 8 ∨ i = 9 ∨ i = 10 ∨ i = 11 ∨ i = 12 ∨ i = 13 ∨ i = 14 ∨ i = 15 ∨ i = 16 by omega) with rfl | rfl | rfl | rfl | rfl | rfl | rfl | rfl | rfl | rfl | rfl | rfl | rfl | rfl | rfl | rfl | rfl
          · cases hal
          · cases hal
          · cases hal
          · cases hal
          · cases hal
          · cases hal
          · cases hal
          · cases hal
          · cases hal
          · cases hal
          · cases hal
          · cases hal
          · cases hal
          · cases hal
          · cases hal
          · cases hal
          · cases hal
        case hq_wh =>
          intro i o hi ho hal s hs W hb K hK
          obtain ⟨y0, y1⟩ := (sB.bel (bl_trans B8 hb)) 0 hp; simp only [Nat.zero_mul, Nat.add_zero] at y0 y1
          rcases (show i = 0 ∨ i = 1 ∨ i = 2 ∨ i = 3 ∨ i = 4 ∨ i = 5 ∨ i = 6 ∨ i = 7 ∨ i = 8 ∨ i = 9 ∨ i = 10 ∨ i = 11 ∨ i = 12 ∨ i = 13 ∨ i = 14 ∨ i = 15 ∨ i = 16 by omega) with rfl | rfl | rfl | rfl | rfl | rfl | rfl | rfl | rfl | rfl | rfl | rfl | rfl | rfl | rfl | rfl | rfl
          · cases ho
            simp only [Act.put, List.setIfInBounds_toArray, List.set_cons_zero, List.set_cons_succ] at hK
            clear hs
            go_simp
            all_goals (try go_wp2_with (first | fail))
            all_goals first | exact hK.out _ _ rfl (bl_refl _) | exact hK.out _ _ rfl (by assumption) | exact hK.out _ _ (by assumption) (by assumption)
          · cases ho
            have e0 : s 0 = _ := hs 0 (by decide) (by kernel_rfl)
            simp only [e0] at hK ⊢
            simp only [Act.put, List.setIfInBounds_toArray, List.set_cons_zero, List.set_cons_succ] at hK
            clear hs
            go_simp
            all_goals (try go_wp2_with (first | fail))
            all_goals first | exact hK.out _ _ rfl (bl_refl _) | exact hK.out _ _ rfl (by assumption) | exact hK.out _ _ (by assumption) (by assumption)
          · cases ho
            have e1 : s 1 = _ := hs 1 (by decide) (by kernel_rfl)
            simp only [e1] at hK ⊢
            simp only [Act.put, List.setIfInBounds_toArray, List.set_cons_zero, List.set_cons_succ] at hK
            clear hs
            go_simp
            all_goals (try go_wp2_with (first | fail))
            all_goals first | exact hK.out _ _ rfl (bl_refl _) | exact hK.out _ _ rfl (by assumption) | exact hK.out _ _ (by assumption) (by assumption)
          · cases ho
            have e2 : s 2 = _ := hs 2 (by decide) (by kernel_rfl)
            simp only [e2] at hK ⊢
            simp only [Act.put, List.setIfInBounds_toArray, List.set_cons_zero, List.set_cons_succ] at hK
            clear hs
            go_simp
            all_goals (try go_wp2_with (first | fail))
            all_goals first | exact hK.out _ _ rfl (bl_refl _) | exact hK.out _ _ rfl (by assumption) | exact hK.out _ _ (by assumption) (by assumption)
          · cases ho
            simp only [Act.put, List.setIfInBounds_toArray, List.set_cons_zero, List.set_cons_succ] at hK
            clear hs
            go_simp
            all_goals (try go_wp2_with (first | fail))
            all_goals first | exact hK.out _ _ rfl (bl_refl _) | exact hK.out _ _ rfl (by assumption) | exact hK.out _ _ (by assumption) (by assumption)
          · cases ho
            simp only [Act.put, List.setIfInBounds_toArray, List.set_cons_zero, List.set_cons_succ] at hK
            clear hs
            go_simp
            all_goals (try go_wp2_with (first | fail))
            all_goals first | exact hK.out _ _ rfl (bl_refl _) | exact hK.out _ _ rfl (by assumption) | exact hK.out _ _ (by assumption) (by assumption)
          · cases ho
            have e4 : s 4 = _ := hs 4 (by decide) (by kernel_rfl)
            have e5 : s 5 = _ := hs 5 (by decide) (by kernel_rfl)
            simp only [e4, e5] at hK ⊢
            simp only [Act.put, List.setIfInBounds_toArray, List.set_cons_zero, List.set_cons_succ] at hK
            clear hs
            go_simp
            all_goals (try go_wp2_with (first | fail))
            all_goals first | exact hK.out _ _ rfl (bl_refl _) | exact hK.out _ _ rfl (by assumption) | exact hK.out _ _ (by assumption) (by assumption)
          · cases ho
            have e3 : s 3 = _ := hs 3 (by decide) (by kernel_rfl)
            have e6 : s 6 = _ := hs 6 (by decide) (by kernel_rfl)
            simp only [e3, e6] at hK ⊢
            simp only [Act.put, List.setIfInBounds_toArray, List.set_cons_zero, List.set_cons_succ] at hK
            clear hs
            go_simp
            all_goals (try go_wp2_with (first | fail))
            all_goals first | exact hK.out _ _ rfl (bl_refl _) | exact hK.out _ _ rfl (by assumption) | exact hK.out _ _ (by assumption) (by assumption)
          · cases ho
            simp only [Act.put, List.setIfInBounds_toArray, List.set_cons_zero, List.set_cons_succ] at hK
            clear hs
            go_simp
            all_goals (try go_wp2_with (first | fail))
            all_goals first | exact hK.out _ _ rfl (bl_refl _) | exact hK.out _ _ rfl (by assumption) | exact hK.out _ _ (by assumption) (by assumption)
          · cases ho
            have e8 : s 8 = _ := hs 8 (by decide) (by kernel_rfl)
            simp only [e8] at hK ⊢
            simp only [Act.put, List.setIfInBounds_toArray, List.set_cons_zero, List.set_cons_succ] at hK
            clear hs
            go_simp
            all_goals (try go_wp2_with (first | fail))
            all_goals first | exact hK.out _ _ rfl (bl_refl _) | exact hK.out _ _ rfl (by assumption) | exact hK.out _ _ (by assumption) (by assumption)
          · cases ho
            have e9 : s 9 = _ := hs 9 (by decide) (by kernel_rfl)
            simp only [e9] at hK ⊢
            simp only [Act.put, List.setIfInBounds_toArray, List.set_cons_zero, List.set_cons_succ] at hK
            clear hs
            go_simp
            all_goals (try go_wp2_with (first | fail))
            all_goals first | exact hK.out _ _ rfl (bl_refl _) | exact hK.out _ _ rfl (by assumption) | exact hK.out _ _ (by assumption) (by assumption)
          · cases ho
            have e10 : s 10 = _ := hs 10 (by decide) (by kernel_rfl)
            simp only [e10] at hK ⊢
            simp only [Act.put, List.setIfInBounds_toArray, List.set_cons_zero, List.set_cons_succ] at hK
            clear hs
            go_simp
            all_goals (try go_wp2_with (first | fail))
            all_goals first | exact hK.out _ _ rfl (bl_refl _) | exact hK.out _ _ rfl (by assumption) | exact hK.out _ _ (by assumption) (by assumption)
          · cases ho
            simp only [Act.put, List.setIfInBounds_toArray, List.set_cons_zero, List.set_cons_succ] at hK
            clear hs
            go_simp
            all_goals (try go_wp2_with (first | fail))
            all_goals first | exact hK.out _ _ rfl (bl_refl _) | exact hK.out _ _ rfl (by assumption) | exact hK.out _ _ (by assumption) (by assumption)
          · cases ho
            simp only [Act.put, List.setIfInBounds_toArray, List.set_cons_zero, List.set_cons_succ] at hK
            clear hs
            go_simp
            all_goals (try go_wp2_with (first | fail))
            all_goals first | exact hK.out _ _ rfl (bl_refl _) | exact hK.out _ _ rfl (by assumption) | exact hK.out _ _ (by assumption) (by assumption)
          · cases ho
            have e12 : s 12 = _ := hs 12 (by decide) (by kernel_rfl)
            have e13 : s 13 = _ := hs 13 (by decide) (by kernel_rfl)
            simp only [e12, e13] at hK ⊢
            simp only [Act.put, List.setIfInBounds_toArray, List.set_cons_zero, List.set_cons_succ] at hK
            clear hs
            go_simp
            all_goals (try go_wp2_with (first | fail))
            all_goals first | exact hK.out _ _ rfl (bl_refl _) | exact hK.out _ _ rfl (by assumption) | exact hK.out _ _ (by assumption) (by assumption)
          · cases ho
            have e11 : s 11 = _ := hs 11 (by decide) (by kernel_rfl)
            have e14 : s 14 = _ := hs 14 (by decide) (by kernel_rfl)
            simp only [e11, e14] at hK ⊢
            simp only [Act.put, List.setIfInBounds_toArray, List.set_cons_zero, List.set_cons_succ] at hK
            clear hs
            go_simp
            all_goals (try go_wp2_with (first | fail))
            all_goals first | exact hK.out _ _ rfl (bl_refl _) | exact hK.out _ _ rfl (by assumption) | exact hK.out _ _ (by assumption) (by assumption)
          · cases ho
            have e7 : s 7 = _ := hs 7 (by decide) (by kernel_rfl)
            have e15 : s 15 = _ := hs 15 (by decide) (by kernel_rfl)
            simp only [e7, e15] at hK ⊢
            simp only [Act.put, List.setIfInBounds_toArray, List.set_cons_zero, List.set_cons_succ] at hK
            clear hs
            go_simp
            all_goals (try go_wp2_with (first | fail))
            all_goals first | exact hK.out _ _ rfl (bl_refl _) | exact hK.out _ _ rfl (by assumption) | exact hK.out _ _ (by assumption) (by assumption)
        case ht_wh =>
          intro s hs W hb hJ
          have e0 : s 0 = _ := hs 0 (by decide)
          have e1 : s 1 = _ := hs 1 (by decide)
          have e2 : s 2 = _ := hs 2 (by decide)
          have e3 : s 3 = _ := hs 3 (by decide)
          have e4 : s 4 = _ := hs 4 (by decide)
          have e5 : s 5 = _ := hs 5 (by decide)
          have e6 : s 6 = _ := hs 6 (by decide)
          have e7 : s 7 = _ := hs 7 (by decide)
          have e8 : s 8 = _ := hs 8 (by decide)
          have e9 : s 9 = _ := hs 9 (by decide)
          have e10 : s 10 = _ := hs 10 (by decide)
          have e11 : s 11 = _ := hs 11 (by decide)
          have e12 : s 12 = _ := hs 12 (by decide)
          have e13 : s 13 = _ := hs 13 (by decide)
          have e14 : s 14 = _ := hs 14 (by decide)
          have e15 : s 15 = _ := hs 15 (by decide)
          have e16 : s 16 = _ := hs 16 (by decide)
          simp only [e0, e1, e2, e3, e4, e5, e6, e7, e8, e9, e10, e11, e12, e13, e14, e15, e16]
          clear hs
          have Y0 := keep hb z0; have Y1 := keep hb z1; have BB := bl_trans B8 hb; have FQ := fun o => (BB.2 ⟨w.heap.size, o, none⟩).trans (fresh_frozen (i := o) (Nat.le_refl _)); have lq := World.block_lt_of_cell? _ _ Y0; simp only at lq
          refine tail_step rfl (fun K hK => ?_)
          go_simp
          refine hK.out _ _ ?_
          clear hK K
          refine tail_step rfl (fun K hK => ?_)
          go_simp
          refine hK.out _ _ ?_
          clear hK K
          refine tail_end ?_
          go_wp2
          obtain ⟨R0, R1⟩ := set2 (p := .float .f64 (Dv .add (xs 0) (Dv .quo f (fanB xs ys n)))) (q := .float .f64 (Dv .add (ys 0) (Dv .quo fy (fanB xs ys n)))) Y0 Y1
          refine bodyPost_ret (v := .tuple #[.agg #[.float .f64 (Dv .add (xs 0) (Dv .quo f (fanB xs ys n))), .float .f64 (Dv .add (ys 0) (Dv .quo fy (fanB xs ys n)))], .int .i64 0]) (by simp [R0, R1, results, Tryz.results64, go_sem] <;> (first | exact ⟨⟨rfl, rfl⟩, rfl⟩ | exact ⟨rfl, rfl, rfl, rfl⟩ | exact ⟨rfl, rfl, rfl⟩ | exact ⟨rfl, rfl⟩ | rfl)) rfl ⟨by unfold cenX cenY; rw [hz, if_pos rfl, if_pos rfl, eX, eY], ?_⟩
          repeat (first | exact BB | refine bl_set ?_ (by simp))
  · obtain ⟨v, hv⟩ : ∃ v, fanE xs ys n = v := ⟨_, rfl⟩
    rw [hv] at hz AREA
    go_enter Tryz.func64, Tryz.ntmps64
    go_wp2_with (first | (go_at_call 63; refine AREA.mono ?_; rintro e w_1 ⟨rfl, hb⟩; have B1 := bl_trans B0 hb; replace z0 := keep hb z0; replace z1 := keep hb z1; have FQ := fun o => (B1.2 ⟨w.heap.size, o, none⟩).trans (fresh_frozen (i := o) (Nat.le_refl _)); have lq := World.block_lt_of_cell? _ _ z0; simp only at lq))
    all_goals
      obtain ⟨R0, R1⟩ := set2 (p := .float .f64 0) (q := .float .f64 0) z0 z1
      refine bodyPost_ret (v := .tuple #[.agg #[.float .f64 0, .float .f64 0], .int .i64 v]) (by simp [R0, R1, results, Tryz.results64, go_sem] <;> (first | exact ⟨⟨rfl, rfl⟩, rfl⟩ | exact ⟨rfl, rfl, rfl, rfl⟩ | exact ⟨rfl, rfl, rfl⟩ | exact ⟨rfl, rfl⟩ | rfl)) rfl ⟨by unfold cenX cenY; rw [hv, if_neg hz, if_neg hz], ?_⟩
      repeat (first | exact B1 | refine bl_set ?_ (by simp))

end Go.Proofs.YtfaiaepkmlmoaaaGreat
