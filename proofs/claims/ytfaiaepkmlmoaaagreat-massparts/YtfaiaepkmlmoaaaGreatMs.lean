/-
  What each function of package poly answers, and what the reference of its chapter answers: one contract a function, for every float: the answer stands in the relation of its formula to what was given; of the memory that was there nothing has turned.
-/
import Derived.Test.YtfaiaepkmlmoaaaGreatVec
import Derived.Test.YtfaiaepkmlmoaaaGreatMr
import Derived.Below
import Derived.WalkKit
import Derived.WalkLawsBesides
import Derived.WalkSpells
import Derived.ProofKit
import Derived.OpenShut
import Derived.Deep.RegionHeld3
namespace Go.Proofs.YtfaiaepkmlmoaaaGreat
open Go.ChangeShapes Go.WideShapes Go.ChangeAt Go.RowKit
set_option linter.unusedVariables false
set_option linter.unusedSimpArgs false


def PolyQ (xs ys : Nat → Nat) (n d m j x y : Nat) (e : Int) : Prop := (¬ fanE xs ys n = 0 ∧ m = 0 ∧ j = 0 ∧ x = 0 ∧ y = 0 ∧ e = fanE xs ys n) ∨ (fanE xs ys n = 0 ∧ 0 < n ∧ resK .mul .f64 d (areaE xs ys n) m ∧ TurnR xs ys n (cenX xs ys n) (cenY xs ys n) d j ∧ x = cenX xs ys n ∧ y = cenY xs ys n ∧ e = 0)
set_option maxRecDepth 100000 in
set_option maxHeartbeats 8000000 in
theorem rpolygon_any (V : Value) (n : Nat) (xs ys : Nat → Nat) (r d : Nat) (w : World) (h : AnyS w V n xs ys) : Calls Tryz.prog 39 #[.agg #[.int .u8 3, .float .f64 r, V], .float .f64 d] w fun e w' => ∃ m j x y f, PolyQ xs ys n d m j x y f ∧ e = .returned (.tuple #[.agg #[.float .f64 m, .float .f64 j, .float .f64 x, .float .f64 y], .int .i64 f]) ∧ Bel w w' := by
  obtain ⟨v, hv⟩ : ∃ v, fanE xs ys n = v := ⟨_, rfl⟩
  obtain ⟨a, cap, rfl, _⟩ := id h
  by_cases h0 : v = 0
  · subst h0
    obtain ⟨a', cap', e1, a2, a3, a4, a5, a6⟩ := id h
    cases e1
    have hc0 : chkE xs ys n = 0 := by
      unfold fanE at hv
      by_cases hx : chkE xs ys n = 0
      · exact hx
      · rw [if_neg hx] at hv; exact absurd hv hx
    obtain ⟨g, h3, h64, _⟩ := chk_ok a5 hc0
    rcases a6 with h0 | ⟨hp, b, off, rfl, sl⟩
    · omega
    have lb := sl.lt hp
    have q1 := run_mul Tryz.prog
    have q2 := run_quo Tryz.prog
    have z0_0 : (w.alloc (.cells #[.int .u8 3, .float .f64 r, .slice (some ⟨b, off, none⟩) n cap] 27)).cell? ⟨w.heap.size, 0, none⟩ = some (.int .u8 3) := by rw [World.cell?_alloc_new]; rfl
    replace z0_0 := up_alloc (o := .cells #[.float .f64 0, .float .f64 0, .float .f64 0, .float .f64 0] 34) z0_0
    have z0_1 : (w.alloc (.cells #[.int .u8 3, .float .f64 r, .slice (some ⟨b, off, none⟩) n cap] 27)).cell? ⟨w.heap.size, 1, none⟩ = some (.float .f64 r) := by rw [World.cell?_alloc_new]; rfl
    replace z0_1 := up_alloc (o := .cells #[.float .f64 0, .float .f64 0, .float .f64 0, .float .f64 0] 34) z0_1
    have z0_2 : (w.alloc (.cells #[.int .u8 3, .float .f64 r, .slice (some ⟨b, off, none⟩) n cap] 27)).cell? ⟨w.heap.size, 2, none⟩ = some (.slice (some ⟨b, off, none⟩) n cap) := by rw [World.cell?_alloc_new]; rfl
    replace z0_2 := up_alloc (o := .cells #[.float .f64 0, .float .f64 0, .float .f64 0, .float .f64 0] 34) z0_2
    have z1_0 : ((w.alloc (.cells #[.int .u8 3, .float .f64 r, .slice (some ⟨b, off, none⟩) n cap] 27)).alloc (.cells #[.float .f64 0, .float .f64 0, .float .f64 0, .float .f64 0] 34)).cell? ⟨w.heap.size + 1, 0, none⟩ = some (.float .f64 0) := by rw [← (show (w.alloc (.cells #[.int .u8 3, .float .f64 r, .slice (some ⟨b, off, none⟩) n cap] 27)).heap.size = w.heap.size + 1 by simp only [World.size_alloc]), World.cell?_alloc_new]; rfl
    have z1_1 : ((w.alloc (.cells #[.int .u8 3, .float .f64 r, .slice (some ⟨b, off, none⟩) n cap] 27)).alloc (.cells #[.float .f64 0, .float .f64 0, .float .f64 0, .float .f64 0] 34)).cell? ⟨w.heap.size + 1, 1, none⟩ = some (.float .f64 0) := by rw [← (show (w.alloc (.cells #[.int .u8 3, .float .f64 r, .slice (some ⟨b, off, none⟩) n cap] 27)).heap.size = w.heap.size + 1 by simp only [World.size_alloc]), World.cell?_alloc_new]; rfl
    have z1_2 : ((w.alloc (.cells #[.int .u8 3, .float .f64 r, .slice (some ⟨b, off, none⟩) n cap] 27)).alloc (.cells #[.float .f64 0, .float .f64 0, .float .f64 0, .float .f64 0] 34)).cell? ⟨w.heap.size + 1, 2, none⟩ = some (.float .f64 0) := by rw [← (show (w.alloc (.cells #[.int .u8 3, .float .f64 r, .slice (some ⟨b, off, none⟩) n cap] 27)).heap.size = w.heap.size + 1 by simp only [World.size_alloc]), World.cell?_alloc_new]; rfl
    have z1_3 : ((w.alloc (.cells #[.int .u8 3, .float .f64 r, .slice (some ⟨b, off, none⟩) n cap] 27)).alloc (.cells #[.float .f64 0, .float .f64 0, .float .f64 0, .float .f64 0] 34)).cell? ⟨w.heap.size + 1, 3, none⟩ = some (.float .f64 0) := by rw [← (show (w.alloc (.cells #[.int .u8 3, .float .f64 r, .slice (some ⟨b, off, none⟩) n cap] 27)).heap.size = w.heap.size + 1 by simp only [World.size_alloc]), World.cell?_alloc_new]; rfl
    have B0 : Bel w ((w.alloc (.cells #[.int .u8 3, .float .f64 r, .slice (some ⟨b, off, none⟩) n cap] 27)).alloc (.cells #[.float .f64 0, .float .f64 0, .float .f64 0, .float .f64 0] 34)) := bl_alloc (bl_alloc (bl_refl w) _ _) _ _
    have hx := h.bel B0
    go_enter Tryz.func39, Tryz.ntmps39
    go_wp2_with (first | (go_at_call 63; refine (rarea_all _ n xs ys _ hx).mono ?_; rintro e w_1 ⟨rfl, hb⟩; rw [hv]; have B1 := hb; have hx2 := hx.bel hb; have g0 := keep B1 z0_2) | (go_at_call 64; refine (rcentre_all _ n xs ys _ hx2).mono ?_; rintro e w_2 ⟨rfl, hb⟩; rw [hv]; have B2 := bl_alloc (bl_trans B1 hb) #[.float .f64 (cenX xs ys n), .float .f64 (cenY xs ys n)] 32; have z0 := keep B2 z0_0; have z1 := keep B2 z0_1; have z2 := keep B2 z0_2; have zr0 := keep B2 z1_0; have zr1 := keep B2 z1_1; have zr2 := keep B2 z1_2; have zr3 := keep B2 z1_3))
    have BB0 := bl_trans B0 B2
    have sz2 := (bl_trans B0 (bl_trans B1 hb)).size
    have zc0 : (w_2.alloc (.cells #[.float .f64 (cenX xs ys n), .float .f64 (cenY xs ys n)] 32)).cell? ⟨w_2.heap.size, 0, none⟩ = some (.float .f64 (cenX xs ys n)) := by rw [World.cell?_alloc_new]; rfl
    have zc1 : (w_2.alloc (.cells #[.float .f64 (cenX xs ys n), .float .f64 (cenY xs ys n)] 32)).cell? ⟨w_2.heap.size, 1, none⟩ = some (.float .f64 (cenY xs ys n)) := by rw [World.cell?_alloc_new]; rfl
    generalize hcx : cenX xs ys n = cx at *
    generalize hcy : cenY xs ys n = cy at *
    go_loopw [9, 11] (fun s' i' wr => ∃ (k sm : Nat) (ts : Nat → Nat), k ≤ n ∧ i' = .int .i64 k ∧ s' = .float .f64 sm ∧ Bel w wr ∧ TermsR xs ys n cx cy k ts ∧ ((k = 0 ∧ sm = 0) ∨ (0 < k ∧ accR (ts 0) (fun q => ts (q + 1)) (k - 1) sm)) ∧ wr.cell? ⟨w.heap.size, 0, none⟩ = some (.int .u8 3) ∧ wr.cell? ⟨w.heap.size, 1, none⟩ = some (.float .f64 r) ∧ wr.cell? ⟨w.heap.size, 2, none⟩ = some (.slice (some ⟨b, off, none⟩) n cap) ∧ wr.cell? ⟨w.heap.size + 1, 0, none⟩ = some (.float .f64 0) ∧ wr.cell? ⟨w.heap.size + 1, 1, none⟩ = some (.float .f64 0) ∧ wr.cell? ⟨w.heap.size + 1, 2, none⟩ = some (.float .f64 0) ∧ wr.cell? ⟨w.heap.size + 1, 3, none⟩ = some (.float .f64 0) ∧ wr.cell? ⟨w_2.heap.size, 0, none⟩ = some (.float .f64 cx) ∧ wr.cell? ⟨w_2.heap.size, 1, none⟩ = some (.float .f64 cy)) (fun _ i' _ => n - (intOf i').toNat)
    case atStart => exact ⟨0, 0, fun _ => 0, by omega, rfl, rfl, BB0, fun q hq => by omega, .inl ⟨rfl, rfl⟩, z0, z1, z2, zr0, zr1, zr2, zr3, zc0, zc1⟩
    case round =>
      clear z0 z1 z2 zr0 zr1 zr2 zr3 zc0 zc1 z0_0 z0_1 z0_2 z1_0 z1_1 z1_2 z1_3
      obtain ⟨k, sm, ts, hk, rfl, rfl, hB, hts, hac, z0, z1, z2, zr0, zr1, zr2, zr3, zc0, zc1⟩ := hrel
      have hbb : b < wr.heap.size := Nat.lt_of_lt_of_le lb hB.size
      by_cases hlt : k < n
      · have k1 : (k : Int) < (n : Int) := by omega
        have slr := sl.bel hB
        obtain ⟨j, ej⟩ : ∃ j, j = (k + 1) % n := ⟨_, rfl⟩
        have hj : j < n := by rw [ej]; exact Nat.mod_lt _ hp
        have et : ((k : Int) + 1).tmod (n : Int) = (j : Int) := by rw [ej]; exact tmod_nat2 k 1 n
        have ejH := hide ej
        clear ej
        have hacH := hide hac
        clear hac
        have hnI : ¬ (n : Int) = 0 := by omega
        have wi : IntKind.wrap .i64 ((k : Int) + 1) = (k : Int) + 1 := by rw [IntKind.wrap_i64]; omega
        have j0 : (0 : Int) ≤ (j : Int) := by omega
        have j1 : (j : Int) < (n : Int) := by omega
        go_wp2
        · refine wp_region_multiA 8 (fun i v => match i with | 0 => v = .pointer (some ⟨w.heap.size, 2, none⟩) | 1 => v = .slice (some ⟨b, off, none⟩) n cap | 2 => v = .int .i64 (k : Int) | 3 => v = .pointer (some ⟨b, off + k * 2, none⟩) | 4 => v = .agg #[.float .f64 (xs k), .float .f64 (ys k)] | 5 => v = .agg #[.float .f64 cx, .float .f64 cy] | 6 => ∃ x y, SubR (xs k) (ys k) cx cy x y ∧ v = .agg #[.float .f64 x, .float .f64 y] | 7 => ∃ b, v = .pointer (some ⟨b, 0, none⟩) | _ => False) (fun i => match i with | 7 => some (Obj.cells #[.float .f64 0, .float .f64 0] 32) | _ => none) ?A_wa (by kernel_rfl) (by kernel_rfl) ?hA_wa ?ha_wa ?hq_wa [8] rfl ?ht_wa
          case hA_wa =>
            intro s
            simp only [putL, dstO, Act.put, List.getElem?_toArray, List.getElem?_cons_zero, List.getElem?_cons_succ, Option.bind_some, List.setIfInBounds_toArray, List.set_cons_zero, List.set_cons_succ, if_true]
            all_goals exact rfl
          case ha_wa =>
            intro i o ob hi ho hal
            rcases (show i = 0 ∨ i = 1 ∨ i = 2 ∨ i = 3 ∨ i = 4 ∨ i = 5 ∨ i = 6 ∨ i = 7 by omega) with rfl | rfl | rfl | rfl | rfl | rfl | rfl | rfl
            · cases hal
            · cases hal
            · cases hal
            · cases hal
            · cases hal
            · cases hal
            · cases hal
            · cases ho; cases hal; exact ⟨fun v hv => ⟨_, hv.choose_spec.2⟩, ⟨_, _, rfl⟩, fun A W => by go_simp⟩
          case hq_wa =>
            intro i o hi ho hal s hs W hb K hK
            have hs2 := slr.bel hb; obtain ⟨a0, a1⟩ := hs2 k hlt; have u0 := keep hb z2; have u1 := keep hb zc0; have u2 := keep hb zc1; have hbb : b < W.heap.size := Nat.lt_of_lt_of_le hbb hb.size
            rcases (show i = 0 ∨ i = 1 ∨ i = 2 ∨ i = 3 ∨ i = 4 ∨ i = 5 ∨ i = 6 ∨ i = 7 by omega) with rfl | rfl | rfl | rfl | rfl | rfl | rfl | rfl
            · cases ho
              simp only [Act.put, List.setIfInBounds_toArray, List.set_cons_zero, List.set_cons_succ] at hK
              clear hs
              go_simp
              all_goals (try go_wp2_with (first | (go_at_call 43; refine (rSub_any _ _ _ _ _).mono ?_; rintro e w' ⟨x, y, hS, rfl, hb1⟩)))
              all_goals first | exact hK.out _ _ ⟨_, _, hS, rfl⟩ hb1 | exact hK.out _ _ rfl (bl_refl _) | exact hK.out _ _ rfl (by assumption) | exact hK.out _ _ (by assumption) (by assumption)
            · cases ho
              have e0 : s 0 = _ := hs 0 (by decide) (by kernel_rfl)
              simp only [e0] at hK ⊢
              simp only [Act.put, List.setIfInBounds_toArray, List.set_cons_zero, List.set_cons_succ] at hK
              clear hs
              go_simp
              all_goals (try go_wp2_with (first | (go_at_call 43; refine (rSub_any _ _ _ _ _).mono ?_; rintro e w' ⟨x, y, hS, rfl, hb1⟩)))
              all_goals first | exact hK.out _ _ ⟨_, _, hS, rfl⟩ hb1 | exact hK.out _ _ rfl (bl_refl _) | exact hK.out _ _ rfl (by assumption) | exact hK.out _ _ (by assumption) (by assumption)
            · cases ho
              simp only [Act.put, List.setIfInBounds_toArray, List.set_cons_zero, List.set_cons_succ] at hK
              clear hs
              go_simp
              all_goals (try go_wp2_with (first | (go_at_call 43; refine (rSub_any _ _ _ _ _).mono ?_; rintro e w' ⟨x, y, hS, rfl, hb1⟩)))
              all_goals first | exact hK.out _ _ ⟨_, _, hS, rfl⟩ hb1 | exact hK.out _ _ rfl (bl_refl _) | exact hK.out _ _ rfl (by assumption) | exact hK.out _ _ (by assumption) (by assumption)
            · cases ho
              have e1 : s 1 = _ := hs 1 (by decide) (by kernel_rfl)
              have e2 : s 2 = _ := hs 2 (by decide) (by kernel_rfl)
              simp only [e1, e2] at hK ⊢
              simp only [Act.put, List.setIfInBounds_toArray, List.set_cons_zero, List.set_cons_succ] at hK
              clear hs
              go_simp
              all_goals (try go_wp2_with (first | (go_at_call 43; refine (rSub_any _ _ _ _ _).mono ?_; rintro e w' ⟨x, y, hS, rfl, hb1⟩)))
              all_goals first | exact hK.out _ _ ⟨_, _, hS, rfl⟩ hb1 | exact hK.out _ _ rfl (bl_refl _) | exact hK.out _ _ rfl (by assumption) | exact hK.out _ _ (by assumption) (by assumption)
            · cases ho
              have e3 : s 3 = _ := hs 3 (by decide) (by kernel_rfl)
              simp only [e3] at hK ⊢
              simp only [Act.put, List.setIfInBounds_toArray, List.set_cons_zero, List.set_cons_succ] at hK
              clear hs
              go_simp
              all_goals (try go_wp2_with (first | (go_at_call 43; refine (rSub_any _ _ _ _ _).mono ?_; rintro e w' ⟨x, y, hS, rfl, hb1⟩)))
              all_goals first | exact hK.out _ _ ⟨_, _, hS, rfl⟩ hb1 | exact hK.out _ _ rfl (bl_refl _) | exact hK.out _ _ rfl (by assumption) | exact hK.out _ _ (by assumption) (by assumption)
            · cases ho
              simp only [Act.put, List.setIfInBounds_toArray, List.set_cons_zero, List.set_cons_succ] at hK
              clear hs
              go_simp
              all_goals (try go_wp2_with (first | (go_at_call 43; refine (rSub_any _ _ _ _ _).mono ?_; rintro e w' ⟨x, y, hS, rfl, hb1⟩)))
              all_goals first | exact hK.out _ _ ⟨_, _, hS, rfl⟩ hb1 | exact hK.out _ _ rfl (bl_refl _) | exact hK.out _ _ rfl (by assumption) | exact hK.out _ _ (by assumption) (by assumption)
            · cases ho
              have e4 : s 4 = _ := hs 4 (by decide) (by kernel_rfl)
              have e5 : s 5 = _ := hs 5 (by decide) (by kernel_rfl)
              simp only [e4, e5] at hK ⊢
              simp only [Act.put, List.setIfInBounds_toArray, List.set_cons_zero, List.set_cons_succ] at hK
              clear hs
              go_simp
              all_goals (try go_wp2_with (first | (go_at_call 43; refine (rSub_any _ _ _ _ _).mono ?_; rintro e w' ⟨x, y, hS, rfl, hb1⟩)))
              all_goals first | exact hK.out _ _ ⟨_, _, hS, rfl⟩ hb1 | exact hK.out _ _ rfl (bl_refl _) | exact hK.out _ _ rfl (by assumption) | exact hK.out _ _ (by assumption) (by assumption)
            · cases hal
          case ht_wa =>
            intro s hs W hb hJ
            have e0 : s 0 = _ := hs 0 (by decide)
            have e1 : s 1 = _ := hs 1 (by decide)
            have e2 : s 2 = _ := hs 2 (by decide)
            have e3 : s 3 = _ := hs 3 (by decide)
            have e4 : s 4 = _ := hs 4 (by decide)
            have e5 : s 5 = _ := hs 5 (by decide)
            obtain ⟨ax, ay, hA1, e6⟩ := hs 6 (by decide)
            obtain ⟨p7, e7, n7, h7⟩ := laid_at hJ 7 (by decide) rfl
            have c70 : W.cell? ⟨p7, 0, none⟩ = some (.float .f64 0) := heap_cell h7 rfl
            have c71 : W.cell? ⟨p7, 1, none⟩ = some (.float .f64 0) := heap_cell h7 rfl
            have f7 := fun k => heap_frozen (i := k) h7
            simp only [e0, e1, e2, e3, e4, e5, e6, e7]
            clear hs
            refine tail_step rfl (fun K hK => ?_)
            go_simp
            refine hK.out _ _ ?_
            clear hK K
            refine tail_end ?_
            (try simp at n7)
            have BW : Bel wr W := by refine bl_trans (b := _) ?_ hb; repeat (first | exact bl_refl wr | apply bl_alloc | apply bl_drew)
            have BW0 := BW
            obtain ⟨wa, hN, d70, d71, fr0, bN⟩ := put2_all (p := .float .f64 ax) (q := .float .f64 ay) c70 c71
            rw [← hN]
            replace BW := bN wr BW (by omega)
            clear hN fr0 bN
            have k_p7_0 : wa.cell? ⟨p7, 0, none⟩ = some (.float .f64 ax) := d70
            have k_p7_1 : wa.cell? ⟨p7, 1, none⟩ = some (.float .f64 ay) := d71
            clear d70 d71
            have l7 : p7 < wa.heap.size := World.block_lt_of_cell? wa _ k_p7_0
            have z_p7 := fun k => (BW.2 _).trans ((BW0.2 ⟨p7, k, none⟩).symm.trans (f7 k))
            have B := hide BW
            clear BW BW0 hJ h7 f7 e0 e1 e2 e3 e4 e5 e6 e7
            have BFa := unhide B
            clear B
            have z2a := keep BFa z2
            have zc0a := keep BFa zc0
            have zc1a := keep BFa zc1
            have sla := slr.bel BFa
            have hbba : b < wa.heap.size := Nat.lt_of_lt_of_le hbb BFa.size
            go_wp2
            refine wp_region_multiA 11 (fun i v => match i with | 0 => v = .pointer (some ⟨w.heap.size, 2, none⟩) | 1 => v = .slice (some ⟨b, off, none⟩) n cap | 2 => v = .int .i64 (k : Int) | 3 => v = .int .i64 ((k : Int) + 1) | 4 => v = .int .i64 (n : Int) | 5 => v = .int .i64 (j : Int) | 6 => v = .pointer (some ⟨b, off + j * 2, none⟩) | 7 => v = .agg #[.float .f64 (xs j), .float .f64 (ys j)] | 8 => v = .agg #[.float .f64 cx, .float .f64 cy] | 9 => ∃ x y, SubR (xs j) (ys j) cx cy x y ∧ v = .agg #[.float .f64 x, .float .f64 y] | 10 => ∃ b, v = .pointer (some ⟨b, 0, none⟩) | _ => False) (fun i => match i with | 10 => some (Obj.cells #[.float .f64 0, .float .f64 0] 32) | _ => none) ?A_wb (by kernel_rfl) (by kernel_rfl) ?hA_wb ?ha_wb ?hq_wb [11] rfl ?ht_wb
            case hA_wb =>
              intro s
              simp only [putL, dstO, Act.put, List.getElem?_toArray, List.getElem?_cons_zero, List.getElem?_cons_succ, Option.bind_some, List.setIfInBounds_toArray, List.set_cons_zero, List.set_cons_succ, if_true]
              all_goals exact rfl
            case ha_wb =>
              intro i o ob hi ho hal
              rcases (show i = 0 ∨ i = 1 ∨ i = 2 ∨ i = 3 ∨ i = 4 ∨ i = 5 ∨ i = 6 ∨ i = 7 ∨ i = 8 ∨ i = 9 ∨ i = 10 by omega) with rfl | rfl | rfl | rfl | rfl | rfl | rfl | rfl | rfl | rfl | rfl
              · cases hal
              · cases hal
              · cases hal
              · cases hal
              · cases hal
              · cases hal
              · cases hal
              · cases hal
              · cases hal
              · cases hal
              · cases ho; cases hal; exact ⟨fun v hv => ⟨_, hv.choose_spec.2⟩, ⟨_, _, rfl⟩, fun A W => by go_simp⟩
            case hq_wb =>
              intro i o hi ho hal s hs W hb K hK
              have hs2 := sla.bel hb; obtain ⟨a0, a1⟩ := hs2 j hj; have u0 := keep hb z2a; have u1 := keep hb zc0a; have u2 := keep hb zc1a; have hbb : b < W.heap.size := Nat.lt_of_lt_of_le hbba hb.size
              rcases (show i = 0 ∨ i = 1 ∨ i = 2 ∨ i = 3 ∨ i = 4 ∨ i = 5 ∨ i = 6 ∨ i = 7 ∨ i = 8 ∨ i = 9 ∨ i = 10 by omega) with rfl | rfl | rfl | rfl | rfl | rfl | rfl | rfl | rfl | rfl | rfl
              · cases ho
                simp only [Act.put, List.setIfInBounds_toArray, List.set_cons_zero, List.set_cons_succ] at hK
                clear hs
                go_simp
                all_goals (try go_wp2_with (first | (go_at_call 43; refine (rSub_any _ _ _ _ _).mono ?_; rintro e w' ⟨x, y, hS, rfl, hb1⟩)))
                all_goals first | exact hK.out _ _ ⟨_, _, hS, rfl⟩ hb1 | exact hK.out _ _ rfl (bl_refl _) | exact hK.out _ _ rfl (by assumption) | exact hK.out _ _ (by assumption) (by assumption)
              · cases ho
                have e0 : s 0 = _ := hs 0 (by decide) (by kernel_rfl)
                simp only [e0] at hK ⊢
                simp only [Act.put, List.setIfInBounds_toArray, List.set_cons_zero, List.set_cons_succ] at hK
                clear hs
                go_simp
                all_goals (try go_wp2_with (first | (go_at_call 43; refine (rSub_any _ _ _ _ _).mono ?_; rintro e w' ⟨x, y, hS, rfl, hb1⟩)))
                all_goals first | exact hK.out _ _ ⟨_, _, hS, rfl⟩ hb1 | exact hK.out _ _ rfl (bl_refl _) | exact hK.out _ _ rfl (by assumption) | exact hK.out _ _ (by assumption) (by assumption)
              · cases ho
                simp only [Act.put, List.setIfInBounds_toArray, List.set_cons_zero, List.set_cons_succ] at hK
                clear hs
                go_simp
                all_goals (try go_wp2_with (first | (go_at_call 43; refine (rSub_any _ _ _ _ _).mono ?_; rintro e w' ⟨x, y, hS, rfl, hb1⟩)))
                all_goals first | exact hK.out _ _ ⟨_, _, hS, rfl⟩ hb1 | exact hK.out _ _ rfl (bl_refl _) | exact hK.out _ _ rfl (by assumption) | exact hK.out _ _ (by assumption) (by assumption)
              · cases ho
                have e2 : s 2 = _ := hs 2 (by decide) (by kernel_rfl)
                simp only [e2] at hK ⊢
                simp only [Act.put, List.setIfInBounds_toArray, List.set_cons_zero, List.set_cons_succ] at hK
                clear hs
                go_simp
                all_goals (try go_wp2_with (first | (go_at_call 43; refine (rSub_any _ _ _ _ _).mono ?_; rintro e w' ⟨x, y, hS, rfl, hb1⟩)))
                all_goals first | exact hK.out _ _ ⟨_, _, hS, rfl⟩ hb1 | exact hK.out _ _ rfl (bl_refl _) | exact hK.out _ _ rfl (by assumption) | exact hK.out _ _ (by assumption) (by assumption)
              · cases ho
                simp only [Act.put, List.setIfInBounds_toArray, List.set_cons_zero, List.set_cons_succ] at hK
                clear hs
                go_simp
                all_goals (try go_wp2_with (first | (go_at_call 43; refine (rSub_any _ _ _ _ _).mono ?_; rintro e w' ⟨x, y, hS, rfl, hb1⟩)))
                all_goals first | exact hK.out _ _ ⟨_, _, hS, rfl⟩ hb1 | exact hK.out _ _ rfl (bl_refl _) | exact hK.out _ _ rfl (by assumption) | exact hK.out _ _ (by assumption) (by assumption)
              · cases ho
                have e3 : s 3 = _ := hs 3 (by decide) (by kernel_rfl)
                have e4 : s 4 = _ := hs 4 (by decide) (by kernel_rfl)
                simp only [e3, e4] at hK ⊢
                simp only [Act.put, List.setIfInBounds_toArray, List.set_cons_zero, List.set_cons_succ] at hK
                clear hs
                go_simp
                all_goals (try go_wp2_with (first | (go_at_call 43; refine (rSub_any _ _ _ _ _).mono ?_; rintro e w' ⟨x, y, hS, rfl, hb1⟩)))
                all_goals first | exact hK.out _ _ ⟨_, _, hS, rfl⟩ hb1 | exact hK.out _ _ rfl (bl_refl _) | exact hK.out _ _ rfl (by assumption) | exact hK.out _ _ (by assumption) (by assumption)
              · cases ho
                have e1 : s 1 = _ := hs 1 (by decide) (by kernel_rfl)
                have e5 : s 5 = _ := hs 5 (by decide) (by kernel_rfl)
                simp only [e1, e5] at hK ⊢
                simp only [Act.put, List.setIfInBounds_toArray, List.set_cons_zero, List.set_cons_succ] at hK
                clear hs
                go_simp
                all_goals (try go_wp2_with (first | (go_at_call 43; refine (rSub_any _ _ _ _ _).mono ?_; rintro e w' ⟨x, y, hS, rfl, hb1⟩)))
                all_goals first | exact hK.out _ _ ⟨_, _, hS, rfl⟩ hb1 | exact hK.out _ _ rfl (bl_refl _) | exact hK.out _ _ rfl (by assumption) | exact hK.out _ _ (by assumption) (by assumption)
              · cases ho
                have e6 : s 6 = _ := hs 6 (by decide) (by kernel_rfl)
                simp only [e6] at hK ⊢
                simp only [Act.put, List.setIfInBounds_toArray, List.set_cons_zero, List.set_cons_succ] at hK
                clear hs
                go_simp
                all_goals (try go_wp2_with (first | (go_at_call 43; refine (rSub_any _ _ _ _ _).mono ?_; rintro e w' ⟨x, y, hS, rfl, hb1⟩)))
                all_goals first | exact hK.out _ _ ⟨_, _, hS, rfl⟩ hb1 | exact hK.out _ _ rfl (bl_refl _) | exact hK.out _ _ rfl (by assumption) | exact hK.out _ _ (by assumption) (by assumption)
              · cases ho
                simp only [Act.put, List.setIfInBounds_toArray, List.set_cons_zero, List.set_cons_succ] at hK
                clear hs
                go_simp
                all_goals (try go_wp2_with (first | (go_at_call 43; refine (rSub_any _ _ _ _ _).mono ?_; rintro e w' ⟨x, y, hS, rfl, hb1⟩)))
                all_goals first | exact hK.out _ _ ⟨_, _, hS, rfl⟩ hb1 | exact hK.out _ _ rfl (bl_refl _) | exact hK.out _ _ rfl (by assumption) | exact hK.out _ _ (by assumption) (by assumption)
              · cases ho
                have e7 : s 7 = _ := hs 7 (by decide) (by kernel_rfl)
                have e8 : s 8 = _ := hs 8 (by decide) (by kernel_rfl)
                simp only [e7, e8] at hK ⊢
                simp only [Act.put, List.setIfInBounds_toArray, List.set_cons_zero, List.set_cons_succ] at hK
                clear hs
                go_simp
                all_goals (try go_wp2_with (first | (go_at_call 43; refine (rSub_any _ _ _ _ _).mono ?_; rintro e w' ⟨x, y, hS, rfl, hb1⟩)))
                all_goals first | exact hK.out _ _ ⟨_, _, hS, rfl⟩ hb1 | exact hK.out _ _ rfl (bl_refl _) | exact hK.out _ _ rfl (by assumption) | exact hK.out _ _ (by assumption) (by assumption)
              · cases hal
            case ht_wb =>
              intro s hs W hb hJ
              have e0 : s 0 = _ := hs 0 (by decide)
              have e1 : s 1 = _ := hs 1 (by decide)
              have e2 : s 2 = _ := hs 2 (by decide)
              have e3 : s 3 = _ := hs 3 (by decide)
              have e4 : s 4 = _ := hs 4 (by decide)
              have e5 : s 5 = _ := hs 5 (by decide)
              have e6 : s 6 = _ := hs 6 (by decide)
              have e7 : s 7 = _ := hs 7 (by decide)
              have e8 : s 8 = _ := hs 8 (by decide)
              obtain ⟨bx, b_y, hA2, e9⟩ := hs 9 (by decide)
              obtain ⟨p10, e10, n10, h10⟩ := laid_at hJ 10 (by decide) rfl
              have c100 : W.cell? ⟨p10, 0, none⟩ = some (.float .f64 0) := heap_cell h10 rfl
              have c101 : W.cell? ⟨p10, 1, none⟩ = some (.float .f64 0) := heap_cell h10 rfl
              have f10 := fun k => heap_frozen (i := k) h10
              simp only [e0, e1, e2, e3, e4, e5, e6, e7, e8, e9, e10]
              clear hs
              refine tail_step rfl (fun K hK => ?_)
              go_simp
              refine hK.out _ _ ?_
              clear hK K
              refine tail_end ?_
              (try simp at n10)
              have BW : Bel wa W := by refine bl_trans (b := _) ?_ hb; repeat (first | exact bl_refl wa | apply bl_alloc | apply bl_drew)
              have BW0 := BW
              have ol0 := World.block_lt_of_cell? _ _ k_p7_0
              have od0 := keep hb k_p7_0
              have ol1 := World.block_lt_of_cell? _ _ k_p7_1
              have od1 := keep hb k_p7_1
              simp only at ol0 ol1
              obtain ⟨wb, hN, d100, d101, fr0, bN⟩ := put2_all (p := .float .f64 bx) (q := .float .f64 b_y) c100 c101
              rw [← hN]
              replace BW := bN wa BW (by omega)
              replace od0 := (fr0 (p7) 0 (.inl (by omega))).trans od0
              replace od1 := (fr0 (p7) 1 (.inl (by omega))).trans od1
              clear hN fr0 bN
              have k_p10_0 : wb.cell? ⟨p10, 0, none⟩ = some (.float .f64 bx) := d100
              have k_p10_1 : wb.cell? ⟨p10, 1, none⟩ = some (.float .f64 b_y) := d101
              clear d100 d101
              replace k_p7_0 := od0
              replace k_p7_1 := od1
              clear od0
              clear od1
              have l10 : p10 < wb.heap.size := World.block_lt_of_cell? wb _ k_p10_0
              have z_p10 := fun k => (BW.2 _).trans ((BW0.2 ⟨p10, k, none⟩).symm.trans (f10 k))
              have B := hide BW
              clear BW BW0 hJ h10 f10 e0 e1 e2 e3 e4 e5 e6 e7 e8 e9 e10
              have BFb := unhide B
              clear B
              go_wp2
              refine wp_region_multiA 16 (fun i v => match i with | 0 => v = .agg #[.float .f64 ax, .float .f64 ay] | 1 => v = .agg #[.float .f64 bx, .float .f64 b_y] | 2 => ∃ c, CrossR ax ay bx b_y c ∧ v = .float .f64 c | 3 => v = .agg #[.float .f64 ax, .float .f64 ay] | 4 => v = .agg #[.float .f64 ax, .float .f64 ay] | 5 => ∃ d1, DotR ax ay ax ay d1 ∧ v = .float .f64 d1 | 6 => v = .agg #[.float .f64 ax, .float .f64 ay] | 7 => v = .agg #[.float .f64 bx, .float .f64 b_y] | 8 => ∃ d2, DotR ax ay bx b_y d2 ∧ v = .float .f64 d2 | 9 => ∃ d1 d2 g, DotR ax ay ax ay d1 ∧ DotR ax ay bx b_y d2 ∧ resK .add .f64 d1 d2 g ∧ v = .float .f64 g | 10 => v = .agg #[.float .f64 bx, .float .f64 b_y] | 11 => v = .agg #[.float .f64 bx, .float .f64 b_y] | 12 => ∃ d3, DotR bx b_y bx b_y d3 ∧ v = .float .f64 d3 | 13 => ∃ d1 d2 g d3 h, DotR ax ay ax ay d1 ∧ DotR ax ay bx b_y d2 ∧ resK .add .f64 d1 d2 g ∧ DotR bx b_y bx b_y d3 ∧ resK .add .f64 g d3 h ∧ v = .float .f64 h | 14 => ∃ t, TermR (xs k) (ys k) (xs j) (ys j) cx cy t ∧ v = .float .f64 t | 15 => ∃ t, TermR (xs k) (ys k) (xs j) (ys j) cx cy t ∧ v = .float .f64 t | _ => False) (fun i => match i with  | _ => none) ?A_wc (by kernel_rfl) (by kernel_rfl) ?hA_wc ?ha_wc ?hq_wc [] rfl ?ht_wc
              case hA_wc =>
                intro s
                simp only [putL, dstO, Act.put, List.getElem?_toArray, List.getElem?_cons_zero, List.getElem?_cons_succ, Option.bind_some, List.setIfInBounds_toArray, List.set_cons_zero, List.set_cons_succ, if_true]
                all_goals exact rfl
              case ha_wc =>
                intro i o ob hi ho hal
                rcases (show i = 0 ∨ i = 1 ∨ i = 2 ∨ i = 3 ∨ i = 4 ∨ i = 5 ∨ i = 6 ∨ i = 7 ∨ i = 8 ∨ i = 9 ∨ i = 10 ∨ i = 11 ∨ i = 12 ∨ i = 13 ∨ i = 14 ∨ i = 15 by omega) with rfl | rfl | rfl | rfl | rfl | rfl | rfl | rfl | rfl | rfl | rfl | rfl | rfl | rfl | rfl | rfl
                · cases hal
                · cases hal
                · cases hal
                · cases hal
                · cases hal
                · cases hal
                · cases hal
                · cases hal
                · cases hal
                · cases hal
                · cases hal
                · cases hal
                · cases hal
                · cases hal
                · cases hal
                · cases hal
              case hq_wc =>
                intro i o hi ho hal s hs W hb K hK
                have q1 := run_mul Tryz.prog; have q2 := run_add Tryz.prog; have u70 := keep hb k_p7_0; have u71 := keep hb k_p7_1; have u100 := keep hb k_p10_0; have u101 := keep hb k_p10_1
                rcases (show i = 0 ∨ i = 1 ∨ i = 2 ∨ i = 3 ∨ i = 4 ∨ i = 5 ∨ i = 6 ∨ i = 7 ∨ i = 8 ∨ i = 9 ∨ i = 10 ∨ i = 11 ∨ i = 12 ∨ i = 13 ∨ i = 14 ∨ i = 15 by omega) with rfl | rfl | rfl | rfl | rfl | rfl | rfl | rfl | rfl | rfl | rfl | rfl | rfl | rfl | rfl | rfl
                · cases ho
                  simp only [Act.put, List.setIfInBounds_toArray, List.set_cons_zero, List.set_cons_succ] at hK
                  clear hs
                  go_simp
                  all_goals (try go_wp2_with (first | (go_at_call 65; refine (rCross_any _ _ _ _ _).mono ?_; rintro e w' ⟨x, hX, rfl, hb1⟩) | (go_at_call 66; refine (rDot_any _ _ _ _ _).mono ?_; rintro e w' ⟨x, hX, rfl, hb1⟩)))
                  all_goals first | exact hK.out _ _ ⟨_, hX, rfl⟩ hb1 | exact hK.out _ _ ⟨_, _, _, hD1, hD2, fv_res .add .f64 _ _ _, rfl⟩ (by first | exact bl_refl _ | exact bl_drewN (bl_refl _) _) | exact hK.out _ _ ⟨_, _, _, _, _, hD1, hD2, hG, hD3, fv_res .add .f64 _ _ _, rfl⟩ (by first | exact bl_refl _ | exact bl_drewN (bl_refl _) _) | exact hK.out _ _ ⟨_, ⟨_, _, _, _, _, _, _, _, _, _, hA1, hA2, hC, hD1, hD2, hD3, hG, hH, fv_res .mul .f64 _ _ _⟩, rfl⟩ (by first | exact bl_refl _ | exact bl_drewN (bl_refl _) _) | exact hK.out _ _ ⟨_, hT, rfl⟩ (bl_refl _) | exact hK.out _ _ rfl (bl_refl _) | exact hK.out _ _ rfl (by assumption) | exact hK.out _ _ (by assumption) (by assumption)
                · cases ho
                  simp only [Act.put, List.setIfInBounds_toArray, List.set_cons_zero, List.set_cons_succ] at hK
                  clear hs
                  go_simp
                  all_goals (try go_wp2_with (first | (go_at_call 65; refine (rCross_any _ _ _ _ _).mono ?_; rintro e w' ⟨x, hX, rfl, hb1⟩) | (go_at_call 66; refine (rDot_any _ _ _ _ _).mono ?_; rintro e w' ⟨x, hX, rfl, hb1⟩)))
                  all_goals first | exact hK.out _ _ ⟨_, hX, rfl⟩ hb1 | exact hK.out _ _ ⟨_, _, _, hD1, hD2, fv_res .add .f64 _ _ _, rfl⟩ (by first | exact bl_refl _ | exact bl_drewN (bl_refl _) _) | exact hK.out _ _ ⟨_, _, _, _, _, hD1, hD2, hG, hD3, fv_res .add .f64 _ _ _, rfl⟩ (by first | exact bl_refl _ | exact bl_drewN (bl_refl _) _) | exact hK.out _ _ ⟨_, ⟨_, _, _, _, _, _, _, _, _, _, hA1, hA2, hC, hD1, hD2, hD3, hG, hH, fv_res .mul .f64 _ _ _⟩, rfl⟩ (by first | exact bl_refl _ | exact bl_drewN (bl_refl _) _) | exact hK.out _ _ ⟨_, hT, rfl⟩ (bl_refl _) | exact hK.out _ _ rfl (bl_refl _) | exact hK.out _ _ rfl (by assumption) | exact hK.out _ _ (by assumption) (by assumption)
                · cases ho
                  have e0 : s 0 = _ := hs 0 (by decide) (by kernel_rfl)
                  have e1 : s 1 = _ := hs 1 (by decide) (by kernel_rfl)
                  simp only [e0, e1] at hK ⊢
                  simp only [Act.put, List.setIfInBounds_toArray, List.set_cons_zero, List.set_cons_succ] at hK
                  clear hs
                  go_simp
                  all_goals (try go_wp2_with (first | (go_at_call 65; refine (rCross_any _ _ _ _ _).mono ?_; rintro e w' ⟨x, hX, rfl, hb1⟩) | (go_at_call 66; refine (rDot_any _ _ _ _ _).mono ?_; rintro e w' ⟨x, hX, rfl, hb1⟩)))
                  all_goals first | exact hK.out _ _ ⟨_, hX, rfl⟩ hb1 | exact hK.out _ _ ⟨_, _, _, hD1, hD2, fv_res .add .f64 _ _ _, rfl⟩ (by first | exact bl_refl _ | exact bl_drewN (bl_refl _) _) | exact hK.out _ _ ⟨_, _, _, _, _, hD1, hD2, hG, hD3, fv_res .add .f64 _ _ _, rfl⟩ (by first | exact bl_refl _ | exact bl_drewN (bl_refl _) _) | exact hK.out _ _ ⟨_, ⟨_, _, _, _, _, _, _, _, _, _, hA1, hA2, hC, hD1, hD2, hD3, hG, hH, fv_res .mul .f64 _ _ _⟩, rfl⟩ (by first | exact bl_refl _ | exact bl_drewN (bl_refl _) _) | exact hK.out _ _ ⟨_, hT, rfl⟩ (bl_refl _) | exact hK.out _ _ rfl (bl_refl _) | exact hK.out _ _ rfl (by assumption) | exact hK.out _ _ (by assumption) (by assumption)
                · cases ho
                  simp only [Act.put, List.setIfInBounds_toArray, List.set_cons_zero, List.set_cons_succ] at hK
                  clear hs
                  go_simp
                  all_goals (try go_wp2_with (first | (go_at_call 65; refine (rCross_any _ _ _ _ _).mono ?_; rintro e w' ⟨x, hX, rfl, hb1⟩) | (go_at_call 66; refine (rDot_any _ _ _ _ _).mono ?_; rintro e w' ⟨x, hX, rfl, hb1⟩)))
                  all_goals first | exact hK.out _ _ ⟨_, hX, rfl⟩ hb1 | exact hK.out _ _ ⟨_, _, _, hD1, hD2, fv_res .add .f64 _ _ _, rfl⟩ (by first | exact bl_refl _ | exact bl_drewN (bl_refl _) _) | exact hK.out _ _ ⟨_, _, _, _, _, hD1, hD2, hG, hD3, fv_res .add .f64 _ _ _, rfl⟩ (by first | exact bl_refl _ | exact bl_drewN (bl_refl _) _) | exact hK.out _ _ ⟨_, ⟨_, _, _, _, _, _, _, _, _, _, hA1, hA2, hC, hD1, hD2, hD3, hG, hH, fv_res .mul .f64 _ _ _⟩, rfl⟩ (by first | exact bl_refl _ | exact bl_drewN (bl_refl _) _) | exact hK.out _ _ ⟨_, hT, rfl⟩ (bl_refl _) | exact hK.out _ _ rfl (bl_refl _) | exact hK.out _ _ rfl (by assumption) | exact hK.out _ _ (by assumption) (by assumption)
                · cases ho
                  simp only [Act.put, List.setIfInBounds_toArray, List.set_cons_zero, List.set_cons_succ] at hK
                  clear hs
                  go_simp
                  all_goals (try go_wp2_with (first | (go_at_call 65; refine (rCross_any _ _ _ _ _).mono ?_; rintro e w' ⟨x, hX, rfl, hb1⟩) | (go_at_call 66; refine (rDot_any _ _ _ _ _).mono ?_; rintro e w' ⟨x, hX, rfl, hb1⟩)))
                  all_goals first | exact hK.out _ _ ⟨_, hX, rfl⟩ hb1 | exact hK.out _ _ ⟨_, _, _, hD1, hD2, fv_res .add .f64 _ _ _, rfl⟩ (by first | exact bl_refl _ | exact bl_drewN (bl_refl _) _) | exact hK.out _ _ ⟨_, _, _, _, _, hD1, hD2, hG, hD3, fv_res .add .f64 _ _ _, rfl⟩ (by first | exact bl_refl _ | exact bl_drewN (bl_refl _) _) | exact hK.out _ _ ⟨_, ⟨_, _, _, _, _, _, _, _, _, _, hA1, hA2, hC, hD1, hD2, hD3, hG, hH, fv_res .mul .f64 _ _ _⟩, rfl⟩ (by first | exact bl_refl _ | exact bl_drewN (bl_refl _) _) | exact hK.out _ _ ⟨_, hT, rfl⟩ (bl_refl _) | exact hK.out _ _ rfl (bl_refl _) | exact hK.out _ _ rfl (by assumption) | exact hK.out _ _ (by assumption) (by assumption)
                · cases ho
                  have e3 : s 3 = _ := hs 3 (by decide) (by kernel_rfl)
                  have e4 : s 4 = _ := hs 4 (by decide) (by kernel_rfl)
                  simp only [e3, e4] at hK ⊢
                  simp only [Act.put, List.setIfInBounds_toArray, List.set_cons_zero, List.set_cons_succ] at hK
                  clear hs
                  go_simp
                  all_goals (try go_wp2_with (first | (go_at_call 65; refine (rCross_any _ _ _ _ _).mono ?_; rintro e w' ⟨x, hX, rfl, hb1⟩) | (go_at_call 66; refine (rDot_any _ _ _ _ _).mono ?_; rintro e w' ⟨x, hX, rfl, hb1⟩)))
                  all_goals first | exact hK.out _ _ ⟨_, hX, rfl⟩ hb1 | exact hK.out _ _ ⟨_, _, _, hD1, hD2, fv_res .add .f64 _ _ _, rfl⟩ (by first | exact bl_refl _ | exact bl_drewN (bl_refl _) _) | exact hK.out _ _ ⟨_, _, _, _, _, hD1, hD2, hG, hD3, fv_res .add .f64 _ _ _, rfl⟩ (by first | exact bl_refl _ | exact bl_drewN (bl_refl _) _) | exact hK.out _ _ ⟨_, ⟨_, _, _, _, _, _, _, _, _, _, hA1, hA2, hC, hD1, hD2, hD3, hG, hH, fv_res .mul .f64 _ _ _⟩, rfl⟩ (by first | exact bl_refl _ | exact bl_drewN (bl_refl _) _) | exact hK.out _ _ ⟨_, hT, rfl⟩ (bl_refl _) | exact hK.out _ _ rfl (bl_refl _) | exact hK.out _ _ rfl (by assumption) | exact hK.out _ _ (by assumption) (by assumption)
                · cases ho
                  simp only [Act.put, List.setIfInBounds_toArray, List.set_cons_zero, List.set_cons_succ] at hK
                  clear hs
                  go_simp
                  all_goals (try go_wp2_with (first | (go_at_call 65; refine (rCross_any _ _ _ _ _).mono ?_; rintro e w' ⟨x, hX, rfl, hb1⟩) | (go_at_call 66; refine (rDot_any _ _ _ _ _).mono ?_; rintro e w' ⟨x, hX, rfl, hb1⟩)))
                  all_goals first | exact hK.out _ _ ⟨_, hX, rfl⟩ hb1 | exact hK.out _ _ ⟨_, _, _, hD1, hD2, fv_res .add .f64 _ _ _, rfl⟩ (by first | exact bl_refl _ | exact bl_drewN (bl_refl _) _) | exact hK.out _ _ ⟨_, _, _, _, _, hD1, hD2, hG, hD3, fv_res .add .f64 _ _ _, rfl⟩ (by first | exact bl_refl _ | exact bl_drewN (bl_refl _) _) | exact hK.out _ _ ⟨_, ⟨_, _, _, _, _, _, _, _, _, _, hA1, hA2, hC, hD1, hD2, hD3, hG, hH, fv_res .mul .f64 _ _ _⟩, rfl⟩ (by first | exact bl_refl _ | exact bl_drewN (bl_refl _) _) | exact hK.out _ _ ⟨_, hT, rfl⟩ (bl_refl _) | exact hK.out _ _ rfl (bl_refl _) | exact hK.out _ _ rfl (by assumption) | exact hK.out _ _ (by assumption) (by assumption)
                · cases ho
                  simp only [Act.put, List.setIfInBounds_toArray, List.set_cons_zero, List.set_cons_succ] at hK
                  clear hs
                  go_simp
                  all_goals (try go_wp2_with (first | (go_at_call 65; refine (rCross_any _ _ _ _ _).mono ?_; rintro e w' ⟨x, hX, rfl, hb1⟩) | (go_at_call 66; refine (rDot_any _ _ _ _ _).mono ?_; rintro e w' ⟨x, hX, rfl, hb1⟩)))
                  all_goals first | exact hK.out _ _ ⟨_, hX, rfl⟩ hb1 | exact hK.out _ _ ⟨_, _, _, hD1, hD2, fv_res .add .f64 _ _ _, rfl⟩ (by first | exact bl_refl _ | exact bl_drewN (bl_refl _) _) | exact hK.out _ _ ⟨_, _, _, _, _, hD1, hD2, hG, hD3, fv_res .add .f64 _ _ _, rfl⟩ (by first | exact bl_refl _ | exact bl_drewN (bl_refl _) _) | exact hK.out _ _ ⟨_, ⟨_, _, _, _, _, _, _, _, _, _, hA1, hA2, hC, hD1, hD2, hD3, hG, hH, fv_res .mul .f64 _ _ _⟩, rfl⟩ (by first | exact bl_refl _ | exact bl_drewN (bl_refl _) _) | exact hK.out _ _ ⟨_, hT, rfl⟩ (bl_refl _) | exact hK.out _ _ rfl (bl_refl _) | exact hK.out _ _ rfl (by assumption) | exact hK.out _ _ (by assumption) (by assumption)
                · cases ho
                  have e6 : s 6 = _ := hs 6 (by decide) (by kernel_rfl)
                  have e7 : s 7 = _ := hs 7 (by decide) (by kernel_rfl)
                  simp only [e6, e7] at hK ⊢
                  simp only [Act.put, List.setIfInBounds_toArray, List.set_cons_zero, List.set_cons_succ] at hK
                  clear hs
                  go_simp
                  all_goals (try go_wp2_with (first | (go_at_call 65; refine (rCross_any _ _ _ _ _).mono ?_; rintro e w' ⟨x, hX, rfl, hb1⟩) | (go_at_call 66; refine (rDot_any _ _ _ _ _).mono ?_; rintro e w' ⟨x, hX, rfl, hb1⟩)))
                  all_goals first | exact hK.out _ _ ⟨_, hX, rfl⟩ hb1 | exact hK.out _ _ ⟨_, _, _, hD1, hD2, fv_res .add .f64 _ _ _, rfl⟩ (by first | exact bl_refl _ | exact bl_drewN (bl_refl _) _) | exact hK.out _ _ ⟨_, _, _, _, _, hD1, hD2, hG, hD3, fv_res .add .f64 _ _ _, rfl⟩ (by first | exact bl_refl _ | exact bl_drewN (bl_refl _) _) | exact hK.out _ _ ⟨_, ⟨_, _, _, _, _, _, _, _, _, _, hA1, hA2, hC, hD1, hD2, hD3, hG, hH, fv_res .mul .f64 _ _ _⟩, rfl⟩ (by first | exact bl_refl _ | exact bl_drewN (bl_refl _) _) | exact hK.out _ _ ⟨_, hT, rfl⟩ (bl_refl _) | exact hK.out _ _ rfl (bl_refl _) | exact hK.out _ _ rfl (by assumption) | exact hK.out _ _ (by assumption) (by assumption)
                · cases ho
                  obtain ⟨d1, hD1, e5⟩ := hs 5 (by decide) (by kernel_rfl)
                  obtain ⟨d2, hD2, e8⟩ := hs 8 (by decide) (by kernel_rfl)
                  simp only [e5, e8] at hK ⊢
                  simp only [Act.put, List.setIfInBounds_toArray, List.set_cons_zero, List.set_cons_succ] at hK
                  clear hs
                  go_simp
                  all_goals (try go_wp2_with (first | (go_at_call 65; refine (rCross_any _ _ _ _ _).mono ?_; rintro e w' ⟨x, hX, rfl, hb1⟩) | (go_at_call 66; refine (rDot_any _ _ _ _ _).mono ?_; rintro e w' ⟨x, hX, rfl, hb1⟩)))
                  all_goals first | exact hK.out _ _ ⟨_, hX, rfl⟩ hb1 | exact hK.out _ _ ⟨_, _, _, hD1, hD2, fv_res .add .f64 _ _ _, rfl⟩ (by first | exact bl_refl _ | exact bl_drewN (bl_refl _) _) | exact hK.out _ _ ⟨_, _, _, _, _, hD1, hD2, hG, hD3, fv_res .add .f64 _ _ _, rfl⟩ (by first | exact bl_refl _ | exact bl_drewN (bl_refl _) _) | exact hK.out _ _ ⟨_, ⟨_, _, _, _, _, _, _, _, _, _, hA1, hA2, hC, hD1, hD2, hD3, hG, hH, fv_res .mul .f64 _ _ _⟩, rfl⟩ (by first | exact bl_refl _ | exact bl_drewN (bl_refl _) _) | exact hK.out _ _ ⟨_, hT, rfl⟩ (bl_refl _) | exact hK.out _ _ rfl (bl_refl _) | exact hK.out _ _ rfl (by assumption) | exact hK.out _ _ (by assumption) (by assumption)
                · cases ho
                  simp only [Act.put, List.setIfInBounds_toArray, List.set_cons_zero, List.set_cons_succ] at hK
                  clear hs
                  go_simp
                  all_goals (try go_wp2_with (first | (go_at_call 65; refine (rCross_any _ _ _ _ _).mono ?_; rintro e w' ⟨x, hX, rfl, hb1⟩) | (go_at_call 66; refine (rDot_any _ _ _ _ _).mono ?_; rintro e w' ⟨x, hX, rfl, hb1⟩)))
                  all_goals first | exact hK.out _ _ ⟨_, hX, rfl⟩ hb1 | exact hK.out _ _ ⟨_, _, _, hD1, hD2, fv_res .add .f64 _ _ _, rfl⟩ (by first | exact bl_refl _ | exact bl_drewN (bl_refl _) _) | exact hK.out _ _ ⟨_, _, _, _, _, hD1, hD2, hG, hD3, fv_res .add .f64 _ _ _, rfl⟩ (by first | exact bl_refl _ | exact bl_drewN (bl_refl _) _) | exact hK.out _ _ ⟨_, ⟨_, _, _, _, _, _, _, _, _, _, hA1, hA2, hC, hD1, hD2, hD3, hG, hH, fv_res .mul .f64 _ _ _⟩, rfl⟩ (by first | exact bl_refl _ | exact bl_drewN (bl_refl _) _) | exact hK.out _ _ ⟨_, hT, rfl⟩ (bl_refl _) | exact hK.out _ _ rfl (bl_refl _) | exact hK.out _ _ rfl (by assumption) | exact hK.out _ _ (by assumption) (by assumption)
                · cases ho
                  simp only [Act.put, List.setIfInBounds_toArray, List.set_cons_zero, List.set_cons_succ] at hK
                  clear hs
                  go_simp
                  all_goals (try go_wp2_with (first | (go_at_call 65; refine (rCross_any _ _ _ _ _).mono ?_; rintro e w' ⟨x, hX, rfl, hb1⟩) | (go_at_call 66; refine (rDot_any _ _ _ _ _).mono ?_; rintro e w' ⟨x, hX, rfl, hb1⟩)))
                  all_goals first | exact hK.out _ _ ⟨_, hX, rfl⟩ hb1 | exact hK.out _ _ ⟨_, _, _, hD1, hD2, fv_res .add .f64 _ _ _, rfl⟩ (by first | exact bl_refl _ | exact bl_drewN (bl_refl _) _) | exact hK.out _ _ ⟨_, _, _, _, _, hD1, hD2, hG, hD3, fv_res .add .f64 _ _ _, rfl⟩ (by first | exact bl_refl _ | exact bl_drewN (bl_refl _) _) | exact hK.out _ _ ⟨_, ⟨_, _, _, _, _, _, _, _, _, _, hA1, hA2, hC, hD1, hD2, hD3, hG, hH, fv_res .mul .f64 _ _ _⟩, rfl⟩ (by first | exact bl_refl _ | exact bl_drewN (bl_refl _) _) | exact hK.out _ _ ⟨_, hT, rfl⟩ (bl_refl _) | exact hK.out _ _ rfl (bl_refl _) | exact hK.out _ _ rfl (by assumption) | exact hK.out _ _ (by assumption) (by assumption)
                · cases ho
                  have e10 : s 10 = _ := hs 10 (by decide) (by kernel_rfl)
                  have e11 : s 11 = _ := hs 11 (by decide) (by kernel_rfl)
                  simp only [e10, e11] at hK ⊢
                  simp only [Act.put, List.setIfInBounds_toArray, List.set_cons_zero, List.set_cons_succ] at hK
                  clear hs
                  go_simp
                  all_goals (try go_wp2_with (first | (go_at_call 65; refine (rCross_any _ _ _ _ _).mono ?_; rintro e w' ⟨x, hX, rfl, hb1⟩) | (go_at_call 66; refine (rDot_any _ _ _ _ _).mono ?_; rintro e w' ⟨x, hX, rfl, hb1⟩)))
                  all_goals first | exact hK.out _ _ ⟨_, hX, rfl⟩ hb1 | exact hK.out _ _ ⟨_, _, _, hD1, hD2, fv_res .add .f64 _ _ _, rfl⟩ (by first | exact bl_refl _ | exact bl_drewN (bl_refl _) _) | exact hK.out _ _ ⟨_, _, _, _, _, hD1, hD2, hG, hD3, fv_res .add .f64 _ _ _, rfl⟩ (by first | exact bl_refl _ | exact bl_drewN (bl_refl _) _) | exact hK.out _ _ ⟨_, ⟨_, _, _, _, _, _, _, _, _, _, hA1, hA2, hC, hD1, hD2, hD3, hG, hH, fv_res .mul .f64 _ _ _⟩, rfl⟩ (by first | exact bl_refl _ | exact bl_drewN (bl_refl _) _) | exact hK.out _ _ ⟨_, hT, rfl⟩ (bl_refl _) | exact hK.out _ _ rfl (bl_refl _) | exact hK.out _ _ rfl (by assumption) | exact hK.out _ _ (by assumption) (by assumption)
                · cases ho
                  obtain ⟨d1, d2, g, hD1, hD2, hG, e9⟩ := hs 9 (by decide) (by kernel_rfl)
                  obtain ⟨d3, hD3, e12⟩ := hs 12 (by decide) (by kernel_rfl)
                  simp only [e9, e12] at hK ⊢
                  simp only [Act.put, List.setIfInBounds_toArray, List.set_cons_zero, List.set_cons_succ] at hK
                  clear hs
                  go_simp
                  all_goals (try go_wp2_with (first | (go_at_call 65; refine (rCross_any _ _ _ _ _).mono ?_; rintro e w' ⟨x, hX, rfl, hb1⟩) | (go_at_call 66; refine (rDot_any _ _ _ _ _).mono ?_; rintro e w' ⟨x, hX, rfl, hb1⟩)))
                  all_goals first | exact hK.out _ _ ⟨_, hX, rfl⟩ hb1 | exact hK.out _ _ ⟨_, _, _, hD1, hD2, fv_res .add .f64 _ _ _, rfl⟩ (by first | exact bl_refl _ | exact bl_drewN (bl_refl _) _) | exact hK.out _ _ ⟨_, _, _, _, _, hD1, hD2, hG, hD3, fv_res .add .f64 _ _ _, rfl⟩ (by first | exact bl_refl _ | exact bl_drewN (bl_refl _) _) | exact hK.out _ _ ⟨_, ⟨_, _, _, _, _, _, _, _, _, _, hA1, hA2, hC, hD1, hD2, hD3, hG, hH, fv_res .mul .f64 _ _ _⟩, rfl⟩ (by first | exact bl_refl _ | exact bl_drewN (bl_refl _) _) | exact hK.out _ _ ⟨_, hT, rfl⟩ (bl_refl _) | exact hK.out _ _ rfl (bl_refl _) | exact hK.out _ _ rfl (by assumption) | exact hK.out _ _ (by assumption) (by assumption)
                · cases ho
                  obtain ⟨c, hC, e2⟩ := hs 2 (by decide) (by kernel_rfl)
                  obtain ⟨d1, d2, g, d3, h, hD1, hD2, hG, hD3, hH, e13⟩ := hs 13 (by decide) (by kernel_rfl)
                  simp only [e2, e13] at hK ⊢
                  simp only [Act.put, List.setIfInBounds_toArray, List.set_cons_zero, List.set_cons_succ] at hK
                  clear hs
                  go_simp
                  all_goals (try go_wp2_with (first | (go_at_call 65; refine (rCross_any _ _ _ _ _).mono ?_; rintro e w' ⟨x, hX, rfl, hb1⟩) | (go_at_call 66; refine (rDot_any _ _ _ _ _).mono ?_; rintro e w' ⟨x, hX, rfl, hb1⟩)))
                  all_goals first | exact hK.out _ _ ⟨_, hX, rfl⟩ hb1 | exact hK.out _ _ ⟨_, _, _, hD1, hD2, fv_res .add .f64 _ _ _, rfl⟩ (by first | exact bl_refl _ | exact bl_drewN (bl_refl _) _) | exact hK.out _ _ ⟨_, _, _, _, _, hD1, hD2, hG, hD3, fv_res .add .f64 _ _ _, rfl⟩ (by first | exact bl_refl _ | exact bl_drewN (bl_refl _) _) | exact hK.out _ _ ⟨_, ⟨_, _, _, _, _, _, _, _, _, _, hA1, hA2, hC, hD1, hD2, hD3, hG, hH, fv_res .mul .f64 _ _ _⟩, rfl⟩ (by first | exact bl_refl _ | exact bl_drewN (bl_refl _) _) | exact hK.out _ _ ⟨_, hT, rfl⟩ (bl_refl _) | exact hK.out _ _ rfl (bl_refl _) | exact hK.out _ _ rfl (by assumption) | exact hK.out _ _ (by assumption) (by assumption)
                · cases ho
                  obtain ⟨t, hT, e14⟩ := hs 14 (by decide) (by kernel_rfl)
                  simp only [e14] at hK ⊢
                  simp only [Act.put, List.setIfInBounds_toArray, List.set_cons_zero, List.set_cons_succ] at hK
                  clear hs
                  go_simp
                  all_goals (try go_wp2_with (first | (go_at_call 65; refine (rCross_any _ _ _ _ _).mono ?_; rintro e w' ⟨x, hX, rfl, hb1⟩) | (go_at_call 66; refine (rDot_any _ _ _ _ _).mono ?_; rintro e w' ⟨x, hX, rfl, hb1⟩)))
                  all_goals first | exact hK.out _ _ ⟨_, hX, rfl⟩ hb1 | exact hK.out _ _ ⟨_, _, _, hD1, hD2, fv_res .add .f64 _ _ _, rfl⟩ (by first | exact bl_refl _ | exact bl_drewN (bl_refl _) _) | exact hK.out _ _ ⟨_, _, _, _, _, hD1, hD2, hG, hD3, fv_res .add .f64 _ _ _, rfl⟩ (by first | exact bl_refl _ | exact bl_drewN (bl_refl _) _) | exact hK.out _ _ ⟨_, ⟨_, _, _, _, _, _, _, _, _, _, hA1, hA2, hC, hD1, hD2, hD3, hG, hH, fv_res .mul .f64 _ _ _⟩, rfl⟩ (by first | exact bl_refl _ | exact bl_drewN (bl_refl _) _) | exact hK.out _ _ ⟨_, hT, rfl⟩ (bl_refl _) | exact hK.out _ _ rfl (bl_refl _) | exact hK.out _ _ rfl (by assumption) | exact hK.out _ _ (by assumption) (by assumption)
              case ht_wc =>
                intro s hs W hb hJ
                have e0 : s 0 = _ := hs 0 (by decide)
                have e1 : s 1 = _ := hs 1 (by decide)
                obtain ⟨_, _, e2⟩ := hs 2 (by decide)
                have e3 : s 3 = _ := hs 3 (by decide)
                have e4 : s 4 = _ := hs 4 (by decide)
                obtain ⟨_, _, e5⟩ := hs 5 (by decide)
                have e6 : s 6 = _ := hs 6 (by decide)
                have e7 : s 7 = _ := hs 7 (by decide)
                obtain ⟨_, _, e8⟩ := hs 8 (by decide)
                obtain ⟨_, _, _, _, _, _, e9⟩ := hs 9 (by decide)
                have e10 : s 10 = _ := hs 10 (by decide)
                have e11 : s 11 = _ := hs 11 (by decide)
                obtain ⟨_, _, e12⟩ := hs 12 (by decide)
                obtain ⟨_, _, _, _, _, _, _, _, _, _, e13⟩ := hs 13 (by decide)
                obtain ⟨_, _, e14⟩ := hs 14 (by decide)
                obtain ⟨t, hT, e15⟩ := hs 15 (by decide)
                simp only [e0, e1, e2, e3, e4, e5, e6, e7, e8, e9, e10, e11, e12, e13, e14, e15]
                clear hs
                refine tail_end ?_
                have BX := bl_trans (bl_trans BFa BFb) hb
                have BZ := bl_trans hB BX
                by_cases hk0 : k = 0
                · have hkI : ((k : Int) == 0) = true := by rw [hk0]; rfl
                  have hkH := hide hk0
                  clear hk0
                  go_wp2
                  refine ⟨⟨k + 1, _, fun q => if q = k then t else ts q, by omega, by go_num, rfl, BZ, ?_, .inr ⟨by omega, ?_⟩, keep BX z0, keep BX z1, keep BX z2, keep BX zr0, keep BX zr1, keep BX zr2, keep BX zr3, keep BX zc0, keep BX zc1⟩, by simp [intOf]; omega⟩
                  · intro q hq
                    by_cases e : q = k
                    · subst e; simp only [if_true]; rw [← unhide ejH]; exact hT
                    · simp only [if_neg e]; exact hts q (by omega)
                  · have hk0 := unhide hkH
                    subst hk0
                    exact accR_zero _ _
                · have hkI : ¬ (k : Int) = 0 := by omega
                  have q2 := run_add Tryz.prog
                  go_wp2
                  refine ⟨⟨k + 1, _, fun q => if q = k then t else ts q, by omega, by go_num, rfl, bl_drewN BZ _, ?_, .inr ⟨by omega, ?_⟩, keep BX z0, keep BX z1, keep BX z2, keep BX zr0, keep BX zr1, keep BX zr2, keep BX zr3, keep BX zc0, keep BX zc1⟩, by simp [intOf]; omega⟩
                  · intro q hq
                    by_cases e : q = k
                    · subst e; simp only [if_true]; rw [← unhide ejH]; exact hT
                    · simp only [if_neg e]; exact hts q (by omega)
                  · rcases unhide hacH with ⟨h, _⟩ | ⟨_, hac⟩
                    · exact absurd h hk0
                    have h1 := accR_succ (accR.eq (ys := fun q => if q + 1 = k then t else ts (q + 1)) (fun i hi => by simp only [if_neg (show ¬ i + 1 = k by omega)]) hac) (r := fv .add .f64 sm t W) (by
                      simp only [if_pos (show k - 1 + 1 = k by omega)]
                      exact fv_res .add .f64 _ _ _)
                    rw [show k - 1 + 1 = k by omega] at h1
                    simp only [Nat.add_sub_cancel, if_neg (show ¬ 0 = k by omega)]
                    exact h1
      · have hkn : k = n := by omega
        subst hkn
        rcases hac with ⟨h, _⟩ | ⟨_, hac⟩
        · omega
        have fR : ∀ o, wr.frozen? ⟨w.heap.size + 1, o, none⟩ = false := fun o => (hB.2 _).trans (fresh_frozen (by omega))
        go_wp2
        refine bodyPost_ret (v := .tuple #[.agg #[.float .f64 _, .float .f64 _, .float .f64 cx, .float .f64 cy], .int .i64 0]) (by simp [zr0, zr1, zr2, zr3, results, Tryz.results39, go_sem] <;> (first | exact ⟨⟨rfl, rfl, rfl, rfl⟩, rfl⟩ | exact ⟨rfl, rfl, rfl, rfl, rfl⟩ | exact ⟨rfl, rfl⟩ | rfl)) rfl ⟨_, _, _, _, _, .inr ⟨hv, hp, fv_res .mul .f64 _ _ _, ⟨_, _, ⟨ts, by rw [hcx, hcy]; exact hts, hac⟩, fv_res .quo .f64 _ _ _, fv_res .mul .f64 _ _ _⟩, hcx.symm, hcy.symm, rfl⟩, rfl, ?_⟩
        repeat (first | exact hB | apply bl_drewN | refine bl_set ?_ (by simp <;> omega))
  · have hx := h.bel (bl_alloc (bl_alloc (bl_refl w) #[.int .u8 3, .float .f64 r, .slice a n cap] 27) #[.float .f64 0, .float .f64 0, .float .f64 0, .float .f64 0] 34)
    go_enter Tryz.func39, Tryz.ntmps39
    go_wp2_with (first | (go_at_call 63; refine (rarea_all _ n xs ys _ hx).mono ?_; rintro e w' ⟨rfl, hb⟩; rw [hv]; (first | have B := bl_trans B hb | have B := bl_trans (by repeat (first | exact B | apply bl_drewN)) hb | have B := bl_trans (by repeat (first | exact B | apply bl_drewN | apply bl_drew | apply bl_alloc | refine bl_set ?_ (by simp <;> omega))) hb | have B := hb); (try clear hc hf hz); obtain ⟨hc, hf⟩ := bcell B; have hz := B.size; (try simp at hz)))
    all_goals
      refine bodyPost_ret (v := .tuple #[.agg #[.float .f64 0, .float .f64 0, .float .f64 0, .float .f64 0], .int .i64 v]) (by simp [hc, results, Tryz.results39, go_sem] <;> (first | exact ⟨⟨rfl, rfl, rfl, rfl⟩, rfl⟩ | exact ⟨rfl, rfl, rfl, rfl, rfl⟩ | exact ⟨rfl, rfl⟩ | rfl)) rfl ⟨_, _, _, _, _, .inl ⟨by rw [hv]; exact h0, rfl, rfl, rfl, rfl, hv.symm⟩, rfl, ?_⟩
      repeat (first | exact bl_refl _ | assumption | apply bl_drewN | apply bl_drew | apply bl_alloc | refine bl_set ?_ (by simp <;> omega) | refine bl_trans ?_ (by assumption))

end Go.Proofs.YtfaiaepkmlmoaaaGreat
