/-
  What each function of package poly answers, and what the reference of its chapter answers: one contract a function, for every float: the answer stands in the relation of its formula to what was given; of the memory that was there nothing has turned.
-/
import Derived.Test.YtiamgphpcjokmabVec
import Derived.Test.YtiamgphpcjokmabRu
import Derived.Below
import Derived.WalkKit
import Derived.WalkLawsBesides
import Derived.WalkSpells
import Derived.ProofKit
import Derived.OpenShut
import Derived.Deep.RegionHeld3
namespace Go.Proofs.Ytiamgphpcjokmab
open Go.ChangeShapes Go.WideShapes Go.ChangeAt Go.RowKit
set_option linter.unusedVariables false
set_option linter.unusedSimpArgs false


set_option maxHeartbeats 4000000 in
theorem rReach7 (V : Value) (n : Nat) (xs ys : Nat → Nat) (k : Int) (r : Nat) (w : World) (h : AnyS w V n xs ys) (hr : okK .f64 r) (p q : Nat) (op : okK .f64 p) (oq : okK .f64 q) : Calls Try.prog 15 #[.agg #[.int .u8 k, .float .f64 r, V], .agg #[.float .f64 p, .float .f64 q]] w fun e w' => e = .returned (.tuple #[.float .f64 (reaK k r xs ys n p q), .int .i64 (aE k r xs ys n p q)]) ∧ Bel w w' := by
  obtain ⟨a, c, rfl, hcc, hm, _, o, hA⟩ := id h
  by_cases hz : shE k r xs ys n = 0
  · obtain ⟨_, hn1, _, _⟩ := sh_gd o hr hz
    obtain ⟨hp, b, off, rfl, hsl⟩ : 0 < n ∧ ∃ b off, a = some ⟨b, off, none⟩ ∧ Sl w b off n xs ys := by
      rcases hA with e | e
      · omega
      · exact e
    have hb0 := hsl.lt hp
    obtain ⟨g, _, _, hrb⟩ := sh_gd o hr hz
    have z0_0 : (w.alloc (.cells #[.int .u8 k, .float .f64 r, .slice (some ⟨b, off, none⟩) n c] 25)).cell? ⟨w.heap.size, 0, none⟩ = some (.int .u8 k) := by rw [World.cell?_alloc_new]; rfl
    replace z0_0 := up_alloc (o := .cells #[.float .f64 p, .float .f64 q] 27) z0_0
    have z0_1 : (w.alloc (.cells #[.int .u8 k, .float .f64 r, .slice (some ⟨b, off, none⟩) n c] 25)).cell? ⟨w.heap.size, 1, none⟩ = some (.float .f64 r) := by rw [World.cell?_alloc_new]; rfl
    replace z0_1 := up_alloc (o := .cells #[.float .f64 p, .float .f64 q] 27) z0_1
    have z0_2 : (w.alloc (.cells #[.int .u8 k, .float .f64 r, .slice (some ⟨b, off, none⟩) n c] 25)).cell? ⟨w.heap.size, 2, none⟩ = some (.slice (some ⟨b, off, none⟩) n c) := by rw [World.cell?_alloc_new]; rfl
    replace z0_2 := up_alloc (o := .cells #[.float .f64 p, .float .f64 q] 27) z0_2
    have z1_0 : ((w.alloc (.cells #[.int .u8 k, .float .f64 r, .slice (some ⟨b, off, none⟩) n c] 25)).alloc (.cells #[.float .f64 p, .float .f64 q] 27)).cell? ⟨w.heap.size + 1, 0, none⟩ = some (.float .f64 p) := by rw [← (show (w.alloc (.cells #[.int .u8 k, .float .f64 r, .slice (some ⟨b, off, none⟩) n c] 25)).heap.size = w.heap.size + 1 by simp only [World.size_alloc]), World.cell?_alloc_new]; rfl
    have z1_1 : ((w.alloc (.cells #[.int .u8 k, .float .f64 r, .slice (some ⟨b, off, none⟩) n c] 25)).alloc (.cells #[.float .f64 p, .float .f64 q] 27)).cell? ⟨w.heap.size + 1, 1, none⟩ = some (.float .f64 q) := by rw [← (show (w.alloc (.cells #[.int .u8 k, .float .f64 r, .slice (some ⟨b, off, none⟩) n c] 25)).heap.size = w.heap.size + 1 by simp only [World.size_alloc]), World.cell?_alloc_new]; rfl
    have B0 : Bel w ((w.alloc (.cells #[.int .u8 k, .float .f64 r, .slice (some ⟨b, off, none⟩) n c] 25)).alloc (.cells #[.float .f64 p, .float .f64 q] 27)) := bl_alloc (bl_alloc (bl_refl w) _ _) _ _
    have h1 := h.bel B0
    cases hw : (withinK .f64 p 4787326403894837248 && withinK .f64 q 4787326403894837248)
    · go_enter Try.func15, Try.ntmps15
      go_wp2_with (first | (go_at_call 40; refine (rchk7 _ _ xs ys k r _ h1).mono ?_; rintro e wc ⟨rfl, hb⟩; rw [hz]; have Bc := bl_trans B0 hb; have S0 := keep hb z0_0; have S1 := keep hb z0_1; have S2 := keep hb z0_2; have K0 := keep hb z1_0; have K1 := keep hb z1_1) | (go_at_call 43; refine (real7 _ _ _ op oq).mono ?_; rintro e wd ⟨rfl, hb⟩; unfold inB; rw [hw]; replace Bc := bl_trans Bc hb; replace S0 := keep hb S0; replace S1 := keep hb S1; replace S2 := keep hb S2; replace K0 := keep hb K0; replace K1 := keep hb K1))
      refine bodyPost_ret (v := .tuple #[.float .f64 0, .int .i64 5]) (by simp [results, Try.results15, go_sem] <;> (first | exact ⟨⟨rfl, rfl⟩, rfl⟩ | exact ⟨rfl, rfl, rfl, rfl⟩ | exact ⟨rfl, rfl, rfl⟩ | exact ⟨rfl, rfl⟩ | rfl)) rfl ⟨by unfold reaK; rw [aE_out hz hw]; rfl, ?_⟩
      repeat (first | exact bl_refl _ | assumption | apply bl_drewN | apply bl_drew | apply bl_alloc | refine bl_set ?_ (by simp <;> omega) | refine bl_trans ?_ (by assumption))
    · obtain ⟨h4, h5⟩ := in_bd op oq (show inB p q = true from hw)
      have hadd := fun t W => run_add_dv Try.prog t (rcK xs ys p q (n - 1)) r W (rc_bd g h4 h5 (n - 1) (by omega)).2.1 hrb.2.1
      obtain ⟨g1, g2⟩ := g 0 hp
      have s1 : Bd 42 (Dv .sub (xs 0) p) := bd_sub g1 h4 (by decide)
      have s2 : Bd 42 (Dv .sub (ys 0) q) := bd_sub g2 h5 (by decide)
      have hp' : (0 : Int) < (n : Int) := by omega
      go_enter Try.func15, Try.ntmps15
      go_wp2_with (first | (go_at_call 40; refine (rchk7 _ _ xs ys k r _ h1).mono ?_; rintro e wc ⟨rfl, hb⟩; rw [hz]; have Bc := bl_trans B0 hb; have S0 := keep hb z0_0; have S1 := keep hb z0_1; have S2 := keep hb z0_2; have K0 := keep hb z1_0; have K1 := keep hb z1_1) | (go_at_call 43; refine (real7 _ _ _ op oq).mono ?_; rintro e wd ⟨rfl, hb⟩; unfold inB; rw [hw]; replace Bc := bl_trans Bc hb; replace S0 := keep hb S0; replace S1 := keep hb S1; replace S2 := keep hb S2; replace K0 := keep hb K0; replace K1 := keep hb K1))
      obtain ⟨x0, x1⟩ := (hsl.bel Bc) 0 hp
      rw [show off + 0 * 2 = off by omega] at x0 x1
      have hbb := Nat.lt_of_lt_of_le hb0 Bc.size
      refine wp_region_multiA 8 (fun i v => match i with | 0 => v = .pointer (some ⟨w.heap.size, 2, none⟩) | 1 => v = .slice (some ⟨b, off, none⟩) n c | 2 => v = .pointer (some ⟨b, off, none⟩) | 3 => v = .agg #[.float .f64 (xs 0), .float .f64 (ys 0)] | 4 => v = .agg #[.float .f64 p, .float .f64 q] | 5 => v = .agg #[.float .f64 (Dv .sub (xs 0) p), .float .f64 (Dv .sub (ys 0) q)] | 6 => v = .float .f64 (lnK (Dv .sub (xs 0) p) (Dv .sub (ys 0) q)) | 7 => v = .float .f64 (lnK (Dv .sub (xs 0) p) (Dv .sub (ys 0) q)) | _ => False) (fun i => match i with  | _ => none) ?A_wa (by kernel_rfl) (by kernel_rfl) ?hA_wa ?ha_wa ?hq_wa [] rfl ?ht_wa
      case hA_wa =>
        intro s
        simp only [putL, dstO, Act.put, List.getElem?_toArray, List.getElem?_cons_zero, List.getElem?_cons_succ, Option.bind_some, List.setIfInBounds_toArray, List.set_cons_zero, List.set_cons_succ, if_true]
        all_goals exact rfl
      case ha_wa =>
        intro i o ob hi ho hal
        rcases (show i = 0 ∨ i = 1 ∨ i = 2 ∨ i = 3 ∨ i = 4 ∨ i = 5 ∨ i = 6 ∨ i = 7 by omega) with rfl | rfl | rfl | rfl | rfl | rfl | rfl | rfl
        · cases hal
        · cases hal
        · cases hal
        · cases hal
        · cases hal
        · cases hal
        · cases hal
        · cases hal
      case hq_wa =>
        intro i o hi ho hal s hs W hb K hK
        have y0 := keep hb S2; have y1 := keep hb K0; have y2 := keep hb K1; have y3 := keep hb x0; have y4 := keep hb x1; have hbb2 := Nat.lt_of_lt_of_le hbb hb.size
        rcases (show i = 0 ∨ i = 1 ∨ i = 2 ∨ i = 3 ∨ i = 4 ∨ i = 5 ∨ i = 6 ∨ i = 7 by omega) with rfl | rfl | rfl | rfl | rfl | rfl | rfl | rfl
        · cases ho
          simp only [Act.put, List.setIfInBounds_toArray, List.set_cons_zero, List.set_cons_succ] at hK
          clear hs
          go_simp
          all_goals (try go_wp2_with (first | (go_at_call 46; refine (minus7 _ (by with_reducible assumption) (by with_reducible assumption) (by with_reducible assumption) (by with_reducible assumption)).mono ?_; rintro e w1 ⟨rfl, hb1⟩) | (go_at_call 54; refine (length7 _ (by with_reducible assumption) (by with_reducible assumption) (by decide)).mono ?_; rintro e w1 ⟨rfl, hb1⟩)))
          all_goals first | exact hK.out _ _ rfl (bl_refl _) | exact hK.out _ _ rfl (by assumption) | exact hK.out _ _ (by assumption) (by assumption)
        · cases ho
          have e0 : s 0 = _ := hs 0 (by decide) (by kernel_rfl)
          simp only [e0] at hK ⊢
          simp only [Act.put, List.setIfInBounds_toArray, List.set_cons_zero, List.set_cons_succ] at hK
          clear hs
          go_simp
          all_goals (try go_wp2_with (first | (go_at_call 46; refine (minus7 _ (by with_reducible assumption) (by with_reducible assumption) (by with_reducible assumption) (by with_reducible assumption)).mono ?_; rintro e w1 ⟨rfl, hb1⟩) | (go_at_call 54; refine (length7 _ (by with_reducible assumption) (by with_reducible assumption) (by decide)).mono ?_; rintro e w1 ⟨rfl, hb1⟩)))
          all_goals first | exact hK.out _ _ rfl (bl_refl _) | exact hK.out _ _ rfl (by assumption) | exact hK.out _ _ (by assumption) (by assumption)
        · cases ho
          have e1 : s 1 = _ := hs 1 (by decide) (by kernel_rfl)
          simp only [e1] at hK ⊢
          simp only [Act.put, List.setIfInBounds_toArray, List.set_cons_zero, List.set_cons_succ] at hK
          clear hs
          go_simp
          all_goals (try go_wp2_with (first | (go_at_call 46; refine (minus7 _ (by with_reducible assumption) (by with_reducible assumption) (by with_reducible assumption) (by with_reducible assumption)).mono ?_; rintro e w1 ⟨rfl, hb1⟩) | (go_at_call 54; refine (length7 _ (by with_reducible assumption) (by with_reducible assumption) (by decide)).mono ?_; rintro e w1 ⟨rfl, hb1⟩)))
          all_goals first | exact hK.out _ _ rfl (bl_refl _) | exact hK.out _ _ rfl (by assumption) | exact hK.out _ _ (by assumption) (by assumption)
        · cases ho
          have e2 : s 2 = _ := hs 2 (by decide) (by kernel_rfl)
          simp only [e2] at hK ⊢
          simp only [Act.put, List.setIfInBounds_toArray, List.set_cons_zero, List.set_cons_succ] at hK
          clear hs
          go_simp
          all_goals (try go_wp2_with (first | (go_at_call 46; refine (minus7 _ (by with_reducible assumption) (by with_reducible assumption) (by with_reducible assumption) (by with_reducible assumption)).mono ?_; rintro e w1 ⟨rfl, hb1⟩) | (go_at_call 54; refine (length7 _ (by with_reducible assumption) (by with_reducible assumption) (by decide)).mono ?_; rintro e w1 ⟨rfl, hb1⟩)))
          all_goals first | exact hK.out _ _ rfl (bl_refl _) | exact hK.out _ _ rfl (by assumption) | exact hK.out _ _ (by assumption) (by assumption)
        · cases ho
          simp only [Act.put, List.setIfInBounds_toArray, List.set_cons_zero, List.set_cons_succ] at hK
          clear hs
          go_simp
          all_goals (try go_wp2_with (first | (go_at_call 46; refine (minus7 _ (by with_reducible assumption) (by with_reducible assumption) (by with_reducible assumption) (by with_reducible assumption)).mono ?_; rintro e w1 ⟨rfl, hb1⟩) | (go_at_call 54; refine (length7 _ (by with_reducible assumption) (by with_reducible assumption) (by decide)).mono ?_; rintro e w1 ⟨rfl, hb1⟩)))
          all_goals first | exact hK.out _ _ rfl (bl_refl _) | exact hK.out _ _ rfl (by assumption) | exact hK.out _ _ (by assumption) (by assumption)
        · cases ho
          have e3 : s 3 = _ := hs 3 (by decide) (by kernel_rfl)
          have e4 : s 4 = _ := hs 4 (by decide) (by kernel_rfl)
          simp only [e3, e4] at hK ⊢
          simp only [Act.put, List.setIfInBounds_toArray, List.set_cons_zero, List.set_cons_succ] at hK
          clear hs
          go_simp
          all_goals (try go_wp2_with (first | (go_at_call 46; refine (minus7 _ (by with_reducible assumption) (by with_reducible assumption) (by with_reducible assumption) (by with_reducible assumption)).mono ?_; rintro e w1 ⟨rfl, hb1⟩) | (go_at_call 54; refine (length7 _ (by with_reducible assumption) (by with_reducible assumption) (by decide)).mono ?_; rintro e w1 ⟨rfl, hb1⟩)))
          all_goals first | exact hK.out _ _ rfl (bl_refl _) | exact hK.out _ _ rfl (by assumption) | exact hK.out _ _ (by assumption) (by assumption)
        · cases ho
          have e5 : s 5 = _ := hs 5 (by decide) (by kernel_rfl)
          simp only [e5] at hK ⊢
          simp only [Act.put, List.setIfInBounds_toArray, List.set_cons_zero, List.set_cons_succ] at hK
          clear hs
          go_simp
          all_goals (try go_wp2_with (first | (go_at_call 46; refine (minus7 _ (by with_reducible assumption) (by with_reducible assumption) (by with_reducible assumption) (by with_reducible assumption)).mono ?_; rintro e w1 ⟨rfl, hb1⟩) | (go_at_call 54; refine (length7 _ (by with_reducible assumption) (by with_reducible assumption) (by decide)).mono ?_; rintro e w1 ⟨rfl, hb1⟩)))
          all_goals first | exact hK.out _ _ rfl (bl_refl _) | exact hK.out _ _ rfl (by assumption) | exact hK.out _ _ (by assumption) (by assumption)
        · cases ho
          have e6 : s 6 = _ := hs 6 (by decide) (by kernel_rfl)
          simp only [e6] at hK ⊢
          simp only [Act.put, List.setIfInBounds_toArray, List.set_cons_zero, List.set_cons_succ] at hK
          clear hs
          go_simp
          all_goals (try go_wp2_with (first | (go_at_call 46; refine (minus7 _ (by with_reducible assumption) (by with_reducible assumption) (by with_reducible assumption) (by with_reducible assumption)).mono ?_; rintro e w1 ⟨rfl, hb1⟩) | (go_at_call 54; refine (length7 _ (by with_reducible assumption) (by with_reducible assumption) (by decide)).mono ?_; rintro e w1 ⟨rfl, hb1⟩)))
          all_goals first | exact hK.out _ _ rfl (bl_refl _) | exact hK.out _ _ rfl (by assumption) | exact hK.out _ _ (by assumption) (by assumption)
      case ht_wa =>
        intro s hs W hb hJ
        have e0 : s 0 = _ := hs 0 (by decide)
        have e1 : s 1 = _ := hs 1 (by decide)
        have e2 : s 2 = _ := hs 2 (by decide)
        have e3 : s 3 = _ := hs 3 (by decide)
        have e4 : s 4 = _ := hs 4 (by decide)
        have e5 : s 5 = _ := hs 5 (by decide)
        have e6 : s 6 = _ := hs 6 (by decide)
        have e7 : s 7 = _ := hs 7 (by decide)
        simp only [e0, e1, e2, e3, e4, e5, e6, e7]
        clear hs
        refine tail_end ?_
        replace Bc := bl_trans Bc hb
        replace S1 := keep hb S1
        replace S2 := keep hb S2
        replace K0 := keep hb K0
        replace K1 := keep hb K1
        go_wp2
        go_loopw [8, 7] (fun i' f' wr => ∃ k : Nat, 1 ≤ k ∧ k ≤ n ∧ i' = .int .i64 k ∧ f' = .float .f64 (rcK xs ys p q (k - 1)) ∧ Bel w wr ∧ wr.cell? ⟨w.heap.size, 1, none⟩ = some (.float .f64 r) ∧ wr.cell? ⟨w.heap.size, 2, none⟩ = some (.slice (some ⟨b, off, none⟩) n c) ∧ wr.cell? ⟨w.heap.size + 1, 0, none⟩ = some (.float .f64 p) ∧ wr.cell? ⟨w.heap.size + 1, 1, none⟩ = some (.float .f64 q)) (fun i' _ _ => n - (intOf i').toNat)
        case atStart => exact ⟨1, by omega, by omega, rfl, rfl, Bc, S1, S2, K0, K1⟩
        case round =>
          clear S1 S2 K0 K1 Bc hb x0 x1
          obtain ⟨k, hk1, hk, rfl, rfl, hB, S1, S2, K0, K1⟩ := hrel
          by_cases hlt : k < n
          · have k1 : (k : Int) < (n : Int) := by omega
            obtain ⟨g1, g2⟩ := g k hlt
            have s1 : Bd 42 (Dv .sub (xs k) p) := bd_sub g1 h4 (by decide)
            have s2 : Bd 42 (Dv .sub (ys k) q) := bd_sub g2 h5 (by decide)
            have mo1 := (rc_bd g h4 h5 (k - 1) (by omega)).1
            have mo2 := (ln_fin s1 s2).1
            have est : mostK .f64 (rcK xs ys p q (k - 1)) (lnK (Dv .sub (xs k) p) (Dv .sub (ys k) q)) = rcK xs ys p q k := by
              obtain ⟨j, rfl⟩ : ∃ j, k = j + 1 := ⟨k - 1, by omega⟩
              rfl
            obtain ⟨x0, x1⟩ := (hsl.bel hB) k hlt
            have hbb : b < wr.heap.size := Nat.lt_of_lt_of_le hb0 hB.size
            go_wp2
            refine wp_region_multiA 10 (fun i v => match i with | 0 => v = .float .f64 (rcK xs ys p q (k - 1)) | 1 => v = .pointer (some ⟨w.heap.size, 2, none⟩) | 2 => v = .slice (some ⟨b, off, none⟩) n c | 3 => v = .int .i64 (k : Int) | 4 => v = .pointer (some ⟨b, (off + k * 2), none⟩) | 5 => v = .agg #[.float .f64 (xs k), .float .f64 (ys k)] | 6 => v = .agg #[.float .f64 p, .float .f64 q] | 7 => v = .agg #[.float .f64 (Dv .sub (xs k) p), .float .f64 (Dv .sub (ys k) q)] | 8 => v = .float .f64 (lnK (Dv .sub (xs k) p) (Dv .sub (ys k) q)) | 9 => v = .float .f64 (rcK xs ys p q k) | _ => False) (fun i => match i with  | _ => none) ?A_wb (by kernel_rfl) (by kernel_rfl) ?hA_wb ?ha_wb ?hq_wb [10] rfl ?ht_wb
            case hA_wb =>
              intro s
              simp only [putL, dstO, Act.put, List.getElem?_toArray, List.getElem?_cons_zero, List.getElem?_cons_succ, Option.bind_some, List.setIfInBounds_toArray, List.set_cons_zero, List.set_cons_succ, if_true]
              all_goals exact rfl
            case ha_wb =>
              intro i o ob hi ho hal
              rcases (show i = 0 ∨ i = 1 ∨ i = 2 ∨ i = 3 ∨ i = 4 ∨ i = 5 ∨ i = 6 ∨ i = 7 ∨ i = 8 ∨ i = 9 by omega) with rfl | rfl | rfl | rfl | rfl | rfl | rfl | rfl | rfl | rfl
              · cases hal
              · cases hal
              · cases hal
              · cases hal
              · cases hal
              · cases hal
              · cases hal
              · cases hal
              · cases hal
              · cases hal
            case hq_wb =>
              intro i o hi ho hal s hs W hb K hK
              have y0 := keep hb S2; have y1 := keep hb K0; have y2 := keep hb K1; have y3 := keep hb x0; have y4 := keep hb x1; have hbb2 := Nat.lt_of_lt_of_le hbb hb.size
              rcases (show i = 0 ∨ i = 1 ∨ i = 2 ∨ i = 3 ∨ i = 4 ∨ i = 5 ∨ i = 6 ∨ i = 7 ∨ i = 8 ∨ i = 9 by omega) with rfl | rfl | rfl | rfl | rfl | rfl | rfl | rfl | rfl | rfl
              · cases ho
                simp only [Act.put, List.setIfInBounds_toArray, List.set_cons_zero, List.set_cons_succ] at hK
                clear hs
                go_simp
                all_goals (try go_wp2_with (first | (go_at_call 46; refine (minus7 _ (by with_reducible assumption) (by with_reducible assumption) (by with_reducible assumption) (by with_reducible assumption)).mono ?_; rintro e w1 ⟨rfl, hb1⟩) | (go_at_call 54; refine (length7 _ (by with_reducible assumption) (by with_reducible assumption) (by decide)).mono ?_; rintro e w1 ⟨rfl, hb1⟩) | (go_at_call 42; refine (rMost_any _ _ _ mo1 mo2).mono ?_; rintro e w1 ⟨rfl, hw⟩; rw [hw]; have hb1 := bl_refl W; rw [est])))
                all_goals first | exact hK.out _ _ rfl (bl_refl _) | exact hK.out _ _ rfl (by assumption) | exact hK.out _ _ (by assumption) (by assumption)
              · cases ho
                simp only [Act.put, List.setIfInBounds_toArray, List.set_cons_zero, List.set_cons_succ] at hK
                clear hs
                go_simp
                all_goals (try go_wp2_with (first | (go_at_call 46; refine (minus7 _ (by with_reducible assumption) (by with_reducible assumption) (by with_reducible assumption) (by with_reducible assumption)).mono ?_; rintro e w1 ⟨rfl, hb1⟩) | (go_at_call 54; refine (length7 _ (by with_reducible assumption) (by with_reducible assumption) (by decide)).mono ?_; rintro e w1 ⟨rfl, hb1⟩) | (go_at_call 42; refine (rMost_any _ _ _ mo1 mo2).mono ?_; rintro e w1 ⟨rfl, hw⟩; rw [hw]; have hb1 := bl_refl W; rw [est])))
                all_goals first | exact hK.out _ _ rfl (bl_refl _) | exact hK.out _ _ rfl (by assumption) | exact hK.out _ _ (by assumption) (by assumption)
              · cases ho
                have e1 : s 1 = _ := hs 1 (by decide) (by kernel_rfl)
                simp only [e1] at hK ⊢
                simp only [Act.put, List.setIfInBounds_toArray, List.set_cons_zero, List.set_cons_succ] at hK
                clear hs
                go_simp
                all_goals (try go_wp2_with (first | (go_at_call 46; refine (minus7 _ (by with_reducible assumption) (by with_reducible assumption) (by with_reducible assumption) (by with_reducible assumption)).mono ?_; rintro e w1 ⟨rfl, hb1⟩) | (go_at_call 54; refine (length7 _ (by with_reducible assumption) (by with_reducible assumption) (by decide)).mono ?_; rintro e w1 ⟨rfl, hb1⟩) | (go_at_call 42; refine (rMost_any _ _ _ mo1 mo2).mono ?_; rintro e w1 ⟨rfl, hw⟩; rw [hw]; have hb1 := bl_refl W; rw [est])))
                all_goals first | exact hK.out _ _ rfl (bl_refl _) | exact hK.out _ _ rfl (by assumption) | exact hK.out _ _ (by assumption) (by assumption)
              · cases ho
                simp only [Act.put, List.setIfInBounds_toArray, List.set_cons_zero, List.set_cons_succ] at hK
                clear hs
                go_simp
                all_goals (try go_wp2_with (first | (go_at_call 46; refine (minus7 _ (by with_reducible assumption) (by with_reducible assumption) (by with_reducible assumption) (by with_reducible assumption)).mono ?_; rintro e w1 ⟨rfl, hb1⟩) | (go_at_call 54; refine (length7 _ (by with_reducible assumption) (by with_reducible assumption) (by decide)).mono ?_; rintro e w1 ⟨rfl, hb1⟩) | (go_at_call 42; refine (rMost_any _ _ _ mo1 mo2).mono ?_; rintro e w1 ⟨rfl, hw⟩; rw [hw]; have hb1 := bl_refl W; rw [est])))
                all_goals first | exact hK.out _ _ rfl (bl_refl _) | exact hK.out _ _ rfl (by assumption) | exact hK.out _ _ (by assumption) (by assumption)
              · cases ho
                have e2 : s 2 = _ := hs 2 (by decide) (by kernel_rfl)
                have e3 : s 3 = _ := hs 3 (by decide) (by kernel_rfl)
                simp only [e2, e3] at hK ⊢
                simp only [Act.put, List.setIfInBounds_toArray, List.set_cons_zero, List.set_cons_succ] at hK
                clear hs
                go_simp
                all_goals (try go_wp2_with (first | (go_at_call 46; refine (minus7 _ (by with_reducible assumption) (by with_reducible assumption) (by with_reducible assumption) (by with_reducible assumption)).mono ?_; rintro e w1 ⟨rfl, hb1⟩) | (go_at_call 54; refine (length7 _ (by with_reducible assumption) (by with_reducible assumption) (by decide)).mono ?_; rintro e w1 ⟨rfl, hb1⟩) | (go_at_call 42; refine (rMost_any _ _ _ mo1 mo2).mono ?_; rintro e w1 ⟨rfl, hw⟩; rw [hw]; have hb1 := bl_refl W; rw [est])))
                all_goals first | exact hK.out _ _ rfl (bl_refl _) | exact hK.out _ _ rfl (by assumption) | exact hK.out _ _ (by assumption) (by assumption)
              · cases ho
                have e4 : s 4 = _ := hs 4 (by decide) (by kernel_rfl)
                simp only [e4] at hK ⊢
                simp only [Act.put, List.setIfInBounds_toArray, List.set_cons_zero, List.set_cons_succ] at hK
                clear hs
                go_simp
                all_goals (try go_wp2_with (first | (go_at_call 46; refine (minus7 _ (by with_reducible assumption) (by with_reducible assumption) (by with_reducible assumption) (by with_reducible assumption)).mono ?_; rintro e w1 ⟨rfl, hb1⟩) | (go_at_call 54; refine (length7 _ (by with_reducible assumption) (by with_reducible assumption) (by decide)).mono ?_; rintro e w1 ⟨rfl, hb1⟩) | (go_at_call 42; refine (rMost_any _ _ _ mo1 mo2).mono ?_; rintro e w1 ⟨rfl, hw⟩; rw [hw]; have hb1 := bl_refl W; rw [est])))
                all_goals first | exact hK.out _ _ rfl (bl_refl _) | exact hK.out _ _ rfl (by assumption) | exact hK.out _ _ (by assumption) (by assumption)
              · cases ho
                simp only [Act.put, List.setIfInBounds_toArray, List.set_cons_zero, List.set_cons_succ] at hK
                clear hs
                go_simp
                all_goals (try go_wp2_with (first | (go_at_call 46; refine (minus7 _ (by with_reducible assumption) (by with_reducible assumption) (by with_reducible assumption) (by with_reducible assumption)).mono ?_; rintro e w1 ⟨rfl, hb1⟩) | (go_at_call 54; refine (length7 _ (by with_reducible assumption) (by with_reducible assumption) (by decide)).mono ?_; rintro e w1 ⟨rfl, hb1⟩) | (go_at_call 42; refine (rMost_any _ _ _ mo1 mo2).mono ?_; rintro e w1 ⟨rfl, hw⟩; rw [hw]; have hb1 := bl_refl W; rw [est])))
                all_goals first | exact hK.out _ _ rfl (bl_refl _) | exact hK.out _ _ rfl (by assumption) | exact hK.out _ _ (by assumption) (by assumption)
              · cases ho
                have e5 : s 5 = _ := hs 5 (by decide) (by kernel_rfl)
                have e6 : s 6 = _ := hs 6 (by decide) (by kernel_rfl)
                simp only [e5, e6] at hK ⊢
                simp only [Act.put, List.setIfInBounds_toArray, List.set_cons_zero, List.set_cons_succ] at hK
                clear hs
                go_simp
                all_goals (try go_wp2_with (first | (go_at_call 46; refine (minus7 _ (by with_reducible assumption) (by with_reducible assumption) (by with_reducible assumption) (by with_reducible assumption)).mono ?_; rintro e w1 ⟨rfl, hb1⟩) | (go_at_call 54; refine (length7 _ (by with_reducible assumption) (by with_reducible assumption) (by decide)).mono ?_; rintro e w1 ⟨rfl, hb1⟩) | (go_at_call 42; refine (rMost_any _ _ _ mo1 mo2).mono ?_; rintro e w1 ⟨rfl, hw⟩; rw [hw]; have hb1 := bl_refl W; rw [est])))
                all_goals first | exact hK.out _ _ rfl (bl_refl _) | exact hK.out _ _ rfl (by assumption) | exact hK.out _ _ (by assumption) (by assumption)
              · cases ho
                have e7 : s 7 = _ := hs 7 (by decide) (by kernel_rfl)
                simp only [e7] at hK ⊢
                simp only [Act.put, List.setIfInBounds_toArray, List.set_cons_zero, List.set_cons_succ] at hK
                clear hs
                go_simp
                all_goals (try go_wp2_with (first | (go_at_call 46; refine (minus7 _ (by with_reducible assumption) (by with_reducible assumption) (by with_reducible assumption) (by with_reducible assumption)).mono ?_; rintro e w1 ⟨rfl, hb1⟩) | (go_at_call 54; refine (length7 _ (by with_reducible assumption) (by with_reducible assumption) (by decide)).mono ?_; rintro e w1 ⟨rfl, hb1⟩) | (go_at_call 42; refine (rMost_any _ _ _ mo1 mo2).mono ?_; rintro e w1 ⟨rfl, hw⟩; rw [hw]; have hb1 := bl_refl W; rw [est])))
                all_goals first | exact hK.out _ _ rfl (bl_refl _) | exact hK.out _ _ rfl (by assumption) | exact hK.out _ _ (by assumption) (by assumption)
              · cases ho
                have e0 : s 0 = _ := hs 0 (by decide) (by kernel_rfl)
                have e8 : s 8 = _ := hs 8 (by decide) (by kernel_rfl)
                simp only [e0, e8] at hK ⊢
                simp only [Act.put, List.setIfInBounds_toArray, List.set_cons_zero, List.set_cons_succ] at hK
                clear hs
                go_simp
                all_goals (try go_wp2_with (first | (go_at_call 46; refine (minus7 _ (by with_reducible assumption) (by with_reducible assumption) (by with_reducible assumption) (by with_reducible assumption)).mono ?_; rintro e w1 ⟨rfl, hb1⟩) | (go_at_call 54; refine (length7 _ (by with_reducible assumption) (by with_reducible assumption) (by decide)).mono ?_; rintro e w1 ⟨rfl, hb1⟩) | (go_at_call 42; refine (rMost_any _ _ _ mo1 mo2).mono ?_; rintro e w1 ⟨rfl, hw⟩; rw [hw]; have hb1 := bl_refl W; rw [est])))
                all_goals first | exact hK.out _ _ rfl (bl_refl _) | exact hK.out _ _ rfl (by assumption) | exact hK.out _ _ (by assumption) (by assumption)
            case ht_wb =>
              intro s hs W hb hJ
              have e0 : s 0 = _ := hs 0 (by decide)
              have e1 : s 1 = _ := hs 1 (by decide)
              have e2 : s 2 = _ := hs 2 (by decide)
              have e3 : s 3 = _ := hs 3 (by decide)
              have e4 : s 4 = _ := hs 4 (by decide)
              have e5 : s 5 = _ := hs 5 (by decide)
              have e6 : s 6 = _ := hs 6 (by decide)
              have e7 : s 7 = _ := hs 7 (by decide)
              have e8 : s 8 = _ := hs 8 (by decide)
              have e9 : s 9 = _ := hs 9 (by decide)
              simp only [e0, e1, e2, e3, e4, e5, e6, e7, e8, e9]
              clear hs
              refine tail_step rfl (fun K hK => ?_)
              go_simp
              refine hK.out _ _ ?_
              clear hK K
              refine tail_end ?_
              go_wp2
              exact ⟨⟨k + 1, by omega, by omega, by go_num, rfl, bl_trans hB hb, keep hb S1, keep hb S2, keep hb K0, keep hb K1⟩, by simp [intOf]; omega⟩
          · have hkn : k = n := by omega
            subst hkn
            go_wp2
            refine bodyPost_ret (v := .tuple #[.float .f64 (Dv .add (rcK xs ys p q (k - 1)) r), .int .i64 0]) (by simp [results, Try.results15, go_sem] <;> (first | exact ⟨⟨rfl, rfl⟩, rfl⟩ | exact ⟨rfl, rfl, rfl, rfl⟩ | exact ⟨rfl, rfl, rfl⟩ | exact ⟨rfl, rfl⟩ | rfl)) rfl ⟨by unfold reaK; rw [aE_in hz hw]; rfl, hB⟩
  · obtain ⟨v, hv⟩ : ∃ v, shE k r xs ys n = v := ⟨_, rfl⟩
    rw [hv] at hz
    have z0_0 : (w.alloc (.cells #[.int .u8 k, .float .f64 r, .slice a n c] 25)).cell? ⟨w.heap.size, 0, none⟩ = some (.int .u8 k) := by rw [World.cell?_alloc_new]; rfl
    replace z0_0 := up_alloc (o := .cells #[.float .f64 p, .float .f64 q] 27) z0_0
    have z0_1 : (w.alloc (.cells #[.int .u8 k, .float .f64 r, .slice a n c] 25)).cell? ⟨w.heap.size, 1, none⟩ = some (.float .f64 r) := by rw [World.cell?_alloc_new]; rfl
    replace z0_1 := up_alloc (o := .cells #[.float .f64 p, .float .f64 q] 27) z0_1
    have z0_2 : (w.alloc (.cells #[.int .u8 k, .float .f64 r, .slice a n c] 25)).cell? ⟨w.heap.size, 2, none⟩ = some (.slice a n c) := by rw [World.cell?_alloc_new]; rfl
    replace z0_2 := up_alloc (o := .cells #[.float .f64 p, .float .f64 q] 27) z0_2
    have z1_0 : ((w.alloc (.cells #[.int .u8 k, .float .f64 r, .slice a n c] 25)).alloc (.cells #[.float .f64 p, .float .f64 q] 27)).cell? ⟨w.heap.size + 1, 0, none⟩ = some (.float .f64 p) := by rw [← (show (w.alloc (.cells #[.int .u8 k, .float .f64 r, .slice a n c] 25)).heap.size = w.heap.size + 1 by simp only [World.size_alloc]), World.cell?_alloc_new]; rfl
    have z1_1 : ((w.alloc (.cells #[.int .u8 k, .float .f64 r, .slice a n c] 25)).alloc (.cells #[.float .f64 p, .float .f64 q] 27)).cell? ⟨w.heap.size + 1, 1, none⟩ = some (.float .f64 q) := by rw [← (show (w.alloc (.cells #[.int .u8 k, .float .f64 r, .slice a n c] 25)).heap.size = w.heap.size + 1 by simp only [World.size_alloc]), World.cell?_alloc_new]; rfl
    have B0 : Bel w ((w.alloc (.cells #[.int .u8 k, .float .f64 r, .slice a n c] 25)).alloc (.cells #[.float .f64 p, .float .f64 q] 27)) := bl_alloc (bl_alloc (bl_refl w) _ _) _ _
    have h1 := h.bel B0
    go_enter Try.func15, Try.ntmps15
    go_wp2_with (first | (go_at_call 40; refine (rchk7 _ _ xs ys k r _ h1).mono ?_; rintro e wc ⟨rfl, hb⟩; rw [hv]; have Bc := bl_trans B0 hb; have S0 := keep hb z0_0; have S1 := keep hb z0_1; have S2 := keep hb z0_2; have K0 := keep hb z1_0; have K1 := keep hb z1_1))
    refine bodyPost_ret (v := .tuple #[.float .f64 0, .int .i64 v]) (by simp [results, Try.results15, go_sem] <;> (first | exact ⟨⟨rfl, rfl⟩, rfl⟩ | exact ⟨rfl, rfl, rfl, rfl⟩ | exact ⟨rfl, rfl, rfl⟩ | exact ⟨rfl, rfl⟩ | rfl)) rfl ⟨by unfold reaK; rw [aE_no hv hz, if_neg hz], ?_⟩
    repeat (first | exact bl_refl _ | assumption | apply bl_drewN | apply bl_drew | apply bl_alloc | refine bl_set ?_ (by simp <;> omega) | refine bl_trans ?_ (by assumption))

end Go.Proofs.Ytiamgphpcjokmab
