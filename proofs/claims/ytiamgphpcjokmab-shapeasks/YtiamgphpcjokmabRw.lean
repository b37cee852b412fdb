/-
  What each function of package poly answers, and what the reference of its chapter answers: one contract a function, for every float: the answer stands in the relation of its formula to what was given; of the memory that was there nothing has turned.
-/
import Derived.Test.YtiamgphpcjokmabVec
import Derived.Test.YtiamgphpcjokmabRu
import Derived.Below
import Derived.Deep.DeepCutAuto
import Derived.WalkKit
import Derived.WalkLawsBesides
import Derived.WalkSpells
import Derived.ProofKit
import Derived.OpenShut
import Derived.Deep.RegionHeld3
namespace Go.Proofs.Ytiamgphpcjokmab
open Go.ChangeShapes Go.WideShapes Go.ChangeAt Go.RowKit
set_option linter.unusedVariables false
set_option linter.unusedSimpArgs false


set_option maxHeartbeats 16000000 in
theorem rHas7_2 (b off c : Nat) (xs ys : Nat → Nat) (r : Nat) (w : World) (h : AnyS w (.slice (some ⟨b, off, none⟩) 2 c) 2 xs ys) (hr : okK .f64 r) (hsl : Sl w b off 2 xs ys) (hb0 : b < w.heap.size) (p q : Nat) (op : okK .f64 p) (oq : okK .f64 q) (hw : (withinK .f64 p 4787326403894837248 && withinK .f64 q 4787326403894837248) = true) (h4 : Bd 40 p) (h5 : Bd 40 q) (g : Gd xs ys 2) (hrb : Bd 40 r) (hcp : cpB (xs 0) (ys 0) (xs 1) (ys 1) = false) (hz : shE 2 r xs ys 2 = 0) : Calls Try.prog 11 #[.agg #[.int .u8 2, .float .f64 r, .slice (some ⟨b, off, none⟩) 2 c], .agg #[.float .f64 p, .float .f64 q]] w fun e w' => e = .returned (.tuple #[.bool (hasA 2 r xs ys 2 p q), .int .i64 (aE 2 r xs ys 2 p q)]) ∧ Bel w w' := by
      obtain ⟨n1, n2⟩ := nx_bd g h4 h5 hcp
      have z0_0 : (w.alloc (.cells #[.int .u8 2, .float .f64 r, .slice (some ⟨b, off, none⟩) 2 c] 25)).cell? ⟨w.heap.size, 0, none⟩ = some (.int .u8 2) := by rw [World.cell?_alloc_new]; rfl
      replace z0_0 := up_alloc (o := .cells #[.float .f64 p, .float .f64 q] 27) z0_0
      have z0_1 : (w.alloc (.cells #[.int .u8 2, .float .f64 r, .slice (some ⟨b, off, none⟩) 2 c] 25)).cell? ⟨w.heap.size, 1, none⟩ = some (.float .f64 r) := by rw [World.cell?_alloc_new]; rfl
      replace z0_1 := up_alloc (o := .cells #[.float .f64 p, .float .f64 q] 27) z0_1
      have z0_2 : (w.alloc (.cells #[.int .u8 2, .float .f64 r, .slice (some ⟨b, off, none⟩) 2 c] 25)).cell? ⟨w.heap.size, 2, none⟩ = some (.slice (some ⟨b, off, none⟩) 2 c) := by rw [World.cell?_alloc_new]; rfl
      replace z0_2 := up_alloc (o := .cells #[.float .f64 p, .float .f64 q] 27) z0_2
      have z1_0 : ((w.alloc (.cells #[.int .u8 2, .float .f64 r, .slice (some ⟨b, off, none⟩) 2 c] 25)).alloc (.cells #[.float .f64 p, .float .f64 q] 27)).cell? ⟨w.heap.size + 1, 0, none⟩ = some (.float .f64 p) := by rw [← (show (w.alloc (.cells #[.int .u8 2, .float .f64 r, .slice (some ⟨b, off, none⟩) 2 c] 25)).heap.size = w.heap.size + 1 by simp only [World.size_alloc]), World.cell?_alloc_new]; rfl
      have z1_1 : ((w.alloc (.cells #[.int .u8 2, .float .f64 r, .slice (some ⟨b, off, none⟩) 2 c] 25)).alloc (.cells #[.float .f64 p, .float .f64 q] 27)).cell? ⟨w.heap.size + 1, 1, none⟩ = some (.float .f64 q) := by rw [← (show (w.alloc (.cells #[.int .u8 2, .float .f64 r, .slice (some ⟨b, off, none⟩) 2 c] 25)).heap.size = w.heap.size + 1 by simp only [World.size_alloc]), World.cell?_alloc_new]; rfl
      have B0 : Bel w ((w.alloc (.cells #[.int .u8 2, .float .f64 r, .slice (some ⟨b, off, none⟩) 2 c] 25)).alloc (.cells #[.float .f64 p, .float .f64 q] 27)) := bl_alloc (bl_alloc (bl_refl w) _ _) _ _
      have h1 := h.bel B0
      have s1 : Bd 202 (Dv .sub p (nxX xs ys p q)) := bd_sub (wbd h4 200 (by decide)) n1 (by decide)
      have s2 : Bd 202 (Dv .sub q (nxY xs ys p q)) := bd_sub (wbd h5 200 (by decide)) n2 (by decide)
      have c1 := cmp_le .f64
      have q1 := fun t W => run_mul_dv Try.prog t r r W hrb.2.1 hrb.2.1
      have ef : leK .f64 (dtK (Dv .sub p (nxX xs ys p q)) (Dv .sub q (nxY xs ys p q)) (Dv .sub p (nxX xs ys p q)) (Dv .sub q (nxY xs ys p q))) (Dv .mul r r) = hcB (nxX xs ys p q) (nxY xs ys p q) r p q := rfl
      obtain ⟨x0, x1⟩ := hsl 0 (by decide)
      rw [show off + 0 * 2 = off by omega] at x0 x1
      obtain ⟨x2, x3⟩ := hsl 1 (by decide)
      rw [show off + 1 * 2 = off + 2 by omega] at x2 x3
      go_enter Try.func11, Try.ntmps11
      go_wp2_with (first | (go_at_call 40; refine (rchk7 _ _ xs ys 2 r _ h1).mono ?_; rintro e wc ⟨rfl, hb⟩; rw [hz]; have Bc := bl_trans B0 hb; have S0 := keep hb z0_0; have S1 := keep hb z0_1; have S2 := keep hb z0_2; have K0 := keep hb z1_0; have K1 := keep hb z1_1; have hbc := hb) | (go_at_call 43; refine (real7 _ _ _ op oq).mono ?_; rintro e wd ⟨rfl, hb⟩; unfold inB; rw [hw]; replace Bc := bl_trans Bc hb; replace S0 := keep hb S0; replace S1 := keep hb S1; replace S2 := keep hb S2; replace K0 := keep hb K0; replace K1 := keep hb K1; replace x0 := keep Bc x0; replace x1 := keep Bc x1; have hbb := Nat.lt_of_lt_of_le hb0 Bc.size; obtain ⟨Q0, Q1, _⟩ := new2 wd 27 (.float .f64 (xs 0)) (.float .f64 (ys 0)); have S0' := up_alloc (o := .cells #[.float .f64 (xs 0), .float .f64 (ys 0)] 27) S0; have S1' := up_alloc (o := .cells #[.float .f64 (xs 0), .float .f64 (ys 0)] 27) S1; have S2' := up_alloc (o := .cells #[.float .f64 (xs 0), .float .f64 (ys 0)] 27) S2; have K0' := up_alloc (o := .cells #[.float .f64 (xs 0), .float .f64 (ys 0)] 27) K0; have K1' := up_alloc (o := .cells #[.float .f64 (xs 0), .float .f64 (ys 0)] 27) K1; have x0' := up_alloc (o := .cells #[.float .f64 (xs 0), .float .f64 (ys 0)] 27) x0; have x1' := up_alloc (o := .cells #[.float .f64 (xs 0), .float .f64 (ys 0)] 27) x1; have Bd' := Bc; replace Bc := bl_alloc Bc #[.float .f64 (xs 0), .float .f64 (ys 0)] 27; have x2' := up_alloc (o := .cells #[.float .f64 (xs 0), .float .f64 (ys 0)] 27) (keep Bd' x2); have x3' := up_alloc (o := .cells #[.float .f64 (xs 0), .float .f64 (ys 0)] 27) (keep Bd' x3); have hld := (bl_trans hbc hb).size; simp only [World.size_alloc] at hld))
      have hbb3 : b < (wd.alloc (.cells #[.float .f64 (xs 0), .float .f64 (ys 0)] 27)).heap.size := by rw [World.size_alloc]; omega
      have neH : wd.heap.size ≠ w.heap.size := by omega
      have neP : wd.heap.size ≠ w.heap.size + 1 := by omega
      have lw : w.heap.size ≤ wd.heap.size := by omega
      go_cut [] from 33 to 45 (fun wx => Bel w wx ∧ wx.cell? ⟨w.heap.size, 1, none⟩ = some (.float .f64 r) ∧ wx.cell? ⟨w.heap.size + 1, 0, none⟩ = some (.float .f64 p) ∧ wx.cell? ⟨w.heap.size + 1, 1, none⟩ = some (.float .f64 q) ∧ wx.cell? ⟨wd.heap.size, 0, none⟩ = some (.float .f64 (nxX xs ys p q)) ∧ wx.cell? ⟨wd.heap.size, 1, none⟩ = some (.float .f64 (nxY xs ys p q)))
      case first =>
        go_region_with (first | (go_at_call 45; refine (next7 xs ys p q _ g h4 h5 hcp).mono ?_; rintro e w9 ⟨rfl, hb⟩; have v0 := keep hb (up_drew Q0); have v1 := keep hb (up_drew Q1); have ZF := fun o => (hb.2 ⟨wd.heap.size, o, none⟩).trans (((bl_drew (bl_refl _)).2 _).trans (fz_alloc (fresh_frozen (W := wd) (by show _ ≤ _; omega))))))
        all_goals
          obtain ⟨G0, G1⟩ := set2 (p := (.float .f64 (nxX xs ys p q))) (q := (.float .f64 (nxY xs ys p q))) v0 v1
          go_wp2
          go_meet
          exact ⟨bl_set (bl_set (bl_trans (bl_drew Bc) hb) lw) lw, up_set2 neH (up_set2 neH (keep hb (up_drew S1'))), up_set2 neP (up_set2 neP (keep hb (up_drew K0'))), up_set2 neP (up_set2 neP (keep hb (up_drew K1'))), G0, G1⟩
      case rest =>
        obtain ⟨Bc, S1', K0', K1', G0, G1⟩ := hcut
        go_wp2_with (first | (go_at_call 46; refine (minus7 _ (wbd h4 200 (by decide)) (wbd h5 200 (by decide)) n1 n2).mono ?_; rintro e wm ⟨rfl, hb⟩; replace Bc := bl_alloc (bl_trans Bc hb) #[.float .f64 (Dv .sub p (nxX xs ys p q)), .float .f64 (Dv .sub q (nxY xs ys p q))] 27; clear S1; have S1 := up_alloc (o := .cells #[.float .f64 (Dv .sub p (nxX xs ys p q)), .float .f64 (Dv .sub q (nxY xs ys p q))] 27) (keep hb S1'); obtain ⟨D0, D1, _⟩ := new2 wm 27 (.float .f64 (Dv .sub p (nxX xs ys p q))) (.float .f64 (Dv .sub q (nxY xs ys p q)))))
        refine wp_region_multiA 11 (fun i v => match i with | 0 => v = .agg #[.float .f64 (Dv .sub p (nxX xs ys p q)), .float .f64 (Dv .sub q (nxY xs ys p q))] | 1 => v = .agg #[.float .f64 (Dv .sub p (nxX xs ys p q)), .float .f64 (Dv .sub q (nxY xs ys p q))] | 2 => v = .float .f64 (dtK (Dv .sub p (nxX xs ys p q)) (Dv .sub q (nxY xs ys p q)) (Dv .sub p (nxX xs ys p q)) (Dv .sub q (nxY xs ys p q))) | 3 => v = .pointer (some ⟨w.heap.size, 1, none⟩) | 4 => v = .float .f64 r | 5 => v = .pointer (some ⟨w.heap.size, 1, none⟩) | 6 => v = .float .f64 r | 7 => v = .float .f64 (Dv .mul r r) | 8 => v = .bool (hcB (nxX xs ys p q) (nxY xs ys p q) r p q) | 9 => v = .bool (hcB (nxX xs ys p q) (nxY xs ys p q) r p q) | 10 => v = .int .i64 0 | _ => False) (fun i => match i with  | _ => none) ?A_wh2 (by kernel_rfl) (by kernel_rfl) ?hA_wh2 ?ha_wh2 ?hq_wh2 [] rfl ?ht_wh2
        case hA_wh2 =>
          intro s
          simp only [putL, dstO, Act.put, List.getElem?_toArray, List.getElem?_cons_zero, List.getElem?_cons_succ, Option.bind_some, List.setIfInBounds_toArray, List.set_cons_zero, List.set_cons_succ, if_true]
          all_goals exact rfl
        case ha_wh2 =>
          intro i o ob hi ho hal
          rcases (show i = 0 ∨ i = 1 ∨ i = 2 ∨ i = 3 ∨ i = 4 ∨ i = 5 ∨ i = 6 ∨ i = 7 ∨ i = 8 ∨ i = 9 ∨ i = 10 by omega) with rfl | rfl | rfl | rfl | rfl | rfl | rfl | rfl | rfl | rfl | rfl
          · cases hal
          · cases hal
          · cases hal
          · cases hal
          · cases hal
          · cases hal
          · cases hal
          · cases hal
          · cases hal
          · cases hal
          · cases hal
        case hq_wh2 =>
          intro i o hi ho hal s hs W hb K hK
          have y1 := keep hb S1; have y2 := keep hb D0; have y3 := keep hb D1
          rcases (show i = 0 ∨ i = 1 ∨ i = 2 ∨ i = 3 ∨ i = 4 ∨ i = 5 ∨ i = 6 ∨ i = 7 ∨ i = 8 ∨ i = 9 ∨ i = 10 by omega) with rfl | rfl | rfl | rfl | rfl | rfl | rfl | rfl | rfl | rfl | rfl
          · cases ho
            simp only [Act.put, List.setIfInBounds_toArray, List.set_cons_zero, List.set_cons_succ] at hK
            clear hs
            go_simp
            all_goals (try go_wp2_with (first | (go_at_call 47; refine (dot7 _ (by with_reducible assumption) (by with_reducible assumption) (by with_reducible assumption) (by with_reducible assumption) (by decide)).mono ?_; rintro e w1 ⟨rfl, hb1⟩)))
            all_goals first | exact hK.out _ _ rfl (bl_refl _) | exact hK.out _ _ rfl (by assumption) | exact hK.out _ _ (by assumption) (by assumption)
          · cases ho
            simp only [Act.put, List.setIfInBounds_toArray, List.set_cons_zero, List.set_cons_succ] at hK
            clear hs
            go_simp
            all_goals (try go_wp2_with (first | (go_at_call 47; refine (dot7 _ (by with_reducible assumption) (by with_reducible assumption) (by with_reducible assumption) (by with_reducible assumption) (by decide)).mono ?_; rintro e w1 ⟨rfl, hb1⟩)))
            all_goals first | exact hK.out _ _ rfl (bl_refl _) | exact hK.out _ _ rfl (by assumption) | exact hK.out _ _ (by assumption) (by assumption)
          · cases ho
            have e0 : s 0 = _ := hs 0 (by decide) (by kernel_rfl)
            have e1 : s 1 = _ := hs 1 (by decide) (by kernel_rfl)
            simp only [e0, e1] at hK ⊢
            simp only [Act.put, List.setIfInBounds_toArray, List.set_cons_zero, List.set_cons_succ] at hK
            clear hs
            go_simp
            all_goals (try go_wp2_with (first | (go_at_call 47; refine (dot7 _ (by with_reducible assumption) (by with_reducible assumption) (by with_reducible assumption) (by with_reducible assumption) (by decide)).mono ?_; rintro e w1 ⟨rfl, hb1⟩)))
            all_goals first | exact hK.out _ _ rfl (bl_refl _) | exact hK.out _ _ rfl (by assumption) | exact hK.out _ _ (by assumption) (by assumption)
          · cases ho
            simp only [Act.put, List.setIfInBounds_toArray, List.set_cons_zero, List.set_cons_succ] at hK
            clear hs
            go_simp
            all_goals (try go_wp2_with (first | (go_at_call 47; refine (dot7 _ (by with_reducible assumption) (by with_reducible assumption) (by with_reducible assumption) (by with_reducible assumption) (by decide)).mono ?_; rintro e w1 ⟨rfl, hb1⟩)))
            all_goals first | exact hK.out _ _ rfl (bl_refl _) | exact hK.out _ _ rfl (by assumption) | exact hK.out _ _ (by assumption) (by assumption)
          · cases ho
            have e3 : s 3 = _ := hs 3 (by decide) (by kernel_rfl)
            simp only [e3] at hK ⊢
            simp only [Act.put, List.setIfInBounds_toArray, List.set_cons_zero, List.set_cons_succ] at hK
            clear hs
            go_simp
            all_goals (try go_wp2_with (first | (go_at_call 47; refine (dot7 _ (by with_reducible assumption) (by with_reducible assumption) (by with_reducible assumption) (by with_reducible assumption) (by decide)).mono ?_; rintro e w1 ⟨rfl, hb1⟩)))
            all_goals first | exact hK.out _ _ rfl (bl_refl _) | exact hK.out _ _ rfl (by assumption) | exact hK.out _ _ (by assumption) (by assumption)
          · cases ho
            simp only [Act.put, List.setIfInBounds_toArray, List.set_cons_zero, List.set_cons_succ] at hK
            clear hs
            go_simp
            all_goals (try go_wp2_with (first | (go_at_call 47; refine (dot7 _ (by with_reducible assumption) (by with_reducible assumption) (by with_reducible assumption) (by with_reducible assumption) (by decide)).mono ?_; rintro e w1 ⟨rfl, hb1⟩)))
            all_goals first | exact hK.out _ _ rfl (bl_refl _) | exact hK.out _ _ rfl (by assumption) | exact hK.out _ _ (by assumption) (by assumption)
          · cases ho
            have e5 : s 5 = _ := hs 5 (by decide) (by kernel_rfl)
            simp only [e5] at hK ⊢
            simp only [Act.put, List.setIfInBounds_toArray, List.set_cons_zero, List.set_cons_succ] at hK
            clear hs
            go_simp
            all_goals (try go_wp2_with (first | (go_at_call 47; refine (dot7 _ (by with_reducible assumption) (by with_reducible assumption) (by with_reducible assumption) (by with_reducible assumption) (by decide)).mono ?_; rintro e w1 ⟨rfl, hb1⟩)))
            all_goals first | exact hK.out _ _ rfl (bl_refl _) | exact hK.out _ _ rfl (by assumption) | exact hK.out _ _ (by assumption) (by assumption)
          · cases ho
            have e4 : s 4 = _ := hs 4 (by decide) (by kernel_rfl)
            have e6 : s 6 = _ := hs 6 (by decide) (by kernel_rfl)
            simp only [e4, e6] at hK ⊢
            simp only [Act.put, List.setIfInBounds_toArray, List.set_cons_zero, List.set_cons_succ] at hK
            clear hs
            go_simp
            all_goals (try go_wp2_with (first | (go_at_call 47; refine (dot7 _ (by with_reducible assumption) (by with_reducible assumption) (by with_reducible assumption) (by with_reducible assumption) (by decide)).mono ?_; rintro e w1 ⟨rfl, hb1⟩)))
            all_goals first | exact hK.out _ _ rfl (bl_refl _) | exact hK.out _ _ rfl (by assumption) | exact hK.out _ _ (by assumption) (by assumption)
          · cases ho
            have e2 : s 2 = _ := hs 2 (by decide) (by kernel_rfl)
            have e7 : s 7 = _ := hs 7 (by decide) (by kernel_rfl)
            simp only [e2, e7] at hK ⊢
            simp only [Act.put, List.setIfInBounds_toArray, List.set_cons_zero, List.set_cons_succ] at hK
            clear hs
            go_simp
            all_goals (try go_wp2_with (first | (go_at_call 47; refine (dot7 _ (by with_reducible assumption) (by with_reducible assumption) (by with_reducible assumption) (by with_reducible assumption) (by decide)).mono ?_; rintro e w1 ⟨rfl, hb1⟩)))
            all_goals first | exact hK.out _ _ rfl (bl_refl _) | exact hK.out _ _ rfl (by assumption) | exact hK.out _ _ (by assumption) (by assumption)
          · cases ho
            have e8 : s 8 = _ := hs 8 (by decide) (by kernel_rfl)
            simp only [e8] at hK ⊢
            simp only [Act.put, List.setIfInBounds_toArray, List.set_cons_zero, List.set_cons_succ] at hK
            clear hs
            go_simp
            all_goals (try go_wp2_with (first | (go_at_call 47; refine (dot7 _ (by with_reducible assumption) (by with_reducible assumption) (by with_reducible assumption) (by with_reducible assumption) (by decide)).mono ?_; rintro e w1 ⟨rfl, hb1⟩)))
            all_goals first | exact hK.out _ _ rfl (bl_refl _) | exact hK.out _ _ rfl (by assumption) | exact hK.out _ _ (by assumption) (by assumption)
          · cases ho
            simp only [Act.put, List.setIfInBounds_toArray, List.set_cons_zero, List.set_cons_succ] at hK
            clear hs
            go_simp
            all_goals (try go_wp2_with (first | (go_at_call 47; refine (dot7 _ (by with_reducible assumption) (by with_reducible assumption) (by with_reducible assumption) (by with_reducible assumption) (by decide)).mono ?_; rintro e w1 ⟨rfl, hb1⟩)))
            all_goals first | exact hK.out _ _ rfl (bl_refl _) | exact hK.out _ _ rfl (by assumption) | exact hK.out _ _ (by assumption) (by assumption)
        case ht_wh2 =>
          intro s hs W hb hJ
          have e0 : s 0 = _ := hs 0 (by decide)
          have e1 : s 1 = _ := hs 1 (by decide)
          have e2 : s 2 = _ := hs 2 (by decide)
          have e3 : s 3 = _ := hs 3 (by decide)
          have e4 : s 4 = _ := hs 4 (by decide)
          have e5 : s 5 = _ := hs 5 (by decide)
          have e6 : s 6 = _ := hs 6 (by decide)
          have e7 : s 7 = _ := hs 7 (by decide)
          have e8 : s 8 = _ := hs 8 (by decide)
          have e9 : s 9 = _ := hs 9 (by decide)
          have e10 : s 10 = _ := hs 10 (by decide)
          simp only [e0, e1, e2, e3, e4, e5, e6, e7, e8, e9, e10]
          clear hs
          refine tail_end ?_
          go_wp2
          refine bodyPost_ret (v := .tuple #[.bool (hcB (nxX xs ys p q) (nxY xs ys p q) r p q), .int .i64 0]) (by simp [results, Try.results11, go_sem] <;> (first | exact ⟨⟨rfl, rfl⟩, rfl⟩ | exact ⟨rfl, rfl, rfl, rfl⟩ | exact ⟨rfl, rfl, rfl⟩ | exact ⟨rfl, rfl⟩ | rfl)) rfl ⟨by unfold hasA; rw [aE_in hz hw]; rfl, bl_trans Bc hb⟩

end Go.Proofs.Ytiamgphpcjokmab
