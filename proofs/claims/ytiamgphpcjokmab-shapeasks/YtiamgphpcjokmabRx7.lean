/-
  What each function of package poly answers, and what the reference of its chapter answers: one contract a function, for every float: the answer stands in the relation of its formula to what was given; of the memory that was there nothing has turned.
-/
import Derived.Test.YtiamgphpcjokmabVec
import Derived.Test.YtiamgphpcjokmabRw
import Derived.Below
import Derived.WalkKit
import Derived.WalkLawsBesides
import Derived.WalkSpells
import Derived.ProofKit
import Derived.OpenShut
import Derived.Deep.RegionHeld3
namespace Go.Proofs.Ytiamgphpcjokmab
open Go.ChangeShapes Go.WideShapes Go.ChangeAt Go.RowKit
set_option linter.unusedVariables false
set_option linter.unusedSimpArgs false


set_option maxHeartbeats 8000000 in
theorem rHas7 (V : Value) (n : Nat) (xs ys : Nat → Nat) (k : Int) (r : Nat) (w : World) (h : AnyS w V n xs ys) (hr : okK .f64 r) (p q : Nat) (op : okK .f64 p) (oq : okK .f64 q) : Calls Try.prog 11 #[.agg #[.int .u8 k, .float .f64 r, V], .agg #[.float .f64 p, .float .f64 q]] w fun e w' => e = .returned (.tuple #[.bool (hasA k r xs ys n p q), .int .i64 (aE k r xs ys n p q)]) ∧ Bel w w' := by
  obtain ⟨a, c, rfl, hcc, hm, _, o, hA⟩ := id h
  by_cases hz : shE k r xs ys n = 0
  · cases hw : (withinK .f64 p 4787326403894837248 && withinK .f64 q 4787326403894837248)
    · skip
      have z0_0 : (w.alloc (.cells #[.int .u8 k, .float .f64 r, .slice a n c] 25)).cell? ⟨w.heap.size, 0, none⟩ = some (.int .u8 k) := by rw [World.cell?_alloc_new]; rfl
      replace z0_0 := up_alloc (o := .cells #[.float .f64 p, .float .f64 q] 27) z0_0
      have z0_1 : (w.alloc (.cells #[.int .u8 k, .float .f64 r, .slice a n c] 25)).cell? ⟨w.heap.size, 1, none⟩ = some (.float .f64 r) := by rw [World.cell?_alloc_new]; rfl
      replace z0_1 := up_alloc (o := .cells #[.float .f64 p, .float .f64 q] 27) z0_1
      have z0_2 : (w.alloc (.cells #[.int .u8 k, .float .f64 r, .slice a n c] 25)).cell? ⟨w.heap.size, 2, none⟩ = some (.slice a n c) := by rw [World.cell?_alloc_new]; rfl
      replace z0_2 := up_alloc (o := .cells #[.float .f64 p, .float .f64 q] 27) z0_2
      have z1_0 : ((w.alloc (.cells #[.int .u8 k, .float .f64 r, .slice a n c] 25)).alloc (.cells #[.float .f64 p, .float .f64 q] 27)).cell? ⟨w.heap.size + 1, 0, none⟩ = some (.float .f64 p) := by rw [← (show (w.alloc (.cells #[.int .u8 k, .float .f64 r, .slice a n c] 25)).heap.size = w.heap.size + 1 by simp only [World.size_alloc]), World.cell?_alloc_new]; rfl
      have z1_1 : ((w.alloc (.cells #[.int .u8 k, .float .f64 r, .slice a n c] 25)).alloc (.cells #[.float .f64 p, .float .f64 q] 27)).cell? ⟨w.heap.size + 1, 1, none⟩ = some (.float .f64 q) := by rw [← (show (w.alloc (.cells #[.int .u8 k, .float .f64 r, .slice a n c] 25)).heap.size = w.heap.size + 1 by simp only [World.size_alloc]), World.cell?_alloc_new]; rfl
      have B0 : Bel w ((w.alloc (.cells #[.int .u8 k, .float .f64 r, .slice a n c] 25)).alloc (.cells #[.float .f64 p, .float .f64 q] 27)) := bl_alloc (bl_alloc (bl_refl w) _ _) _ _
      have h1 := h.bel B0
      go_enter Try.func11, Try.ntmps11
      go_wp2_with (first | (go_at_call 40; refine (rchk7 _ _ xs ys k r _ h1).mono ?_; rintro e wc ⟨rfl, hb⟩; rw [hz]; have Bc := bl_trans B0 hb; have S0 := keep hb z0_0; have S1 := keep hb z0_1; have S2 := keep hb z0_2; have K0 := keep hb z1_0; have K1 := keep hb z1_1) | (go_at_call 43; refine (real7 _ _ _ op oq).mono ?_; rintro e wd ⟨rfl, hb⟩; unfold inB; rw [hw]; replace Bc := bl_trans Bc hb; replace S0 := keep hb S0; replace S1 := keep hb S1; replace S2 := keep hb S2; replace K0 := keep hb K0; replace K1 := keep hb K1))
      refine bodyPost_ret (v := .tuple #[.bool false, .int .i64 5]) (by simp [results, Try.results11, go_sem] <;> (first | exact ⟨⟨rfl, rfl⟩, rfl⟩ | exact ⟨rfl, rfl, rfl, rfl⟩ | exact ⟨rfl, rfl, rfl⟩ | exact ⟨rfl, rfl⟩ | rfl)) rfl ⟨by unfold hasA; rw [aE_out hz hw]; rfl, ?_⟩
      repeat (first | exact bl_refl _ | assumption | apply bl_drewN | apply bl_drew | apply bl_alloc | refine bl_set ?_ (by simp <;> omega) | refine bl_trans ?_ (by assumption))
    have hi := in_bd op oq (show inB p q = true from hw)
    obtain ⟨h4, h5⟩ := hi
    obtain ⟨_, hn1, _, _⟩ := sh_gd o hr hz
    obtain ⟨hp, b, off, rfl, hsl⟩ : 0 < n ∧ ∃ b off, a = some ⟨b, off, none⟩ ∧ Sl w b off n xs ys := by
      rcases hA with e | e
      · omega
      · exact e
    have hb0 := hsl.lt hp
    rcases sh_some o hr hz with ⟨rfl, rfl, g, hrb, _⟩ | ⟨rfl, rfl, g, hrb, _, hcp⟩ | ⟨rfl, h3, h8, hrz, hch, g⟩
    · obtain ⟨g1, g2⟩ := g 0 (by decide)
      have n1 := wbd g1 200 (by decide)
      have n2 := wbd g2 200 (by decide)
      have z0_0 : (w.alloc (.cells #[.int .u8 1, .float .f64 r, .slice (some ⟨b, off, none⟩) 1 c] 25)).cell? ⟨w.heap.size, 0, none⟩ = some (.int .u8 1) := by rw [World.cell?_alloc_new]; rfl
      replace z0_0 := up_alloc (o := .cells #[.float .f64 p, .float .f64 q] 27) z0_0
      have z0_1 : (w.alloc (.cells #[.int .u8 1, .float .f64 r, .slice (some ⟨b, off, none⟩) 1 c] 25)).cell? ⟨w.heap.size, 1, none⟩ = some (.float .f64 r) := by rw [World.cell?_alloc_new]; rfl
      replace z0_1 := up_alloc (o := .cells #[.float .f64 p, .float .f64 q] 27) z0_1
      have z0_2 : (w.alloc (.cells #[.int .u8 1, .float .f64 r, .slice (some ⟨b, off, none⟩) 1 c] 25)).cell? ⟨w.heap.size, 2, none⟩ = some (.slice (some ⟨b, off, none⟩) 1 c) := by rw [World.cell?_alloc_new]; rfl
      replace z0_2 := up_alloc (o := .cells #[.float .f64 p, .float .f64 q] 27) z0_2
      have z1_0 : ((w.alloc (.cells #[.int .u8 1, .float .f64 r, .slice (some ⟨b, off, none⟩) 1 c] 25)).alloc (.cells #[.float .f64 p, .float .f64 q] 27)).cell? ⟨w.heap.size + 1, 0, none⟩ = some (.float .f64 p) := by rw [← (show (w.alloc (.cells #[.int .u8 1, .float .f64 r, .slice (some ⟨b, off, none⟩) 1 c] 25)).heap.size = w.heap.size + 1 by simp only [World.size_alloc]), World.cell?_alloc_new]; rfl
      have z1_1 : ((w.alloc (.cells #[.int .u8 1, .float .f64 r, .slice (some ⟨b, off, none⟩) 1 c] 25)).alloc (.cells #[.float .f64 p, .float .f64 q] 27)).cell? ⟨w.heap.size + 1, 1, none⟩ = some (.float .f64 q) := by rw [← (show (w.alloc (.cells #[.int .u8 1, .float .f64 r, .slice (some ⟨b, off, none⟩) 1 c] 25)).heap.size = w.heap.size + 1 by simp only [World.size_alloc]), World.cell?_alloc_new]; rfl
      have B0 : Bel w ((w.alloc (.cells #[.int .u8 1, .float .f64 r, .slice (some ⟨b, off, none⟩) 1 c] 25)).alloc (.cells #[.float .f64 p, .float .f64 q] 27)) := bl_alloc (bl_alloc (bl_refl w) _ _) _ _
      have h1 := h.bel B0
      have s1 : Bd 202 (Dv .sub p (xs 0)) := bd_sub (wbd h4 200 (by decide)) n1 (by decide)
      have s2 : Bd 202 (Dv .sub q (ys 0)) := bd_sub (wbd h5 200 (by decide)) n2 (by decide)
      have c1 := cmp_le .f64
      have q1 := fun t W => run_mul_dv Try.prog t r r W hrb.2.1 hrb.2.1
      have ef : leK .f64 (dtK (Dv .sub p (xs 0)) (Dv .sub q (ys 0)) (Dv .sub p (xs 0)) (Dv .sub q (ys 0))) (Dv .mul r r) = hcB (xs 0) (ys 0) r p q := rfl
      obtain ⟨x0, x1⟩ := hsl 0 (by decide)
      rw [show off + 0 * 2 = off by omega] at x0 x1
      go_enter Try.func11, Try.ntmps11
      go_wp2_with (first | (go_at_call 40; refine (rchk7 _ _ xs ys 1 r _ h1).mono ?_; rintro e wc ⟨rfl, hb⟩; rw [hz]; have Bc := bl_trans B0 hb; have S0 := keep hb z0_0; have S1 := keep hb z0_1; have S2 := keep hb z0_2; have K0 := keep hb z1_0; have K1 := keep hb z1_1) | (go_at_call 43; refine (real7 _ _ _ op oq).mono ?_; rintro e wd ⟨rfl, hb⟩; unfold inB; rw [hw]; replace Bc := bl_trans Bc hb; replace S0 := keep hb S0; replace S1 := keep hb S1; replace S2 := keep hb S2; replace K0 := keep hb K0; replace K1 := keep hb K1; replace x0 := keep Bc x0; replace x1 := keep Bc x1; have hbb := Nat.lt_of_lt_of_le hb0 Bc.size; obtain ⟨Q0, Q1, _⟩ := new2 wd 27 (.float .f64 (xs 0)) (.float .f64 (ys 0)); have S0' := up_alloc (o := .cells #[.float .f64 (xs 0), .float .f64 (ys 0)] 27) S0; have S1' := up_alloc (o := .cells #[.float .f64 (xs 0), .float .f64 (ys 0)] 27) S1; have S2' := up_alloc (o := .cells #[.float .f64 (xs 0), .float .f64 (ys 0)] 27) S2; have K0' := up_alloc (o := .cells #[.float .f64 (xs 0), .float .f64 (ys 0)] 27) K0; have K1' := up_alloc (o := .cells #[.float .f64 (xs 0), .float .f64 (ys 0)] 27) K1; have x0' := up_alloc (o := .cells #[.float .f64 (xs 0), .float .f64 (ys 0)] 27) x0; have x1' := up_alloc (o := .cells #[.float .f64 (xs 0), .float .f64 (ys 0)] 27) x1; have Bd' := Bc; replace Bc := bl_alloc Bc #[.float .f64 (xs 0), .float .f64 (ys 0)] 27) | (go_at_call 46; refine (minus7 _ (wbd h4 200 (by decide)) (wbd h5 200 (by decide)) n1 n2).mono ?_; rintro e wm ⟨rfl, hb⟩; replace Bc := bl_alloc (bl_trans Bc hb) #[.float .f64 (Dv .sub p (xs 0)), .float .f64 (Dv .sub q (ys 0))] 27; clear S1; have S1 := up_alloc (o := .cells #[.float .f64 (Dv .sub p (xs 0)), .float .f64 (Dv .sub q (ys 0))] 27) (keep hb S1'); obtain ⟨D0, D1, _⟩ := new2 wm 27 (.float .f64 (Dv .sub p (xs 0))) (.float .f64 (Dv .sub q (ys 0)))))
      refine wp_region_multiA 11 (fun i v => match i with | 0 => v = .agg #[.float .f64 (Dv .sub p (xs 0)), .float .f64 (Dv .sub q (ys 0))] | 1 => v = .agg #[.float .f64 (Dv .sub p (xs 0)), .float .f64 (Dv .sub q (ys 0))] | 2 => v = .float .f64 (dtK (Dv .sub p (xs 0)) (Dv .sub q (ys 0)) (Dv .sub p (xs 0)) (Dv .sub q (ys 0))) | 3 => v = .pointer (some ⟨w.heap.size, 1, none⟩) | 4 => v = .float .f64 r | 5 => v = .pointer (some ⟨w.heap.size, 1, none⟩) | 6 => v = .float .f64 r | 7 => v = .float .f64 (Dv .mul r r) | 8 => v = .bool (hcB (xs 0) (ys 0) r p q) | 9 => v = .bool (hcB (xs 0) (ys 0) r p q) | 10 => v = .int .i64 0 | _ => False) (fun i => match i with  | _ => none) ?A_wh1 (by kernel_rfl) (by kernel_rfl) ?hA_wh1 ?ha_wh1 ?hq_wh1 [] rfl ?ht_wh1
      case hA_wh1 =>
        intro s
        simp only [putL, dstO, Act.put, List.getElem?_toArray, List.getElem?_cons_zero, List.getElem?_cons_succ, Option.bind_some, List.setIfInBounds_toArray, List.set_cons_zero, List.set_cons_succ, if_true]
        all_goals exact rfl
      case ha_wh1 =>
        intro i o ob hi ho hal
        rcases (show i = 0 ∨ i = 1 ∨ i = 2 ∨ i = 3 ∨ i = 4 ∨ i = 5 ∨ i = 6 ∨ i = 7 ∨ i = 8 ∨ i = 9 ∨ i = 10 by omega) with rfl | rfl | rfl | rfl | rfl | rfl | rfl | rfl | rfl | rfl | rfl
        · cases hal
        · cases hal
        · cases hal
        · cases hal
        · cases hal
        · cases hal
        · cases hal
        · cases hal
        · cases hal
        · cases hal
        · cases hal
      case hq_wh1 =>
        intro i o hi ho hal s hs W hb K hK
        have y1 := keep hb S1; have y2 := keep hb D0; have y3 := keep hb D1
        rcases (show i = 0 ∨ i = 1 ∨ i = 2 ∨ i = 3 ∨ i = 4 ∨ i = 5 ∨ i = 6 ∨ i = 7 ∨ i = 8 ∨ i = 9 ∨ i = 10 by omega) with rfl | rfl | rfl | rfl | rfl | rfl | rfl | rfl | rfl | rfl | rfl
        · cases ho
          simp only [Act.put, List.setIfInBounds_toArray, List.set_cons_zero, List.set_cons_succ] at hK
          clear hs
          go_simp
          all_goals (try go_wp2_with (first | (go_at_call 47; refine (dot7 _ (by with_reducible assumption) (by with_reducible assumption) (by with_reducible assumption) (by with_reducible assumption) (by decide)).mono ?_; rintro e w1 ⟨rfl, hb1⟩)))
          all_goals first | exact hK.out _ _ rfl (bl_refl _) | exact hK.out _ _ rfl (by assumption) | exact hK.out _ _ (by assumption) (by assumption)
        · cases ho
          simp only [Act.put, List.setIfInBounds_toArray, List.set_cons_zero, List.set_cons_succ] at hK
          clear hs
          go_simp
          all_goals (try go_wp2_with (first | (go_at_call 47; refine (dot7 _ (by with_reducible assumption) (by with_reducible assumption) (by with_reducible assumption) (by with_reducible assumption) (by decide)).mono ?_; rintro e w1 ⟨rfl, hb1⟩)))
          all_goals first | exact hK.out _ _ rfl (bl_refl _) | exact hK.out _ _ rfl (by assumption) | exact hK.out _ _ (by assumption) (by assumption)
        · cases ho
          have e0 : s 0 = _ := hs 0 (by decide) (by kernel_rfl)
          have e1 : s 1 = _ := hs 1 (by decide) (by kernel_rfl)
          simp only [e0, e1] at hK ⊢
          simp only [Act.put, List.setIfInBounds_toArray, List.set_cons_zero, List.set_cons_succ] at hK
          clear hs
          go_simp
          all_goals (try go_wp2_with (first | (go_at_call 47; refine (dot7 _ (by with_reducible assumption) (by with_reducible assumption) (by with_reducible assumption) (by with_reducible assumption) (by decide)).mono ?_; rintro e w1 ⟨rfl, hb1⟩)))
          all_goals first | exact hK.out _ _ rfl (bl_refl _) | exact hK.out _ _ rfl (by assumption) | exact hK.out _ _ (by assumption) (by assumption)
        · cases ho
          simp only [Act.put, List.setIfInBounds_toArray, List.set_cons_zero, List.set_cons_succ] at hK
          clear hs
          go_simp
          all_goals (try go_wp2_with (first | (go_at_call 47; refine (dot7 _ (by with_reducible assumption) (by with_reducible assumption) (by with_reducible assumption) (by with_reducible assumption) (by decide)).mono ?_; rintro e w1 ⟨rfl, hb1⟩)))
          all_goals first | exact hK.out _ _ rfl (bl_refl _) | exact hK.out _ _ rfl (by assumption) | exact hK.out _ _ (by assumption) (by assumption)
        · cases ho
          have e3 : s 3 = _ := hs 3 (by decide) (by kernel_rfl)
          simp only [e3] at hK ⊢
          simp only [Act.put, List.setIfInBounds_toArray, List.set_cons_zero, List.set_cons_succ] at hK
          clear hs
          go_simp
          all_goals (try go_wp2_with (first | (go_at_call 47; refine (dot7 _ (by with_reducible assumption) (by with_reducible assumption) (by with_reducible assumption) (by with_reducible assumption) (by decide)).mono ?_; rintro e w1 ⟨rfl, hb1⟩)))
          all_goals first | exact hK.out _ _ rfl (bl_refl _) | exact hK.out _ _ rfl (by assumption) | exact hK.out _ _ (by assumption) (by assumption)
        · cases ho
          simp only [Act.put, List.setIfInBounds_toArray, List.set_cons_zero, List.set_cons_succ] at hK
          clear hs
          go_simp
          all_goals (try go_wp2_with (first | (go_at_call 47; refine (dot7 _ (by with_reducible assumption) (by with_reducible assumption) (by with_reducible assumption) (by with_reducible assumption) (by decide)).mono ?_; rintro e w1 ⟨rfl, hb1⟩)))
          all_goals first | exact hK.out _ _ rfl (bl_refl _) | exact hK.out _ _ rfl (by assumption) | exact hK.out _ _ (by assumption) (by assumption)
        · cases ho
          have e5 : s 5 = _ := hs 5 (by decide) (by kernel_rfl)
          simp only [e5] at hK ⊢
          simp only [Act.put, List.setIfInBounds_toArray, List.set_cons_zero, List.set_cons_succ] at hK
          clear hs
          go_simp
          all_goals (try go_wp2_with (first | (go_at_call 47; refine (dot7 _ (by with_reducible assumption) (by with_reducible assumption) (by with_reducible assumption) (by with_reducible assumption) (by decide)).mono ?_; rintro e w1 ⟨rfl, hb1⟩)))
          all_goals first | exact hK.out _ _ rfl (bl_refl _) | exact hK.out _ _ rfl (by assumption) | exact hK.out _ _ (by assumption) (by assumption)
        · cases ho
          have e4 : s 4 = _ := hs 4 (by decide) (by kernel_rfl)
          have e6 : s 6 = _ := hs 6 (by decide) (by kernel_rfl)
          simp only [e4, e6] at hK ⊢
          simp only [Act.put, List.setIfInBounds_toArray, List.set_cons_zero, List.set_cons_succ] at hK
          clear hs
          go_simp
          all_goals (try go_wp2_with (first | (go_at_call 47; refine (dot7 _ (by with_reducible assumption) (by with_reducible assumption) (by with_reducible assumption) (by with_reducible assumption) (by decide)).mono ?_; rintro e w1 ⟨rfl, hb1⟩)))
          all_goals first | exact hK.out _ _ rfl (bl_refl _) | exact hK.out _ _ rfl (by assumption) | exact hK.out _ _ (by assumption) (by assumption)
        · cases ho
          have e2 : s 2 = _ := hs 2 (by decide) (by kernel_rfl)
          have e7 : s 7 = _ := hs 7 (by decide) (by kernel_rfl)
          simp only [e2, e7] at hK ⊢
          simp only [Act.put, List.setIfInBounds_toArray, List.set_cons_zero, List.set_cons_succ] at hK
          clear hs
          go_simp
          all_goals (try go_wp2_with (first | (go_at_call 47; refine (dot7 _ (by with_reducible assumption) (by with_reducible assumption) (by with_reducible assumption) (by with_reducible assumption) (by decide)).mono ?_; rintro e w1 ⟨rfl, hb1⟩)))
          all_goals first | exact hK.out _ _ rfl (bl_refl _) | exact hK.out _ _ rfl (by assumption) | exact hK.out _ _ (by assumption) (by assumption)
        · cases ho
          have e8 : s 8 = _ := hs 8 (by decide) (by kernel_rfl)
          simp only [e8] at hK ⊢
          simp only [Act.put, List.setIfInBounds_toArray, List.set_cons_zero, List.set_cons_succ] at hK
          clear hs
          go_simp
          all_goals (try go_wp2_with (first | (go_at_call 47; refine (dot7 _ (by with_reducible assumption) (by with_reducible assumption) (by with_reducible assumption) (by with_reducible assumption) (by decide)).mono ?_; rintro e w1 ⟨rfl, hb1⟩)))
          all_goals first | exact hK.out _ _ rfl (bl_refl _) | exact hK.out _ _ rfl (by assumption) | exact hK.out _ _ (by assumption) (by assumption)
        · cases ho
          simp only [Act.put, List.setIfInBounds_toArray, List.set_cons_zero, List.set_cons_succ] at hK
          clear hs
          go_simp
          all_goals (try go_wp2_with (first | (go_at_call 47; refine (dot7 _ (by with_reducible assumption) (by with_reducible assumption) (by with_reducible assumption) (by with_reducible assumption) (by decide)).mono ?_; rintro e w1 ⟨rfl, hb1⟩)))
          all_goals first | exact hK.out _ _ rfl (bl_refl _) | exact hK.out _ _ rfl (by assumption) | exact hK.out _ _ (by assumption) (by assumption)
      case ht_wh1 =>
        intro s hs W hb hJ
        have e0 : s 0 = _ := hs 0 (by decide)
        have e1 : s 1 = _ := hs 1 (by decide)
        have e2 : s 2 = _ := hs 2 (by decide)
        have e3 : s 3 = _ := hs 3 (by decide)
        have e4 : s 4 = _ := hs 4 (by decide)
        have e5 : s 5 = _ := hs 5 (by decide)
        have e6 : s 6 = _ := hs 6 (by decide)
        have e7 : s 7 = _ := hs 7 (by decide)
        have e8 : s 8 = _ := hs 8 (by decide)
        have e9 : s 9 = _ := hs 9 (by decide)
        have e10 : s 10 = _ := hs 10 (by decide)
        simp only [e0, e1, e2, e3, e4, e5, e6, e7, e8, e9, e10]
        clear hs
        refine tail_end ?_
        go_wp2
        refine bodyPost_ret (v := .tuple #[.bool (hcB (xs 0) (ys 0) r p q), .int .i64 0]) (by simp [results, Try.results11, go_sem] <;> (first | exact ⟨⟨rfl, rfl⟩, rfl⟩ | exact ⟨rfl, rfl, rfl, rfl⟩ | exact ⟨rfl, rfl, rfl⟩ | exact ⟨rfl, rfl⟩ | rfl)) rfl ⟨by unfold hasA; rw [aE_in hz hw]; rfl, bl_trans Bc hb⟩
    · exact rHas7_2 b off c xs ys r w h hr hsl hb0 p q op oq hw h4 h5 g hrb hcp hz
    · have hwz := with_in hch hw
      have z0_0 : (w.alloc (.cells #[.int .u8 3, .float .f64 r, .slice (some ⟨b, off, none⟩) n c] 25)).cell? ⟨w.heap.size, 0, none⟩ = some (.int .u8 3) := by rw [World.cell?_alloc_new]; rfl
      replace z0_0 := up_alloc (o := .cells #[.float .f64 p, .float .f64 q] 27) z0_0
      have z0_1 : (w.alloc (.cells #[.int .u8 3, .float .f64 r, .slice (some ⟨b, off, none⟩) n c] 25)).cell? ⟨w.heap.size, 1, none⟩ = some (.float .f64 r) := by rw [World.cell?_alloc_new]; rfl
      replace z0_1 := up_alloc (o := .cells #[.float .f64 p, .float .f64 q] 27) z0_1
      have z0_2 : (w.alloc (.cells #[.int .u8 3, .float .f64 r, .slice (some ⟨b, off, none⟩) n c] 25)).cell? ⟨w.heap.size, 2, none⟩ = some (.slice (some ⟨b, off, none⟩) n c) := by rw [World.cell?_alloc_new]; rfl
      replace z0_2 := up_alloc (o := .cells #[.float .f64 p, .float .f64 q] 27) z0_2
      have z1_0 : ((w.alloc (.cells #[.int .u8 3, .float .f64 r, .slice (some ⟨b, off, none⟩) n c] 25)).alloc (.cells #[.float .f64 p, .float .f64 q] 27)).cell? ⟨w.heap.size + 1, 0, none⟩ = some (.float .f64 p) := by rw [← (show (w.alloc (.cells #[.int .u8 3, .float .f64 r, .slice (some ⟨b, off, none⟩) n c] 25)).heap.size = w.heap.size + 1 by simp only [World.size_alloc]), World.cell?_alloc_new]; rfl
      have z1_1 : ((w.alloc (.cells #[.int .u8 3, .float .f64 r, .slice (some ⟨b, off, none⟩) n c] 25)).alloc (.cells #[.float .f64 p, .float .f64 q] 27)).cell? ⟨w.heap.size + 1, 1, none⟩ = some (.float .f64 q) := by rw [← (show (w.alloc (.cells #[.int .u8 3, .float .f64 r, .slice (some ⟨b, off, none⟩) n c] 25)).heap.size = w.heap.size + 1 by simp only [World.size_alloc]), World.cell?_alloc_new]; rfl
      have B0 : Bel w ((w.alloc (.cells #[.int .u8 3, .float .f64 r, .slice (some ⟨b, off, none⟩) n c] 25)).alloc (.cells #[.float .f64 p, .float .f64 q] 27)) := bl_alloc (bl_alloc (bl_refl w) _ _) _ _
      have h1 := h.bel B0
      go_enter Try.func11, Try.ntmps11
      go_wp2_with (first | (go_at_call 40; refine (rchk7 _ _ xs ys 3 r _ h1).mono ?_; rintro e wc ⟨rfl, hb⟩; rw [hz]; have Bc := bl_trans B0 hb; have S0 := keep hb z0_0; have S1 := keep hb z0_1; have S2 := keep hb z0_2; have K0 := keep hb z1_0; have K1 := keep hb z1_1) | (go_at_call 43; refine (real7 _ _ _ op oq).mono ?_; rintro e wd ⟨rfl, hb⟩; unfold inB; rw [hw]; replace Bc := bl_trans Bc hb; replace S0 := keep hb S0; replace S1 := keep hb S1; replace S2 := keep hb S2; replace K0 := keep hb K0; replace K1 := keep hb K1) | (go_at_call 44; refine (rhas_all _ _ _ _ _ (h.bel Bc) p q op oq).mono ?_; rintro e w1 ⟨rfl, hb⟩; rw [hwz]))
      refine bodyPost_ret (v := .tuple #[.bool (hasV xs ys n p q), .int .i64 0]) (by simp [results, Try.results11, go_sem] <;> (first | exact ⟨⟨rfl, rfl⟩, rfl⟩ | exact ⟨rfl, rfl, rfl, rfl⟩ | exact ⟨rfl, rfl, rfl⟩ | exact ⟨rfl, rfl⟩ | rfl)) rfl ⟨by unfold hasA; rw [aE_in hz hw]; rfl, bl_trans Bc (by assumption)⟩
  · obtain ⟨v, hv⟩ : ∃ v, shE k r xs ys n = v := ⟨_, rfl⟩
    rw [hv] at hz
    have z0_0 : (w.alloc (.cells #[.int .u8 k, .float .f64 r, .slice a n c] 25)).cell? ⟨w.heap.size, 0, none⟩ = some (.int .u8 k) := by rw [World.cell?_alloc_new]; rfl
    replace z0_0 := up_alloc (o := .cells #[.float .f64 p, .float .f64 q] 27) z0_0
    have z0_1 : (w.alloc (.cells #[.int .u8 k, .float .f64 r, .slice a n c] 25)).cell? ⟨w.heap.size, 1, none⟩ = some (.float .f64 r) := by rw [World.cell?_alloc_new]; rfl
    replace z0_1 := up_alloc (o := .cells #[.float .f64 p, .float .f64 q] 27) z0_1
    have z0_2 : (w.alloc (.cells #[.int .u8 k, .float .f64 r, .slice a n c] 25)).cell? ⟨w.heap.size, 2, none⟩ = some (.slice a n c) := by rw [World.cell?_alloc_new]; rfl
    replace z0_2 := up_alloc (o := .cells #[.float .f64 p, .float .f64 q] 27) z0_2
    have z1_0 : ((w.alloc (.cells #[.int .u8 k, .float .f64 r, .slice a n c] 25)).alloc (.cells #[.float .f64 p, .float .f64 q] 27)).cell? ⟨w.heap.size + 1, 0, none⟩ = some (.float .f64 p) := by rw [← (show (w.alloc (.cells #[.int .u8 k, .float .f64 r, .slice a n c] 25)).heap.size = w.heap.size + 1 by simp only [World.size_alloc]), World.cell?_alloc_new]; rfl
    have z1_1 : ((w.alloc (.cells #[.int .u8 k, .float .f64 r, .slice a n c] 25)).alloc (.cells #[.float .f64 p, .float .f64 q] 27)).cell? ⟨w.heap.size + 1, 1, none⟩ = some (.float .f64 q) := by rw [← (show (w.alloc (.cells #[.int .u8 k, .float .f64 r, .slice a n c] 25)).heap.size = w.heap.size + 1 by simp only [World.size_alloc]), World.cell?_alloc_new]; rfl
    have B0 : Bel w ((w.alloc (.cells #[.int .u8 k, .float .f64 r, .slice a n c] 25)).alloc (.cells #[.float .f64 p, .float .f64 q] 27)) := bl_alloc (bl_alloc (bl_refl w) _ _) _ _
    have h1 := h.bel B0
    go_enter Try.func11, Try.ntmps11
    go_wp2_with (first | (go_at_call 40; refine (rchk7 _ _ xs ys k r _ h1).mono ?_; rintro e wc ⟨rfl, hb⟩; rw [hv]; have Bc := bl_trans B0 hb; have S0 := keep hb z0_0; have S1 := keep hb z0_1; have S2 := keep hb z0_2; have K0 := keep hb z1_0; have K1 := keep hb z1_1))
    refine bodyPost_ret (v := .tuple #[.bool false, .int .i64 v]) (by simp [results, Try.results11, go_sem] <;> (first | exact ⟨⟨rfl, rfl⟩, rfl⟩ | exact ⟨rfl, rfl, rfl, rfl⟩ | exact ⟨rfl, rfl, rfl⟩ | exact ⟨rfl, rfl⟩ | rfl)) rfl ⟨by unfold hasA; rw [aE_no hv hz, if_neg hz], ?_⟩
    repeat (first | exact bl_refl _ | assumption | apply bl_drewN | apply bl_drew | apply bl_alloc | refine bl_set ?_ (by simp <;> omega) | refine bl_trans ?_ (by assumption))

end Go.Proofs.Ytiamgphpcjokmab
