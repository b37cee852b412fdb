/-
  What each function of package poly answers, and what the reference of its chapter answers: one contract a function, for every float: the answer stands in the relation of its formula to what was given; of the memory that was there nothing has turned.
-/
import Derived.Test.YtdkfefbllmjnjaaVec
import Derived.Test.YtdkfefbllmjnjaaPu
import Derived.Test.YtdkfefbllmjnjaaRa
import Derived.Below
import Derived.WalkKit
import Derived.WalkLawsBesides
import Derived.WalkSpells
import Derived.ProofKit
import Derived.OpenShut
import Derived.Deep.RegionHeld3
namespace Go.Proofs.Ytdkfefbllmjnjaa
open Go.ChangeShapes Go.WideShapes Go.ChangeAt Go.RowKit
set_option linter.unusedVariables false
set_option linter.unusedSimpArgs false


theorem rchk_any (V : Value) (n : Nat) (xs ys : Nat → Nat) (w : World) (h : AnyS w V n xs ys) : Calls Try.prog 30 #[V] w fun e w' => e = .returned (.int .i64 (chkE xs ys n)) ∧ Bel w w' := by
  obtain ⟨a, cap, rfl, a2, a3, a4, a5, a6⟩ := h
  rcases a6 with rfl | ⟨a0, b, off, rfl, sa⟩
  · rw [chk_zero]; exact rchk_none a cap w
  · exact rchk_some b off n cap xs ys w sa a5 a0 a3 a2
theorem two_any (VA VB : Value) (n m : Nat) (us vs xs ys : Nat → Nat) (w : World) (hA : AnyS w VA n us vs) (hB : AnyS w VB m xs ys) : Calls Try.prog 87 #[VA, VB] w fun e w' => e = .returned (.int .i64 (apE us vs n xs ys m)) ∧ Bel w w' := by
  by_cases hch : chkE us vs n = 0
  · have e1 : apE us vs n xs ys m = chkE xs ys m := by unfold apE; rw [if_pos hch]
    have CA := rchk_any VA n us vs w hA
    rw [hch] at CA
    go_enter Try.func87, Try.ntmps87
    go_wp2_with (first | (have zn := B1; clear zn; go_at_call 30; refine (rchk_any VB m xs ys _ (hB.bel B1)).mono ?_; rintro e w_2 ⟨rfl, B2⟩) | (go_at_call 30; refine CA.mono ?_; rintro e w_1 ⟨rfl, B1⟩))
    go_ret
    exact ⟨by rw [e1]; rfl, bl_trans B1 B2⟩
  · obtain ⟨v, hv⟩ : ∃ v, chkE us vs n = v := ⟨_, rfl⟩
    have e1 : apE us vs n xs ys m = v := by unfold apE; rw [if_neg hch, hv]
    have CA := rchk_any VA n us vs w hA
    rw [hv] at CA hch
    go_enter Try.func87, Try.ntmps87
    go_wp2_with (first | (go_at_call 30; refine CA.mono ?_; rintro e w_1 ⟨rfl, B1⟩))
    all_goals
      go_ret
      exact ⟨by rw [e1]; rfl, B1⟩
set_option maxHeartbeats 1000000 in
theorem rnormal_d (a ofa n ca : Nat) (us vs : Nat → Nat) (w : World) (hA : Sl w a ofa n us vs) (g : Gd us vs n) (ix : Nat) (hix : ix < n) (hn : n ≤ maxLen) (hcap : n ≤ ca) : Calls Try.prog 66 #[.slice (some ⟨a, ofa, none⟩) n ca, .int .i64 ix] w fun e w' => e = .returned (.agg #[.float .f64 (nX us vs n ix), .float .f64 (nY us vs n ix)]) ∧ Bel w w' := by
  obtain ⟨h3, h4⟩ := wX_bd g hix
  have h5 := bd_neg h3
  have o3 := h3.1
  have o4 := h4.1
  have hA1 := hA.bel (bl_alloc (bl_refl w) #[.float .f64 0, .float .f64 0] 24)
  go_enter Try.func66, Try.ntmps66
  go_wp2_with (first | (go_at_call 76; refine (way_d a ofa n ca us vs _ hA1 g ix hix hn hcap).mono ?_; rintro e w' ⟨rfl, hb⟩; have B := hb; obtain ⟨hc, hf⟩ := bcell B; have hz := B.size; (try simp at hz)) | (go_at_call 105; refine (rRight_any _ _ _ (by with_reducible assumption) (by with_reducible assumption)).mono ?_; rintro e w' ⟨rfl, hb⟩; clear hc hf hz; have B := bl_trans B hb; obtain ⟨hc, hf⟩ := bcell B; have hz := B.size; (try simp at hz)) | (go_at_call 104; refine (rUnit_d _ (by with_reducible assumption) (by with_reducible assumption) (by decide)).mono ?_; rintro e w' ⟨rfl, hb⟩; clear hc hf hz; have B := bl_trans B hb; obtain ⟨hc, hf⟩ := bcell B; have hz := B.size; (try simp at hz); have K0 := up_alloc (o := .cells #[.float .f64 (unX (wX vs n ix) (Op.negFloat .f64 (wX us n ix))), .float .f64 (unY (wX vs n ix) (Op.negFloat .f64 (wX us n ix)))] 24) (keep B (a := ⟨w.heap.size, 0, none⟩) (v := .float .f64 0) (by go_keep)); have Z0 := fz_alloc (W := w') (c := #[.float .f64 (unX (wX vs n ix) (Op.negFloat .f64 (wX us n ix))), .float .f64 (unY (wX vs n ix) (Op.negFloat .f64 (wX us n ix)))]) (t := 24) ((hf ⟨w.heap.size, 0, none⟩).trans (by simp [fresh_frozen])); have K1 := up_alloc (o := .cells #[.float .f64 (unX (wX vs n ix) (Op.negFloat .f64 (wX us n ix))), .float .f64 (unY (wX vs n ix) (Op.negFloat .f64 (wX us n ix)))] 24) (keep B (a := ⟨w.heap.size, 1, none⟩) (v := .float .f64 0) (by go_keep)); have Z1 := fz_alloc (W := w') (c := #[.float .f64 (unX (wX vs n ix) (Op.negFloat .f64 (wX us n ix))), .float .f64 (unY (wX vs n ix) (Op.negFloat .f64 (wX us n ix)))]) (t := 24) ((hf ⟨w.heap.size, 1, none⟩).trans (by simp [fresh_frozen]))))
  obtain ⟨R0, R1⟩ := set2 (p := .float .f64 (unX (wX vs n ix) (Op.negFloat .f64 (wX us n ix)))) (q := .float .f64 (unY (wX vs n ix) (Op.negFloat .f64 (wX us n ix)))) K0 K1
  refine bodyPost_ret (v := .agg #[.float .f64 _, .float .f64 _]) (by simp [R0, R1, results, Try.results66, go_sem] <;> (first | exact ⟨rfl, rfl⟩ | rfl)) rfl ⟨rfl, ?_⟩
  repeat (first | exact bl_refl _ | assumption | apply bl_drewN | apply bl_drew | apply bl_alloc | refine bl_set ?_ (by simp <;> omega) | refine bl_trans ?_ (by assumption))
set_option maxHeartbeats 8000000 in
theorem rapart_d (a ofa n ca : Nat) (us vs : Nat → Nat) (b off m cap : Nat) (xs ys : Nat → Nat) (w : World) (hA : Sl w a ofa n us vs) (oA : Oks us vs n) (pA : 0 < n) (nA : n ≤ maxLen) (cA : n ≤ ca) (hs_ : Sl w b off m xs ys) (o_ : Oks xs ys m) (hp : 0 < m) (hn : m ≤ maxLen) (hcap : m ≤ cap) (hch : chkE us vs n = 0) (hc2 : chkE xs ys m = 0) :
    Calls Try.prog 39 #[.slice (some ⟨a, ofa, none⟩) n ca, .slice (some ⟨b, off, none⟩) m cap] w fun e w' => e = .returned (.tuple #[.int .i64 (apV us vs n xs ys m), .float .f64 (apW us vs n xs ys m), .int .i64 (apE us vs n xs ys m)]) ∧ Bel w w' := by
  obtain ⟨gA, h3A, h64A, outA⟩ := chk_ok oA hch
  obtain ⟨gB, h3, h64, _⟩ := chk_ok o_ hc2
  have eE : apE us vs n xs ys m = 0 := by unfold apE; rw [if_pos hch, hc2]
  have anyA : AnyS w (.slice (some ⟨a, ofa, none⟩) n ca) n us vs := ⟨_, _, rfl, cA, nA, by omega, oA, .inr ⟨pA, _, _, rfl, hA⟩⟩
  have anyB : AnyS w (.slice (some ⟨b, off, none⟩) m cap) m xs ys := ⟨_, _, rfl, hcap, hn, by omega, o_, .inr ⟨hp, _, _, rfl, hs_⟩⟩
  have TW := two_any _ _ n m us vs xs ys w anyA anyB
  rw [eE] at TW
  have c1 := cmp_gt .f64
  have c2 := cmp_lt .f64
  have n0 : (0 : Int) < (m : Int) := by omega
  have nb_ : ∀ k, k < n → Bd 40 (us k) ∧ Bd 40 (vs k) ∧ Bd 80 (nX us vs n k) ∧ Bd 80 (nY us vs n k) := fun k hk => by
    obtain ⟨w1, w2⟩ := wX_bd gA hk
    obtain ⟨_, n1, n2⟩ := n_bd w1 w2 (out_len (outA k hk))
    exact ⟨(gA k hk).1, (gA k hk).2, n1, n2⟩
  go_enter Try.func39, Try.ntmps39
  go_wp2_with (first | (go_at_call 87; refine TW.mono ?_; rintro e w_1 ⟨rfl, B1⟩))
  clear TW
  go_loopw [10, 8, 9] (fun i' s' f' wr => ∃ ix s f : Nat, ix ≤ n ∧ i' = .int .i64 ix ∧ (0 < ix → apS us vs n xs ys m (ix - 1) = s ∧ apF us vs n xs ys m (ix - 1) = f) ∧ s' = .int .i64 s ∧ f' = .float .f64 f ∧ Bel w wr) (fun i' _ _ _ => n - (intOf i').toNat)
  case atStart => exact ⟨0, 0, 0, by omega, rfl, fun h => absurd h (by decide), rfl, rfl, B1⟩
  case round =>
    obtain ⟨ix, sd, fr, hix, rfl, hSF, rfl, rfl, Bc⟩ := hrel
    by_cases hlt : ix < n
    · have i1 : (ix : Int) < (n : Int) := by omega
      obtain ⟨u1, u2, u3, u4⟩ := nb_ ix hlt
      obtain ⟨g1, g2⟩ := gB 0 hp
      have m1 : Bd 42 (Dv .sub (xs 0) (us ix)) := bd_sub g1 u1 (by decide)
      have m2 : Bd 42 (Dv .sub (ys 0) (vs ix)) := bd_sub g2 u2 (by decide)
      go_wp2_with (first | (go_at_call 66; refine (rnormal_d a ofa n ca us vs _ (hA.bel Bc) gA ix hlt nA cA).mono ?_; rintro e w_2 ⟨rfl, hb⟩; have Bw := bl_trans Bc hb))
      obtain ⟨t0, t1⟩ : (w_2.alloc (.cells #[.float .f64 (nX us vs n ix), .float .f64 (nY us vs n ix)] 24)).cell? ⟨w_2.heap.size, 0, none⟩ = some (.float .f64 (nX us vs n ix)) ∧ (w_2.alloc (.cells #[.float .f64 (nX us vs n ix), .float .f64 (nY us vs n ix)] 24)).cell? ⟨w_2.heap.size, 1, none⟩ = some (.float .f64 (nY us vs n ix)) := cell_own rfl _ _ _
      have Bn := bl_alloc Bw #[.float .f64 (nX us vs n ix), .float .f64 (nY us vs n ix)] 24
      have sA3 := hA.bel Bn
      have sB3 := hs_.bel Bn
      refine wp_region_multiA 11 (fun i v => match i with | 0 => v = .agg #[.float .f64 (nX us vs n ix), .float .f64 (nY us vs n ix)] | 1 => v = .slice (some ⟨a, ofa, none⟩) n ca | 2 => v = .int .i64 (ix : Int) | 3 => v = .pointer (some ⟨a, ofa + ix * 2, none⟩) | 4 => v = .agg #[.float .f64 (us ix), .float .f64 (vs ix)] | 5 => v = .slice (some ⟨b, off, none⟩) m cap | 6 => v = .pointer (some ⟨b, off, none⟩) | 7 => v = .agg #[.float .f64 (xs 0), .float .f64 (ys 0)] | 8 => v = .agg #[.float .f64 (Dv .sub (xs 0) (us ix)), .float .f64 (Dv .sub (ys 0) (vs ix))] | 9 => v = .float .f64 (dN (nX us vs n ix) (nY us vs n ix) (us ix) (vs ix) (xs 0) (ys 0)) | 10 => v = .float .f64 (dN (nX us vs n ix) (nY us vs n ix) (us ix) (vs ix) (xs 0) (ys 0)) | _ => False) (fun i => match i with  | _ => none) ?A_wh (by kernel_rfl) (by kernel_rfl) ?hA_wh ?ha_wh ?hq_wh [] rfl ?ht_wh
      case hA_wh =>
        intro s
        simp only [putL, dstO, Act.put, List.getElem?_toArray, List.getElem?_cons_zero, List.getElem?_cons_succ, Option.bind_some, List.setIfInBounds_toArray, List.set_cons_zero, List.set_cons_succ, if_true]
        all_goals exact rfl
      case ha_wh =>
        intro i o ob hi ho hal
        rcases (show i = 0 ∨ i = 1 ∨ i = 2 ∨ i = 3 ∨ i = 4 ∨ i = 5 ∨ i = 6 ∨ i = 7 ∨ i = 8 ∨ i = 9 ∨ i = 10 by omega) with rfl | rfl | rfl | rfl | rfl | rfl | rfl | rfl | rfl | rfl | rfl
        · cases hal
        · cases hal
        · cases hal
        · cases hal
        · cases hal
        · cases hal
        · cases hal
        · cases hal
        · cases hal
        · cases hal
        · cases hal
      case hq_wh =>
        intro i o hi ho hal s hs W hb K hK
        have y0 := keep hb t0; have y1 := keep hb t1; obtain ⟨y2, y3⟩ := (sA3.bel hb) ix hlt; obtain ⟨y4, y5⟩ := (sB3.bel hb) 0 hp; simp only [Nat.zero_mul, Nat.add_zero] at y4 y5
        rcases (show i = 0 ∨ i = 1 ∨ i = 2 ∨ i = 3 ∨ i = 4 ∨ i = 5 ∨ i = 6 ∨ i = 7 ∨ i = 8 ∨ i = 9 ∨ i = 10 by omega) with rfl | rfl | rfl | rfl | rfl | rfl | rfl | rfl | rfl | rfl | rfl
        · cases ho
          simp only [Act.put, List.setIfInBounds_toArray, List.set_cons_zero, List.set_cons_succ] at hK
          clear hs
          go_simp
          all_goals (try go_wp2_with (first | (go_at_call 62; refine (lead_d _ _ _ _ _ (by with_reducible assumption) (by with_reducible assumption) (by with_reducible assumption) (by with_reducible assumption)).mono ?_; rintro e w1 ⟨rfl, hb1⟩) | (go_at_call 71; refine (rDot_d _ (by with_reducible assumption) (by with_reducible assumption) (by with_reducible assumption) (by with_reducible assumption) (by decide)).mono ?_; rintro e w1 ⟨rfl, hb1⟩)))
          all_goals first | exact hK.out _ _ rfl (bl_refl _) | exact hK.out _ _ rfl (by assumption) | exact hK.out _ _ (by assumption) (by assumption)
        · cases ho
          simp only [Act.put, List.setIfInBounds_toArray, List.set_cons_zero, List.set_cons_succ] at hK
          clear hs
          go_simp
          all_goals (try go_wp2_with (first | (go_at_call 62; refine (lead_d _ _ _ _ _ (by with_reducible assumption) (by with_reducible assumption) (by with_reducible assumption) (by with_reducible assumption)).mono ?_; rintro e w1 ⟨rfl, hb1⟩) | (go_at_call 71; refine (rDot_d _ (by with_reducible assumption) (by with_reducible assumption) (by with_reducible assumption) (by with_reducible assumption) (by decide)).mono ?_; rintro e w1 ⟨rfl, hb1⟩)))
          all_goals first | exact hK.out _ _ rfl (bl_refl _) | exact hK.out _ _ rfl (by assumption) | exact hK.out _ _ (by assumption) (by assumption)
        · cases ho
          simp only [Act.put, List.setIfInBounds_toArray, List.set_cons_zero, List.set_cons_succ] at hK
          clear hs
          go_simp
          all_goals (try go_wp2_with (first | (go_at_call 62; refine (lead_d _ _ _ _ _ (by with_reducible assumption) (by with_reducible assumption) (by with_reducible assumption) (by with_reducible assumption)).mono ?_; rintro e w1 ⟨rfl, hb1⟩) | (go_at_call 71; refine (rDot_d _ (by with_reducible assumption) (by with_reducible assumption) (by with_reducible assumption) (by with_reducible assumption) (by decide)).mono ?_; rintro e w1 ⟨rfl, hb1⟩)))
          all_goals first | exact hK.out _ _ rfl (bl_refl _) | exact hK.out _ _ rfl (by assumption) | exact hK.out _ _ (by assumption) (by assumption)
        · cases ho
          have e1 : s 1 = _ := hs 1 (by decide) (by kernel_rfl)
          have e2 : s 2 = _ := hs 2 (by decide) (by kernel_rfl)
          simp only [e1, e2] at hK ⊢
          simp only [Act.put, List.setIfInBounds_toArray, List.set_cons_zero, List.set_cons_succ] at hK
          clear hs
          go_simp
          all_goals (try go_wp2_with (first | (go_at_call 62; refine (lead_d _ _ _ _ _ (by with_reducible assumption) (by with_reducible assumption) (by with_reducible assumption) (by with_reducible assumption)).mono ?_; rintro e w1 ⟨rfl, hb1⟩) | (go_at_call 71; refine (rDot_d _ (by with_reducible assumption) (by with_reducible assumption) (by with_reducible assumption) (by with_reducible assumption) (by decide)).mono ?_; rintro e w1 ⟨rfl, hb1⟩)))
          all_goals first | exact hK.out _ _ rfl (bl_refl _) | exact hK.out _ _ rfl (by assumption) | exact hK.out _ _ (by assumption) (by assumption)
        · cases ho
          have e3 : s 3 = _ := hs 3 (by decide) (by kernel_rfl)
          simp only [e3] at hK ⊢
          simp only [Act.put, List.setIfInBounds_toArray, List.set_cons_zero, List.set_cons_succ] at hK
          clear hs
          go_simp
          all_goals (try go_wp2_with (first | (go_at_call 62; refine (lead_d _ _ _ _ _ (by with_reducible assumption) (by with_reducible assumption) (by with_reducible assumption) (by with_reducible assumption)).mono ?_; rintro e w1 ⟨rfl, hb1⟩) | (go_at_call 71; refine (rDot_d _ (by with_reducible assumption) (by with_reducible assumption) (by with_reducible assumption) (by with_reducible assumption) (by decide)).mono ?_; rintro e w1 ⟨rfl, hb1⟩)))
          all_goals first | exact hK.out _ _ rfl (bl_refl _) | exact hK.out _ _ rfl (by assumption) | exact hK.out _ _ (by assumption) (by assumption)
        · cases ho
          simp only [Act.put, List.setIfInBounds_toArray, List.set_cons_zero, List.set_cons_succ] at hK
          clear hs
          go_simp
          all_goals (try go_wp2_with (first | (go_at_call 62; refine (lead_d _ _ _ _ _ (by with_reducible assumption) (by with_reducible assumption) (by with_reducible assumption) (by with_reducible assumption)).mono ?_; rintro e w1 ⟨rfl, hb1⟩) | (go_at_call 71; refine (rDot_d _ (by with_reducible assumption) (by with_reducible assumption) (by with_reducible assumption) (by with_reducible assumption) (by decide)).mono ?_; rintro e w1 ⟨rfl, hb1⟩)))
          all_goals first | exact hK.out _ _ rfl (bl_refl _) | exact hK.out _ _ rfl (by assumption) | exact hK.out _ _ (by assumption) (by assumption)
        · cases ho
          have e5 : s 5 = _ := hs 5 (by decide) (by kernel_rfl)
          simp only [e5] at hK ⊢
          simp only [Act.put, List.setIfInBounds_toArray, List.set_cons_zero, List.set_cons_succ] at hK
          clear hs
          go_simp
          all_goals (try go_wp2_with (first | (go_at_call 62; refine (lead_d _ _ _ _ _ (by with_reducible assumption) (by with_reducible assumption) (by with_reducible assumption) (by with_reducible assumption)).mono ?_; rintro e w1 ⟨rfl, hb1⟩) | (go_at_call 71; refine (rDot_d _ (by with_reducible assumption) (by with_reducible assumption) (by with_reducible assumption) (by with_reducible assumption) (by decide)).mono ?_; rintro e w1 ⟨rfl, hb1⟩)))
          all_goals first | exact hK.out _ _ rfl (bl_refl _) | exact hK.out _ _ rfl (by assumption) | exact hK.out _ _ (by assumption) (by assumption)
        · cases ho
          have e6 : s 6 = _ := hs 6 (by decide) (by kernel_rfl)
          simp only [e6] at hK ⊢
          simp only [Act.put, List.setIfInBounds_toArray, List.set_cons_zero, List.set_cons_succ] at hK
          clear hs
          go_simp
          all_goals (try go_wp2_with (first | (go_at_call 62; refine (lead_d _ _ _ _ _ (by with_reducible assumption) (by with_reducible assumption) (by with_reducible assumption) (by with_reducible assumption)).mono ?_; rintro e w1 ⟨rfl, hb1⟩) | (go_at_call 71; refine (rDot_d _ (by with_reducible assumption) (by with_reducible assumption) (by with_reducible assumption) (by with_reducible assumption) (by decide)).mono ?_; rintro e w1 ⟨rfl, hb1⟩)))
          all_goals first | exact hK.out _ _ rfl (bl_refl _) | exact hK.out _ _ rfl (by assumption) | exact hK.out _ _ (by assumption) (by assumption)
        · cases ho
          have e4 : s 4 = _ := hs 4 (by decide) (by kernel_rfl)
          have e7 : s 7 = _ := hs 7 (by decide) (by kernel_rfl)
          simp only [e4, e7] at hK ⊢
          simp only [Act.put, List.setIfInBounds_toArray, List.set_cons_zero, List.set_cons_succ] at hK
          clear hs
          go_simp
          all_goals (try go_wp2_with (first | (go_at_call 62; refine (lead_d _ _ _ _ _ (by with_reducible assumption) (by with_reducible assumption) (by with_reducible assumption) (by with_reducible assumption)).mono ?_; rintro e w1 ⟨rfl, hb1⟩) | (go_at_call 71; refine (rDot_d _ (by with_reducible assumption) (by with_reducible assumption) (by with_reducible assumption) (by with_reducible assumption) (by decide)).mono ?_; rintro e w1 ⟨rfl, hb1⟩)))
          all_goals first | exact hK.out _ _ rfl (bl_refl _) | exact hK.out _ _ rfl (by assumption) | exact hK.out _ _ (by assumption) (by assumption)
        · cases ho
          have e0 : s 0 = _ := hs 0 (by decide) (by kernel_rfl)
          have e8 : s 8 = _ := hs 8 (by decide) (by kernel_rfl)
          simp only [e0, e8] at hK ⊢
          simp only [Act.put, List.setIfInBounds_toArray, List.set_cons_zero, List.set_cons_succ] at hK
          clear hs
          go_simp
          all_goals (try go_wp2_with (first | (go_at_call 62; refine (lead_d _ _ _ _ _ (by with_reducible assumption) (by with_reducible assumption) (by with_reducible assumption) (by with_reducible assumption)).mono ?_; rintro e w1 ⟨rfl, hb1⟩) | (go_at_call 71; refine (rDot_d _ (by with_reducible assumption) (by with_reducible assumption) (by with_reducible assumption) (by with_reducible assumption) (by decide)).mono ?_; rintro e w1 ⟨rfl, hb1⟩)))
          all_goals first | exact hK.out _ _ rfl (bl_refl _) | exact hK.out _ _ rfl (by assumption) | exact hK.out _ _ (by assumption) (by assumption)
        · cases ho
          have e9 : s 9 = _ := hs 9 (by decide) (by kernel_rfl)
          simp only [e9] at hK ⊢
          simp only [Act.put, List.setIfInBounds_toArray, List.set_cons_zero, List.set_cons_succ] at hK
          clear hs
          go_simp
          all_goals (try go_wp2_with (first | (go_at_call 62; refine (lead_d _ _ _ _ _ (by with_reducible assumption) (by with_reducible assumption) (by with_reducible assumption) (by with_reducible assumption)).mono ?_; rintro e w1 ⟨rfl, hb1⟩) | (go_at_call 71; refine (rDot_d _ (by with_reducible assumption) (by with_reducible assumption) (by with_reducible assumption) (by with_reducible assumption) (by decide)).mono ?_; rintro e w1 ⟨rfl, hb1⟩)))
          all_goals first | exact hK.out _ _ rfl (bl_refl _) | exact hK.out _ _ rfl (by assumption) | exact hK.out _ _ (by assumption) (by assumption)
      case ht_wh =>
        intro s hs W hb hJ
        have e0 : s 0 = _ := hs 0 (by decide)
        have e1 : s 1 = _ := hs 1 (by decide)
        have e2 : s 2 = _ := hs 2 (by decide)
        have e3 : s 3 = _ := hs 3 (by decide)
        have e4 : s 4 = _ := hs 4 (by decide)
        have e5 : s 5 = _ := hs 5 (by decide)
        have e6 : s 6 = _ := hs 6 (by decide)
        have e7 : s 7 = _ := hs 7 (by decide)
        have e8 : s 8 = _ := hs 8 (by decide)
        have e9 : s 9 = _ := hs 9 (by decide)
        have e10 : s 10 = _ := hs 10 (by decide)
        simp only [e0, e1, e2, e3, e4, e5, e6, e7, e8, e9, e10]
        clear hs
        refine tail_end ?_
        have BB := bl_trans Bn hb
        replace t0 := keep hb t0
        replace t1 := keep hb t1
        clear sA3 sB3 hb hJ Bn
        go_wp2
        go_loopw [13, 12] (fun k' d' wr => ∃ kx q l : Nat, q + 1 = kx ∧ kx ≤ m ∧ k' = .int .i64 kx ∧ ahK (nX us vs n ix) (nY us vs n ix) (us ix) (vs ix) xs ys q = l ∧ d' = .float .f64 l ∧ Bel w wr ∧ wr.cell? ⟨w_2.heap.size, 0, none⟩ = some (.float .f64 (nX us vs n ix)) ∧ wr.cell? ⟨w_2.heap.size, 1, none⟩ = some (.float .f64 (nY us vs n ix))) (fun k' _ _ => m - (intOf k').toNat)
        case atStart => exact ⟨1, 0, _, rfl, by omega, rfl, rfl, rfl, BB, t0, t1⟩
        case round =>
          clear t0 t1 BB
          obtain ⟨kx, q, l, hkq, hkm, rfl, hl, rfl, hB, t0, t1⟩ := hrel
          by_cases hk2 : kx < m
          · have k1 : (kx : Int) < (m : Int) := by omega
            obtain ⟨g5, g6⟩ := gB kx hk2
            have m3 : Bd 42 (Dv .sub (xs kx) (us ix)) := bd_sub g5 u1 (by decide)
            have m4 : Bd 42 (Dv .sub (ys kx) (vs ix)) := bd_sub g6 u2 (by decide)
            cases hw : ltK .f64 (dN (nX us vs n ix) (nY us vs n ix) (us ix) (vs ix) (xs kx) (ys kx)) l
            · go_wp2
              refine wp_region_multiA 12 (fun i v => match i with | 0 => v = .agg #[.float .f64 (nX us vs n ix), .float .f64 (nY us vs n ix)] | 1 => v = .slice (some ⟨a, ofa, none⟩) n ca | 2 => v = .int .i64 (ix : Int) | 3 => v = .pointer (some ⟨a, ofa + ix * 2, none⟩) | 4 => v = .agg #[.float .f64 (us ix), .float .f64 (vs ix)] | 5 => v = .slice (some ⟨b, off, none⟩) m cap | 6 => v = .int .i64 (kx : Int) | 7 => v = .pointer (some ⟨b, off + kx * 2, none⟩) | 8 => v = .agg #[.float .f64 (xs kx), .float .f64 (ys kx)] | 9 => v = .agg #[.float .f64 (Dv .sub (xs kx) (us ix)), .float .f64 (Dv .sub (ys kx) (vs ix))] | 10 => v = .float .f64 (dN (nX us vs n ix) (nY us vs n ix) (us ix) (vs ix) (xs kx) (ys kx)) | 11 => v = .float .f64 (dN (nX us vs n ix) (nY us vs n ix) (us ix) (vs ix) (xs kx) (ys kx)) | _ => False) (fun i => match i with  | _ => none) ?A_wi (by kernel_rfl) (by kernel_rfl) ?hA_wi ?ha_wi ?hq_wi [] rfl ?ht_wi
              case hA_wi =>
                intro s
                simp only [putL, dstO, Act.put, List.getElem?_toArray, List.getElem?_cons_zero, List.getElem?_cons_succ, Option.bind_some, List.setIfInBounds_toArray, List.set_cons_zero, List.set_cons_succ, if_true]
                all_goals exact rfl
              case ha_wi =>
                intro i o ob hi ho hal
                rcases (show i = 0 ∨ i = 1 ∨ i = 2 ∨ i = 3 ∨ i = 4 ∨ i = 5 ∨ i = 6 ∨ i = 7 ∨ i = 8 ∨ i = 9 ∨ i = 10 ∨ i = 11 by omega) with rfl | rfl | rfl | rfl | rfl | rfl | rfl | rfl | rfl | rfl | rfl | rfl
                · cases hal
                · cases hal
                · cases hal
                · cases hal
                · cases hal
                · cases hal
                · cases hal
                · cases hal
                · cases hal
                · cases hal
                · cases hal
                · cases hal
              case hq_wi =>
                intro i o hi ho hal s hs W hb K hK
                have y0 := keep hb t0; have y1 := keep hb t1; obtain ⟨y2, y3⟩ := (hA.bel (bl_trans hB hb)) ix hlt; obtain ⟨y4, y5⟩ := (hs_.bel (bl_trans hB hb)) kx hk2
                rcases (show i = 0 ∨ i = 1 ∨ i = 2 ∨ i = 3 ∨ i = 4 ∨ i = 5 ∨ i = 6 ∨ i = 7 ∨ i = 8 ∨ i = 9 ∨ i = 10 ∨ i = 11 by omega) with rfl | rfl | rfl | rfl | rfl | rfl | rfl | rfl | rfl | rfl | rfl | rfl
                · cases ho
                  simp only [Act.put, List.setIfInBounds_toArray, List.set_cons_zero, List.set_cons_succ] at hK
                  clear hs
                  go_simp
                  all_goals (try go_wp2_with (first | (go_at_call 62; refine (lead_d _ _ _ _ _ (by with_reducible assumption) (by with_reducible assumption) (by with_reducible assumption) (by with_reducible assumption)).mono ?_; rintro e w1 ⟨rfl, hb1⟩) | (go_at_call 71; refine (rDot_d _ (by with_reducible assumption) (by with_reducible assumption) (by with_reducible assumption) (by with_reducible assumption) (by decide)).mono ?_; rintro e w1 ⟨rfl, hb1⟩)))
                  all_goals first | exact hK.out _ _ rfl (bl_refl _) | exact hK.out _ _ rfl (by assumption) | exact hK.out _ _ (by assumption) (by assumption)
                · cases ho
                  simp only [Act.put, List.setIfInBounds_toArray, List.set_cons_zero, List.set_cons_succ] at hK
                  clear hs
                  go_simp
                  all_goals (try go_wp2_with (first | (go_at_call 62; refine (lead_d _ _ _ _ _ (by with_reducible assumption) (by with_reducible assumption) (by with_reducible assumption) (by with_reducible assumption)).mono ?_; rintro e w1 ⟨rfl, hb1⟩) | (go_at_call 71; refine (rDot_d _ (by with_reducible assumption) (by with_reducible assumption) (by with_reducible assumption) (by with_reducible assumption) (by decide)).mono ?_; rintro e w1 ⟨rfl, hb1⟩)))
                  all_goals first | exact hK.out _ _ rfl (bl_refl _) | exact hK.out _ _ rfl (by assumption) | exact hK.out _ _ (by assumption) (by assumption)
                · cases ho
                  simp only [Act.put, List.setIfInBounds_toArray, List.set_cons_zero, List.set_cons_succ] at hK
                  clear hs
                  go_simp
                  all_goals (try go_wp2_with (first | (go_at_call 62; refine (lead_d _ _ _ _ _ (by with_reducible assumption) (by with_reducible assumption) (by with_reducible assumption) (by with_reducible assumption)).mono ?_; rintro e w1 ⟨rfl, hb1⟩) | (go_at_call 71; refine (rDot_d _ (by with_reducible assumption) (by with_reducible assumption) (by with_reducible assumption) (by with_reducible assumption) (by decide)).mono ?_; rintro e w1 ⟨rfl, hb1⟩)))
                  all_goals first | exact hK.out _ _ rfl (bl_refl _) | exact hK.out _ _ rfl (by assumption) | exact hK.out _ _ (by assumption) (by assumption)
                · cases ho
                  have e1 : s 1 = _ := hs 1 (by decide) (by kernel_rfl)
                  have e2 : s 2 = _ := hs 2 (by decide) (by kernel_rfl)
                  simp only [e1, e2] at hK ⊢
                  simp only [Act.put, List.setIfInBounds_toArray, List.set_cons_zero, List.set_cons_succ] at hK
                  clear hs
                  go_simp
                  all_goals (try go_wp2_with (first | (go_at_call 62; refine (lead_d _ _ _ _ _ (by with_reducible assumption) (by with_reducible assumption) (by with_reducible assumption) (by with_reducible assumption)).mono ?_; rintro e w1 ⟨rfl, hb1⟩) | (go_at_call 71; refine (rDot_d _ (by with_reducible assumption) (by with_reducible assumption) (by with_reducible assumption) (by with_reducible assumption) (by decide)).mono ?_; rintro e w1 ⟨rfl, hb1⟩)))
                  all_goals first | exact hK.out _ _ rfl (bl_refl _) | exact hK.out _ _ rfl (by assumption) | exact hK.out _ _ (by assumption) (by assumption)
                · cases ho
                  have e3 : s 3 = _ := hs 3 (by decide) (by kernel_rfl)
                  simp only [e3] at hK ⊢
                  simp only [Act.put, List.setIfInBounds_toArray, List.set_cons_zero, List.set_cons_succ] at hK
                  clear hs
                  go_simp
                  all_goals (try go_wp2_with (first | (go_at_call 62; refine (lead_d _ _ _ _ _ (by with_reducible assumption) (by with_reducible assumption) (by with_reducible assumption) (by with_reducible assumption)).mono ?_; rintro e w1 ⟨rfl, hb1⟩) | (go_at_call 71; refine (rDot_d _ (by with_reducible assumption) (by with_reducible assumption) (by with_reducible assumption) (by with_reducible assumption) (by decide)).mono ?_; rintro e w1 ⟨rfl, hb1⟩)))
                  all_goals first | exact hK.out _ _ rfl (bl_refl _) | exact hK.out _ _ rfl (by assumption) | exact hK.out _ _ (by assumption) (by assumption)
                · cases ho
                  simp only [Act.put, List.setIfInBounds_toArray, List.set_cons_zero, List.set_cons_succ] at hK
                  clear hs
                  go_simp
                  all_goals (try go_wp2_with (first | (go_at_call 62; refine (lead_d _ _ _ _ _ (by with_reducible assumption) (by with_reducible assumption) (by with_reducible assumption) (by with_reducible assumption)).mono ?_; rintro e w1 ⟨rfl, hb1⟩) | (go_at_call 71; refine (rDot_d _ (by with_reducible assumption) (by with_reducible assumption) (by with_reducible assumption) (by with_reducible assumption) (by decide)).mono ?_; rintro e w1 ⟨rfl, hb1⟩)))
                  all_goals first | exact hK.out _ _ rfl (bl_refl _) | exact hK.out _ _ rfl (by assumption) | exact hK.out _ _ (by assumption) (by assumption)
                · cases ho
                  simp only [Act.put, List.setIfInBounds_toArray, List.set_cons_zero, List.set_cons_succ] at hK
                  clear hs
                  go_simp
                  all_goals (try go_wp2_with (first | (go_at_call 62; refine (lead_d _ _ _ _ _ (by with_reducible assumption) (by with_reducible assumption) (by with_reducible assumption) (by with_reducible assumption)).mono ?_; rintro e w1 ⟨rfl, hb1⟩) | (go_at_call 71; refine (rDot_d _ (by with_reducible assumption) (by with_reducible assumption) (by with_reducible assumption) (by with_reducible assumption) (by decide)).mono ?_; rintro e w1 ⟨rfl, hb1⟩)))
                  all_goals first | exact hK.out _ _ rfl (bl_refl _) | exact hK.out _ _ rfl (by assumption) | exact hK.out _ _ (by assumption) (by assumption)
                · cases ho
                  have e5 : s 5 = _ := hs 5 (by decide) (by kernel_rfl)
                  have e6 : s 6 = _ := hs 6 (by decide) (by kernel_rfl)
                  simp only [e5, e6] at hK ⊢
                  simp only [Act.put, List.setIfInBounds_toArray, List.set_cons_zero, List.set_cons_succ] at hK
                  clear hs
                  go_simp
                  all_goals (try go_wp2_with (first | (go_at_call 62; refine (lead_d _ _ _ _ _ (by with_reducible assumption) (by with_reducible assumption) (by with_reducible assumption) (by with_reducible assumption)).mono ?_; rintro e w1 ⟨rfl, hb1⟩) | (go_at_call 71; refine (rDot_d _ (by with_reducible assumption) (by with_reducible assumption) (by with_reducible assumption) (by with_reducible assumption) (by decide)).mono ?_; rintro e w1 ⟨rfl, hb1⟩)))
                  all_goals first | exact hK.out _ _ rfl (bl_refl _) | exact hK.out _ _ rfl (by assumption) | exact hK.out _ _ (by assumption) (by assumption)
                · cases ho
                  have e7 : s 7 = _ := hs 7 (by decide) (by kernel_rfl)
                  simp only [e7] at hK ⊢
                  simp only [Act.put, List.setIfInBounds_toArray, List.set_cons_zero, List.set_cons_succ] at hK
                  clear hs
                  go_simp
                  all_goals (try go_wp2_with (first | (go_at_call 62; refine (lead_d _ _ _ _ _ (by with_reducible assumption) (by with_reducible assumption) (by with_reducible assumption) (by with_reducible assumption)).mono ?_; rintro e w1 ⟨rfl, hb1⟩) | (go_at_call 71; refine (rDot_d _ (by with_reducible assumption) (by with_reducible assumption) (by with_reducible assumption) (by with_reducible assumption) (by decide)).mono ?_; rintro e w1 ⟨rfl, hb1⟩)))
                  all_goals first | exact hK.out _ _ rfl (bl_refl _) | exact hK.out _ _ rfl (by assumption) | exact hK.out _ _ (by assumption) (by assumption)
                · cases ho
                  have e4 : s 4 = _ := hs 4 (by decide) (by kernel_rfl)
                  have e8 : s 8 = _ := hs 8 (by decide) (by kernel_rfl)
                  simp only [e4, e8] at hK ⊢
                  simp only [Act.put, List.setIfInBounds_toArray, List.set_cons_zero, List.set_cons_succ] at hK
                  clear hs
                  go_simp
                  all_goals (try go_wp2_with (first | (go_at_call 62; refine (lead_d _ _ _ _ _ (by with_reducible assumption) (by with_reducible assumption) (by with_reducible assumption) (by with_reducible assumption)).mono ?_; rintro e w1 ⟨rfl, hb1⟩) | (go_at_call 71; refine (rDot_d _ (by with_reducible assumption) (by with_reducible assumption) (by with_reducible assumption) (by with_reducible assumption) (by decide)).mono ?_; rintro e w1 ⟨rfl, hb1⟩)))
                  all_goals first | exact hK.out _ _ rfl (bl_refl _) | exact hK.out _ _ rfl (by assumption) | exact hK.out _ _ (by assumption) (by assumption)
                · cases ho
                  have e0 : s 0 = _ := hs 0 (by decide) (by kernel_rfl)
                  have e9 : s 9 = _ := hs 9 (by decide) (by kernel_rfl)
                  simp only [e0, e9] at hK ⊢
                  simp only [Act.put, List.setIfInBounds_toArray, List.set_cons_zero, List.set_cons_succ] at hK
                  clear hs
                  go_simp
                  all_goals (try go_wp2_with (first | (go_at_call 62; refine (lead_d _ _ _ _ _ (by with_reducible assumption) (by with_reducible assumption) (by with_reducible assumption) (by with_reducible assumption)).mono ?_; rintro e w1 ⟨rfl, hb1⟩) | (go_at_call 71; refine (rDot_d _ (by with_reducible assumption) (by with_reducible assumption) (by with_reducible assumption) (by with_reducible assumption) (by decide)).mono ?_; rintro e w1 ⟨rfl, hb1⟩)))
                  all_goals first | exact hK.out _ _ rfl (bl_refl _) | exact hK.out _ _ rfl (by assumption) | exact hK.out _ _ (by assumption) (by assumption)
                · cases ho
                  have e10 : s 10 = _ := hs 10 (by decide) (by kernel_rfl)
                  simp only [e10] at hK ⊢
                  simp only [Act.put, List.setIfInBounds_toArray, List.set_cons_zero, List.set_cons_succ] at hK
                  clear hs
                  go_simp
                  all_goals (try go_wp2_with (first | (go_at_call 62; refine (lead_d _ _ _ _ _ (by with_reducible assumption) (by with_reducible assumption) (by with_reducible assumption) (by with_reducible assumption)).mono ?_; rintro e w1 ⟨rfl, hb1⟩) | (go_at_call 71; refine (rDot_d _ (by with_reducible assumption) (by with_reducible assumption) (by with_reducible assumption) (by with_reducible assumption) (by decide)).mono ?_; rintro e w1 ⟨rfl, hb1⟩)))
                  all_goals first | exact hK.out _ _ rfl (bl_refl _) | exact hK.out _ _ rfl (by assumption) | exact hK.out _ _ (by assumption) (by assumption)
              case ht_wi =>
                intro s hs W hb hJ
                have e0 : s 0 = _ := hs 0 (by decide)
                have e1 : s 1 = _ := hs 1 (by decide)
                have e2 : s 2 = _ := hs 2 (by decide)
                have e3 : s 3 = _ := hs 3 (by decide)
                have e4 : s 4 = _ := hs 4 (by decide)
                have e5 : s 5 = _ := hs 5 (by decide)
                have e6 : s 6 = _ := hs 6 (by decide)
                have e7 : s 7 = _ := hs 7 (by decide)
                have e8 : s 8 = _ := hs 8 (by decide)
                have e9 : s 9 = _ := hs 9 (by decide)
                have e10 : s 10 = _ := hs 10 (by decide)
                have e11 : s 11 = _ := hs 11 (by decide)
                simp only [e0, e1, e2, e3, e4, e5, e6, e7, e8, e9, e10, e11]
                clear hs
                refine tail_end ?_
                go_wp2
                exact ⟨⟨kx + 1, kx, l, rfl, by omega, by go_num, by subst hkq; exact ah_go hl hw, rfl, bl_trans hB hb, keep hb t0, keep hb t1⟩, by simp [intOf]; omega⟩
            · go_wp2
              refine wp_region_multiA 12 (fun i v => match i with | 0 => v = .agg #[.float .f64 (nX us vs n ix), .float .f64 (nY us vs n ix)] | 1 => v = .slice (some ⟨a, ofa, none⟩) n ca | 2 => v = .int .i64 (ix : Int) | 3 => v = .pointer (some ⟨a, ofa + ix * 2, none⟩) | 4 => v = .agg #[.float .f64 (us ix), .float .f64 (vs ix)] | 5 => v = .slice (some ⟨b, off, none⟩) m cap | 6 => v = .int .i64 (kx : Int) | 7 => v = .pointer (some ⟨b, off + kx * 2, none⟩) | 8 => v = .agg #[.float .f64 (xs kx), .float .f64 (ys kx)] | 9 => v = .agg #[.float .f64 (Dv .sub (xs kx) (us ix)), .float .f64 (Dv .sub (ys kx) (vs ix))] | 10 => v = .float .f64 (dN (nX us vs n ix) (nY us vs n ix) (us ix) (vs ix) (xs kx) (ys kx)) | 11 => v = .float .f64 (dN (nX us vs n ix) (nY us vs n ix) (us ix) (vs ix) (xs kx) (ys kx)) | _ => False) (fun i => match i with  | _ => none) ?A_wi (by kernel_rfl) (by kernel_rfl) ?hA_wi ?ha_wi ?hq_wi [] rfl ?ht_wi
              case hA_wi =>
                intro s
                simp only [putL, dstO, Act.put, List.getElem?_toArray, List.getElem?_cons_zero, List.getElem?_cons_succ, Option.bind_some, List.setIfInBounds_toArray, List.set_cons_zero, List.set_cons_succ, if_true]
                all_goals exact rfl
              case ha_wi =>
                intro i o ob hi ho hal
                rcases (show i = 0 ∨ i = 1 ∨ i = 2 ∨ i = 3 ∨ i = 4 ∨ i = 5 ∨ i = 6 ∨ i = 7 ∨ i = 8 ∨ i = 9 ∨ i = 10 ∨ i = 11 by omega) with rfl | rfl | rfl | rfl | rfl | rfl | rfl | rfl | rfl | rfl | rfl | rfl
                · cases hal
                · cases hal
                · cases hal
                · cases hal
                · cases hal
                · cases hal
                · cases hal
                · cases hal
                · cases hal
                · cases hal
                · cases hal
                · cases hal
              case hq_wi =>
                intro i o hi ho hal s hs W hb K hK
                have y0 := keep hb t0; have y1 := keep hb t1; obtain ⟨y2, y3⟩ := (hA.bel (bl_trans hB hb)) ix hlt; obtain ⟨y4, y5⟩ := (hs_.bel (bl_trans hB hb)) kx hk2
                rcases (show i = 0 ∨ i = 1 ∨ i = 2 ∨ i = 3 ∨ i = 4 ∨ i = 5 ∨ i = 6 ∨ i = 7 ∨ i = 8 ∨ i = 9 ∨ i = 10 ∨ i = 11 by omega) with rfl | rfl | rfl | rfl | rfl | rfl | rfl | rfl | rfl | rfl | rfl | rfl
                · cases ho
                  simp only [Act.put, List.setIfInBounds_toArray, List.set_cons_zero, List.set_cons_succ] at hK
                  clear hs
                  go_simp
                  all_goals (try go_wp2_with (first | (go_at_call 62; refine (lead_d _ _ _ _ _ (by with_reducible assumption) (by with_reducible assumption) (by with_reducible assumption) (by with_reducible assumption)).mono ?_; rintro e w1 ⟨rfl, hb1⟩) | (go_at_call 71; refine (rDot_d _ (by with_reducible assumption) (by with_reducible assumption) (by with_reducible assumption) (by with_reducible assumption) (by decide)).mono ?_; rintro e w1 ⟨rfl, hb1⟩)))
                  all_goals first | exact hK.out _ _ rfl (bl_refl _) | exact hK.out _ _ rfl (by assumption) | exact hK.out _ _ (by assumption) (by assumption)
                · cases ho
                  simp only [Act.put, List.setIfInBounds_toArray, List.set_cons_zero, List.set_cons_succ] at hK
                  clear hs
                  go_simp
                  all_goals (try go_wp2_with (first | (go_at_call 62; refine (lead_d _ _ _ _ _ (by with_reducible assumption) (by with_reducible assumption) (by with_reducible assumption) (by with_reducible assumption)).mono ?_; rintro e w1 ⟨rfl, hb1⟩) | (go_at_call 71; refine (rDot_d _ (by with_reducible assumption) (by with_reducible assumption) (by with_reducible assumption) (by with_reducible assumption) (by decide)).mono ?_; rintro e w1 ⟨rfl, hb1⟩)))
                  all_goals first | exact hK.out _ _ rfl (bl_refl _) | exact hK.out _ _ rfl (by assumption) | exact hK.out _ _ (by assumption) (by assumption)
                · cases ho
                  simp only [Act.put, List.setIfInBounds_toArray, List.set_cons_zero, List.set_cons_succ] at hK
                  clear hs
                  go_simp
                  all_goals (try go_wp2_with (first | (go_at_call 62; refine (lead_d _ _ _ _ _ (by with_reducible assumption) (by with_reducible assumption) (by with_reducible assumption) (by with_reducible assumption)).mono ?_; rintro e w1 ⟨rfl, hb1⟩) | (go_at_call 71; refine (rDot_d _ (by with_reducible assumption) (by with_reducible assumption) (by with_reducible assumption) (by with_reducible assumption) (by decide)).mono ?_; rintro e w1 ⟨rfl, hb1⟩)))
                  all_goals first | exact hK.out _ _ rfl (bl_refl _) | exact hK.out _ _ rfl (by assumption) | exact hK.out _ _ (by assumption) (by assumption)
                · cases ho
                  have e1 : s 1 = _ := hs 1 (by decide) (by kernel_rfl)
                  have e2 : s 2 = _ := hs 2 (by decide) (by kernel_rfl)
                  simp only [e1, e2] at hK ⊢
                  simp only [Act.put, List.setIfInBounds_toArray, List.set_cons_zero, List.set_cons_succ] at hK
                  clear hs
                  go_simp
                  all_goals (try go_wp2_with (first | (go_at_call 62; refine (lead_d _ _ _ _ _ (by with_reducible assumption) (by with_reducible assumption) (by with_reducible assumption) (by with_reducible assumption)).mono ?_; rintro e w1 ⟨rfl, hb1⟩) | (go_at_call 71; refine (rDot_d _ (by with_reducible assumption) (by with_reducible assumption) (by with_reducible assumption) (by with_reducible assumption) (by decide)).mono ?_; rintro e w1 ⟨rfl, hb1⟩)))
                  all_goals first | exact hK.out _ _ rfl (bl_refl _) | exact hK.out _ _ rfl (by assumption) | exact hK.out _ _ (by assumption) (by assumption)
                · cases ho
                  have e3 : s 3 = _ := hs 3 (by decide) (by kernel_rfl)
                  simp only [e3] at hK ⊢
                  simp only [Act.put, List.setIfInBounds_toArray, List.set_cons_zero, List.set_cons_succ] at hK
                  clear hs
                  go_simp
                  all_goals (try go_wp2_with (first | (go_at_call 62; refine (lead_d _ _ _ _ _ (by with_reducible assumption) (by with_reducible assumption) (by with_reducible assumption) (by with_reducible assumption)).mono ?_; rintro e w1 ⟨rfl, hb1⟩) | (go_at_call 71; refine (rDot_d _ (by with_reducible assumption) (by with_reducible assumption) (by with_reducible assumption) (by with_reducible assumption) (by decide)).mono ?_; rintro e w1 ⟨rfl, hb1⟩)))
                  all_goals first | exact hK.out _ _ rfl (bl_refl _) | exact hK.out _ _ rfl (by assumption) | exact hK.out _ _ (by assumption) (by assumption)
                · cases ho
                  simp only [Act.put, List.setIfInBounds_toArray, List.set_cons_zero, List.set_cons_succ] at hK
                  clear hs
                  go_simp
                  all_goals (try go_wp2_with (first | (go_at_call 62; refine (lead_d _ _ _ _ _ (by with_reducible assumption) (by with_reducible assumption) (by with_reducible assumption) (by with_reducible assumption)).mono ?_; rintro e w1 ⟨rfl, hb1⟩) | (go_at_call 71; refine (rDot_d _ (by with_reducible assumption) (by with_reducible assumption) (by with_reducible assumption) (by with_reducible assumption) (by decide)).mono ?_; rintro e w1 ⟨rfl, hb1⟩)))
                  all_goals first | exact hK.out _ _ rfl (bl_refl _) | exact hK.out _ _ rfl (by assumption) | exact hK.out _ _ (by assumption) (by assumption)
                · cases ho
                  simp only [Act.put, List.setIfInBounds_toArray, List.set_cons_zero, List.set_cons_succ] at hK
                  clear hs
                  go_simp
                  all_goals (try go_wp2_with (first | (go_at_call 62; refine (lead_d _ _ _ _ _ (by with_reducible assumption) (by with_reducible assumption) (by with_reducible assumption) (by with_reducible assumption)).mono ?_; rintro e w1 ⟨rfl, hb1⟩) | (go_at_call 71; refine (rDot_d _ (by with_reducible assumption) (by with_reducible assumption) (by with_reducible assumption) (by with_reducible assumption) (by decide)).mono ?_; rintro e w1 ⟨rfl, hb1⟩)))
                  all_goals first | exact hK.out _ _ rfl (bl_refl _) | exact hK.out _ _ rfl (by assumption) | exact hK.out _ _ (by assumption) (by assumption)
                · cases ho
                  have e5 : s 5 = _ := hs 5 (by decide) (by kernel_rfl)
                  have e6 : s 6 = _ := hs 6 (by decide) (by kernel_rfl)
                  simp only [e5, e6] at hK ⊢
                  simp only [Act.put, List.setIfInBounds_toArray, List.set_cons_zero, List.set_cons_succ] at hK
                  clear hs
                  go_simp
                  all_goals (try go_wp2_with (first | (go_at_call 62; refine (lead_d _ _ _ _ _ (by with_reducible assumption) (by with_reducible assumption) (by with_reducible assumption) (by with_reducible assumption)).mono ?_; rintro e w1 ⟨rfl, hb1⟩) | (go_at_call 71; refine (rDot_d _ (by with_reducible assumption) (by with_reducible assumption) (by with_reducible assumption) (by with_reducible assumption) (by decide)).mono ?_; rintro e w1 ⟨rfl, hb1⟩)))
                  all_goals first | exact hK.out _ _ rfl (bl_refl _) | exact hK.out _ _ rfl (by assumption) | exact hK.out _ _ (by assumption) (by assumption)
                · cases ho
                  have e7 : s 7 = _ := hs 7 (by decide) (by kernel_rfl)
                  simp only [e7] at hK ⊢
                  simp only [Act.put, List.setIfInBounds_toArray, List.set_cons_zero, List.set_cons_succ] at hK
                  clear hs
                  go_simp
                  all_goals (try go_wp2_with (first | (go_at_call 62; refine (lead_d _ _ _ _ _ (by with_reducible assumption) (by with_reducible assumption) (by with_reducible assumption) (by with_reducible assumption)).mono ?_; rintro e w1 ⟨rfl, hb1⟩) | (go_at_call 71; refine (rDot_d _ (by with_reducible assumption) (by with_reducible assumption) (by with_reducible assumption) (by with_reducible assumption) (by decide)).mono ?_; rintro e w1 ⟨rfl, hb1⟩)))
                  all_goals first | exact hK.out _ _ rfl (bl_refl _) | exact hK.out _ _ rfl (by assumption) | exact hK.out _ _ (by assumption) (by assumption)
                · cases ho
                  have e4 : s 4 = _ := hs 4 (by decide) (by kernel_rfl)
                  have e8 : s 8 = _ := hs 8 (by decide) (by kernel_rfl)
                  simp only [e4, e8] at hK ⊢
                  simp only [Act.put, List.setIfInBounds_toArray, List.set_cons_zero, List.set_cons_succ] at hK
                  clear hs
                  go_simp
                  all_goals (try go_wp2_with (first | (go_at_call 62; refine (lead_d _ _ _ _ _ (by with_reducible assumption) (by with_reducible assumption) (by with_reducible assumption) (by with_reducible assumption)).mono ?_; rintro e w1 ⟨rfl, hb1⟩) | (go_at_call 71; refine (rDot_d _ (by with_reducible assumption) (by with_reducible assumption) (by with_reducible assumption) (by with_reducible assumption) (by decide)).mono ?_; rintro e w1 ⟨rfl, hb1⟩)))
                  all_goals first | exact hK.out _ _ rfl (bl_refl _) | exact hK.out _ _ rfl (by assumption) | exact hK.out _ _ (by assumption) (by assumption)
                · cases ho
                  have e0 : s 0 = _ := hs 0 (by decide) (by kernel_rfl)
                  have e9 : s 9 = _ := hs 9 (by decide) (by kernel_rfl)
                  simp only [e0, e9] at hK ⊢
                  simp only [Act.put, List.setIfInBounds_toArray, List.set_cons_zero, List.set_cons_succ] at hK
                  clear hs
                  go_simp
                  all_goals (try go_wp2_with (first | (go_at_call 62; refine (lead_d _ _ _ _ _ (by with_reducible assumption) (by with_reducible assumption) (by with_reducible assumption) (by with_reducible assumption)).mono ?_; rintro e w1 ⟨rfl, hb1⟩) | (go_at_call 71; refine (rDot_d _ (by with_reducible assumption) (by with_reducible assumption) (by with_reducible assumption) (by with_reducible assumption) (by decide)).mono ?_; rintro e w1 ⟨rfl, hb1⟩)))
                  all_goals first | exact hK.out _ _ rfl (bl_refl _) | exact hK.out _ _ rfl (by assumption) | exact hK.out _ _ (by assumption) (by assumption)
                · cases ho
                  have e10 : s 10 = _ := hs 10 (by decide) (by kernel_rfl)
                  simp only [e10] at hK ⊢
                  simp only [Act.put, List.setIfInBounds_toArray, List.set_cons_zero, List.set_cons_succ] at hK
                  clear hs
                  go_simp
                  all_goals (try go_wp2_with (first | (go_at_call 62; refine (lead_d _ _ _ _ _ (by with_reducible assumption) (by with_reducible assumption) (by with_reducible assumption) (by with_reducible assumption)).mono ?_; rintro e w1 ⟨rfl, hb1⟩) | (go_at_call 71; refine (rDot_d _ (by with_reducible assumption) (by with_reducible assumption) (by with_reducible assumption) (by with_reducible assumption) (by decide)).mono ?_; rintro e w1 ⟨rfl, hb1⟩)))
                  all_goals first | exact hK.out _ _ rfl (bl_refl _) | exact hK.out _ _ rfl (by assumption) | exact hK.out _ _ (by assumption) (by assumption)
              case ht_wi =>
                intro s hs W hb hJ
                have e0 : s 0 = _ := hs 0 (by decide)
                have e1 : s 1 = _ := hs 1 (by decide)
                have e2 : s 2 = _ := hs 2 (by decide)
                have e3 : s 3 = _ := hs 3 (by decide)
                have e4 : s 4 = _ := hs 4 (by decide)
                have e5 : s 5 = _ := hs 5 (by decide)
                have e6 : s 6 = _ := hs 6 (by decide)
                have e7 : s 7 = _ := hs 7 (by decide)
                have e8 : s 8 = _ := hs 8 (by decide)
                have e9 : s 9 = _ := hs 9 (by decide)
                have e10 : s 10 = _ := hs 10 (by decide)
                have e11 : s 11 = _ := hs 11 (by decide)
                simp only [e0, e1, e2, e3, e4, e5, e6, e7, e8, e9, e10, e11]
                clear hs
                refine tail_end ?_
                go_wp2
                exact ⟨⟨kx + 1, kx, _, rfl, by omega, by go_num, by subst hkq; exact ah_up hl hw, rfl, bl_trans hB hb, keep hb t0, keep hb t1⟩, by simp [intOf]; omega⟩
          · have hkm2 : kx = m := by omega
            subst hkm2
            have el : ahS us vs n xs ys kx ix = l := by unfold ahS; rw [show kx - 1 = q by omega]; exact hl
            by_cases hx0 : ix = 0
            · subst hx0
              go_wp2
              exact ⟨⟨1, 0, l, by omega, by go_num, fun _ => ⟨rfl, el⟩, rfl, rfl, hB⟩, by simp [intOf] <;> omega⟩
            · have x1 : ((ix : Int) == 0) = false := by simp; omega
              have x2 : ¬ (ix : Int) = 0 := by omega
              obtain ⟨e1, e2⟩ := hSF (by omega)
              have ej : ix - 1 + 1 = ix := by omega
              cases hw : ltK .f64 fr l
              · have h := ap_go e1 e2 (by rw [ej, el]; exact hw)
                rw [ej] at h
                go_wp2
                exact ⟨⟨ix + 1, sd, fr, by omega, by go_num, fun _ => h, rfl, rfl, hB⟩, by simp [intOf] <;> omega⟩
              · have h := ap_up e2 (by rw [ej, el]; exact hw)
                rw [ej, el] at h
                go_wp2
                exact ⟨⟨ix + 1, ix, l, by omega, by go_num, fun _ => h, rfl, rfl, hB⟩, by simp [intOf] <;> omega⟩
    · have hin : ix = n := by omega
      subst hin
      obtain ⟨e1, e2⟩ := hSF pA
      go_wp2
      refine bodyPost_ret (v := .tuple #[.int .i64 sd, .float .f64 fr, .int .i64 0]) (by simp [results, Try.results39, go_sem] <;> (first | exact ⟨⟨rfl, rfl⟩, rfl⟩ | exact ⟨rfl, rfl, rfl, rfl⟩ | exact ⟨rfl, rfl, rfl⟩ | exact ⟨rfl, rfl⟩ | rfl)) rfl ⟨by rw [eE]; unfold apV apW; rw [eE, if_pos rfl, if_pos rfl, e1, e2], Bc⟩
theorem rapart_bad (VA VB : Value) (n m : Nat) (us vs xs ys : Nat → Nat) (w : World) (hA : AnyS w VA n us vs) (hB : AnyS w VB m xs ys) (he : ¬ apE us vs n xs ys m = 0) : Calls Try.prog 39 #[VA, VB] w fun e w' => e = .returned (.tuple #[.int .i64 0, .float .f64 0, .int .i64 (apE us vs n xs ys m)]) ∧ Bel w w' := by
  have TW := two_any VA VB n m us vs xs ys w hA hB
  obtain ⟨v, hv⟩ : ∃ v, apE us vs n xs ys m = v := ⟨_, rfl⟩
  rw [hv] at TW he
  go_enter Try.func39, Try.ntmps39
  go_wp2_with (first | (go_at_call 87; refine TW.mono ?_; rintro e w_1 ⟨rfl, B1⟩))
  all_goals
    refine bodyPost_ret (v := .tuple #[.int .i64 0, .float .f64 0, .int .i64 v]) (by simp [results, Try.results39, go_sem] <;> (first | exact ⟨⟨rfl, rfl⟩, rfl⟩ | exact ⟨rfl, rfl, rfl, rfl⟩ | exact ⟨rfl, rfl, rfl⟩ | exact ⟨rfl, rfl⟩ | rfl)) rfl ⟨by rw [hv], B1⟩
theorem rapart_all (VA VB : Value) (n m : Nat) (us vs xs ys : Nat → Nat) (w : World) (hA : AnyS w VA n us vs) (hB : AnyS w VB m xs ys) :
    Calls Try.prog 39 #[VA, VB] w fun e w' => e = .returned (.tuple #[.int .i64 (apV us vs n xs ys m), .float .f64 (apW us vs n xs ys m), .int .i64 (apE us vs n xs ys m)]) ∧ Bel w w' := by
  by_cases he : apE us vs n xs ys m = 0
  · have hch : chkE us vs n = 0 := by
      by_cases h : chkE us vs n = 0
      · exact h
      · unfold apE at he; rw [if_neg h] at he; exact he
    have hc2 : chkE xs ys m = 0 := by unfold apE at he; rw [if_pos hch] at he; exact he
    obtain ⟨a, ca, rfl, a2, a3, a4, a5, a6⟩ := hA
    obtain ⟨b, cb, rfl, b2, b3, b4, b5, b6⟩ := hB
    rcases a6 with rfl | ⟨a0, ba, oa, rfl, sa⟩
    · rw [chk_zero] at hch; cases hch
    · rcases b6 with rfl | ⟨b0, bb, ob, rfl, sb⟩
      · rw [chk_zero] at hc2; cases hc2
      · exact rapart_d ba oa n ca us vs bb ob m cb xs ys w sa a5 a0 a3 a2 sb b5 b0 b3 b2 hch hc2
  · have h := rapart_bad VA VB n m us vs xs ys w hA hB he
    have e1 : apV us vs n xs ys m = 0 := by unfold apV; rw [if_neg he]
    have e2 : apW us vs n xs ys m = 0 := by unfold apW; rw [if_neg he]
    rw [e1, e2]
    exact h

end Go.Proofs.Ytdkfefbllmjnjaa
