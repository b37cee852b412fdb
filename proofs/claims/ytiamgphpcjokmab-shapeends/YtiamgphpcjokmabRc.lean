/-
  What each function of package poly answers, and what the reference of its chapter answers: one contract a function, for every float: the answer stands in the relation of its formula to what was given; of the memory that was there nothing has turned.
-/
import Derived.Test.YtiamgphpcjokmabVec
import Derived.Test.YtiamgphpcjokmabRb
import Derived.Below
import Derived.WalkKit
import Derived.WalkLawsBesides
import Derived.WalkSpells
import Derived.ProofKit
import Derived.OpenShut
import Derived.Deep.RegionHeld3
namespace Go.Proofs.Ytiamgphpcjokmab
open Go.ChangeShapes Go.WideShapes Go.ChangeAt Go.RowKit
set_option linter.unusedVariables false
set_option linter.unusedSimpArgs false


set_option maxHeartbeats 2000000 in
theorem rhas_d (b off n cap : Nat) (xs ys : Nat → Nat) (w : World) (sB : Sl w b off n xs ys) (o_ : Oks xs ys n) (hp : 0 < n) (hn : n ≤ maxLen) (hcap : n ≤ cap) (hr : n * 16 ≤ 140737488351232) (p q : Nat) (op : okK .f64 p) (oq : okK .f64 q) : Calls Try.prog 44 #[.slice (some ⟨b, off, none⟩) n cap, .agg #[.float .f64 p, .float .f64 q]] w fun e w' => e = .returned (.tuple #[.bool (hasV xs ys n p q), .int .i64 (withE xs ys n p q)]) ∧ Bel w w' := by
  have anyV : AnyS w (.slice (some ⟨b, off, none⟩) n cap) n xs ys := ⟨_, _, rfl, hcap, hn, hr, o_, .inr ⟨hp, _, _, rfl, sB⟩⟩
  have CHK := rchk_any _ n xs ys _ (anyV.bel (bl_alloc (bl_refl w) #[.float .f64 p, .float .f64 q] 27))
  have B0 := bl_alloc (bl_refl w) #[.float .f64 p, .float .f64 q] 27
  obtain ⟨z0, z1⟩ : (w.alloc (.cells #[.float .f64 p, .float .f64 q] 27)).cell? ⟨w.heap.size, 0, none⟩ = some (.float .f64 p) ∧ (w.alloc (.cells #[.float .f64 p, .float .f64 q] 27)).cell? ⟨w.heap.size, 1, none⟩ = some (.float .f64 q) := cell_own (by simp) _ _ _
  have om : okK .f64 4787326403894837248 := by rw [okK64]; decide
  by_cases hch : chkE xs ys n = 0
  · rw [hch] at CHK
    obtain ⟨g, h3, h64, _⟩ := chk_ok o_ hch
    cases hw : (withinK .f64 p 4787326403894837248 && withinK .f64 q 4787326403894837248)
    · have ew : withE xs ys n p q = 5 := by unfold withE; rw [if_pos hch, hw]; rfl
      go_enter Try.func44, Try.ntmps44
      go_wp2_with (first | (go_at_call 74; refine CHK.mono ?_; rintro e w_1 ⟨rfl, hb⟩; have B1 := bl_trans B0 hb; replace z0 := keep hb z0; replace z1 := keep hb z1) | (go_at_call 77; refine (rWithin_any _ _ _ op oq om _).mono ?_; rintro e w_2 ⟨rfl, hb⟩; rw [hw]; have B2 := bl_trans B1 hb; replace z0 := keep hb z0; replace z1 := keep hb z1))
      refine bodyPost_ret (v := .tuple #[.bool false, .int .i64 5]) (by simp [results, Try.results44, go_sem] <;> (first | exact ⟨⟨rfl, rfl⟩, rfl⟩ | exact ⟨rfl, rfl, rfl, rfl⟩ | exact ⟨rfl, rfl, rfl⟩ | exact ⟨rfl, rfl⟩ | rfl)) rfl ⟨by unfold hasV; rw [ew]; rfl, B2⟩
    · have ew : withE xs ys n p q = 0 := by unfold withE; rw [if_pos hch, hw]; rfl
      obtain ⟨_, b1, b2⟩ := with_ok o_ op oq ew
      have c1 := cmp_lt .f64
      have c2 := cmp_gt .f64
      go_enter Try.func44, Try.ntmps44
      go_wp2_with (first | (go_at_call 74; refine CHK.mono ?_; rintro e w_1 ⟨rfl, hb⟩; have B1 := bl_trans B0 hb; replace z0 := keep hb z0; replace z1 := keep hb z1) | (go_at_call 77; refine (rWithin_any _ _ _ op oq om _).mono ?_; rintro e w_2 ⟨rfl, hb⟩; rw [hw]; have B2 := bl_trans B1 hb; replace z0 := keep hb z0; replace z1 := keep hb z1))
      go_loopw [7] (fun i' wr => ∃ kx : Nat, kx ≤ n ∧ i' = .int .i64 kx ∧ Bel w wr ∧ wr.cell? ⟨w.heap.size, 0, none⟩ = some (.float .f64 p) ∧ wr.cell? ⟨w.heap.size, 1, none⟩ = some (.float .f64 q) ∧ ∀ i, i < kx → ltK .f64 (lnS xs ys n i p q) 0 = false) (fun i' _ => n - (intOf i').toNat)
      case atStart => exact ⟨0, by omega, rfl, B2, z0, z1, fun i h => by omega⟩
      case round =>
        obtain ⟨kx, hk, rfl, hB, d0, d1, hq⟩ := hrel
        by_cases hlt : kx < n
        · have k1 : (kx : Int) < (n : Int) := by omega
          cases hw2 : ltK .f64 (lnS xs ys n kx p q) 0
          all_goals
            go_wp2_with (first | (go_at_call 78; refine (left_d b off n cap xs ys _ (sB.bel hB) g kx hlt hn hcap p q b1 b2).mono ?_; rintro e w_3 ⟨rfl, hb⟩; have B3 := bl_trans hB hb))
          · refine ⟨⟨kx + 1, by omega, by go_num, B3, keep hb d0, keep hb d1, fun i h => ?_⟩, by simp [intOf]; omega⟩
            rcases Nat.lt_or_ge i kx with h' | h'
            · exact hq i h'
            · rw [show i = kx by omega]; exact hw2
          · refine bodyPost_ret (v := .tuple #[.bool false, .int .i64 0]) (by simp [results, Try.results44, go_sem] <;> (first | exact ⟨⟨rfl, rfl⟩, rfl⟩ | exact ⟨rfl, rfl, rfl, rfl⟩ | exact ⟨rfl, rfl, rfl⟩ | exact ⟨rfl, rfl⟩ | rfl)) rfl ⟨by rw [ew]; unfold hasV; rw [ew, has_no (xs := xs) (ys := ys) (p := p) (q := q) hlt hw2]; rfl, B3⟩
        · have hkn : kx = n := by omega
          subst hkn
          go_wp2
          refine bodyPost_ret (v := .tuple #[.bool true, .int .i64 0]) (by simp [results, Try.results44, go_sem] <;> (first | exact ⟨⟨rfl, rfl⟩, rfl⟩ | exact ⟨rfl, rfl, rfl, rfl⟩ | exact ⟨rfl, rfl, rfl⟩ | exact ⟨rfl, rfl⟩ | rfl)) rfl ⟨by rw [ew]; unfold hasV hasB; rw [ew, allB_iff.2 (fun i hi => by rw [hq i hi]; rfl)]; rfl, hB⟩
  · obtain ⟨v, hv⟩ : ∃ v, chkE xs ys n = v := ⟨_, rfl⟩
    have ew : withE xs ys n p q = v := by unfold withE; rw [if_neg hch, hv]
    rw [hv] at CHK hch
    go_enter Try.func44, Try.ntmps44
    go_wp2_with (first | (go_at_call 74; refine CHK.mono ?_; rintro e w_1 ⟨rfl, hb⟩; have B1 := bl_trans B0 hb; replace z0 := keep hb z0; replace z1 := keep hb z1))
    all_goals
      refine bodyPost_ret (v := .tuple #[.bool false, .int .i64 v]) (by simp [results, Try.results44, go_sem] <;> (first | exact ⟨⟨rfl, rfl⟩, rfl⟩ | exact ⟨rfl, rfl, rfl, rfl⟩ | exact ⟨rfl, rfl, rfl⟩ | exact ⟨rfl, rfl⟩ | rfl)) rfl ⟨by unfold hasV; rw [ew]; simp [hch], B1⟩

set_option maxHeartbeats 2000000 in
theorem rfar_d (b off n cap : Nat) (xs ys : Nat → Nat) (w : World) (sB : Sl w b off n xs ys) (o_ : Oks xs ys n) (hp : 0 < n) (hn : n ≤ maxLen) (hcap : n ≤ cap) (hr : n * 16 ≤ 140737488351232) (p q : Nat) (op : okK .f64 p) (oq : okK .f64 q) : Calls Try.prog 50 #[.slice (some ⟨b, off, none⟩) n cap, .agg #[.float .f64 p, .float .f64 q]] w fun e w' => e = .returned (.tuple #[.int .i64 (farV xs ys n p q), .int .i64 (withE xs ys n p q)]) ∧ Bel w w' := by
  have anyV : AnyS w (.slice (some ⟨b, off, none⟩) n cap) n xs ys := ⟨_, _, rfl, hcap, hn, hr, o_, .inr ⟨hp, _, _, rfl, sB⟩⟩
  have CHK := rchk_any _ n xs ys _ (anyV.bel (bl_alloc (bl_refl w) #[.float .f64 p, .float .f64 q] 27))
  have B0 := bl_alloc (bl_refl w) #[.float .f64 p, .float .f64 q] 27
  obtain ⟨z0, z1⟩ : (w.alloc (.cells #[.float .f64 p, .float .f64 q] 27)).cell? ⟨w.heap.size, 0, none⟩ = some (.float .f64 p) ∧ (w.alloc (.cells #[.float .f64 p, .float .f64 q] 27)).cell? ⟨w.heap.size, 1, none⟩ = some (.float .f64 q) := cell_own (by simp) _ _ _
  have om : okK .f64 4787326403894837248 := by rw [okK64]; decide
  by_cases hch : chkE xs ys n = 0
  · rw [hch] at CHK
    obtain ⟨g, h3, h64, _⟩ := chk_ok o_ hch
    cases hw : (withinK .f64 p 4787326403894837248 && withinK .f64 q 4787326403894837248)
    · have ew : withE xs ys n p q = 5 := by unfold withE; rw [if_pos hch, hw]; rfl
      go_enter Try.func50, Try.ntmps50
      go_wp2_with (first | (go_at_call 74; refine CHK.mono ?_; rintro e w_1 ⟨rfl, hb⟩; have B1 := bl_trans B0 hb; replace z0 := keep hb z0; replace z1 := keep hb z1) | (go_at_call 77; refine (rWithin_any _ _ _ op oq om _).mono ?_; rintro e w_2 ⟨rfl, hb⟩; rw [hw]; have B2 := bl_trans B1 hb; replace z0 := keep hb z0; replace z1 := keep hb z1))
      refine bodyPost_ret (v := .tuple #[.int .i64 0, .int .i64 5]) (by simp [results, Try.results50, go_sem] <;> (first | exact ⟨⟨rfl, rfl⟩, rfl⟩ | exact ⟨rfl, rfl, rfl, rfl⟩ | exact ⟨rfl, rfl, rfl⟩ | exact ⟨rfl, rfl⟩ | rfl)) rfl ⟨by unfold farV; rw [ew]; rfl, B2⟩
    · have ew : withE xs ys n p q = 0 := by unfold withE; rw [if_pos hch, hw]; rfl
      obtain ⟨_, b1, b2⟩ := with_ok o_ op oq ew
      have c1 := cmp_lt .f64
      have c2 := cmp_gt .f64
      go_enter Try.func50, Try.ntmps50
      go_wp2_with (first | (go_at_call 74; refine CHK.mono ?_; rintro e w_1 ⟨rfl, hb⟩; have B1 := bl_trans B0 hb; replace z0 := keep hb z0; replace z1 := keep hb z1) | (go_at_call 77; refine (rWithin_any _ _ _ op oq om _).mono ?_; rintro e w_2 ⟨rfl, hb⟩; rw [hw]; have B2 := bl_trans B1 hb; replace z0 := keep hb z0; replace z1 := keep hb z1))
      go_loopw [8, 7] (fun i' b' wr => ∃ kx fb : Nat, 1 ≤ kx ∧ kx ≤ n ∧ i' = .int .i64 kx ∧ farK xs ys p q (kx - 1) = fb ∧ fb < n ∧ b' = .int .i64 fb ∧ Bel w wr ∧ wr.cell? ⟨w.heap.size, 0, none⟩ = some (.float .f64 p) ∧ wr.cell? ⟨w.heap.size, 1, none⟩ = some (.float .f64 q)) (fun i' _ _ => n - (intOf i').toNat)
      case atStart => exact ⟨1, 0, by omega, by omega, rfl, rfl, by omega, rfl, B2, z0, z1⟩
      case round =>
        obtain ⟨kx, fb, hk1, hk, rfl, hf, hfn, rfl, hB, d0, d1⟩ := hrel
        by_cases hlt : kx < n
        · have k1 : (kx : Int) < (n : Int) := by omega
          have k2 : (fb : Int) < (n : Int) := by omega
          obtain ⟨g1, g2⟩ := g kx hlt
          obtain ⟨g3, g4⟩ := g fb hfn
          cases hw : ltK .f64 (dtK (xs fb) (ys fb) p q) (dtK (xs kx) (ys kx) p q)
          · go_wp2
            refine wp_region_multiA 13 (fun i v => match i with | 0 => v = .slice (some ⟨b, off, none⟩) n cap | 1 => v = .int .i64 (kx : Int) | 2 => v = .pointer (some ⟨b, off + kx * 2, none⟩) | 3 => v = .agg #[.float .f64 (xs kx), .float .f64 (ys kx)] | 4 => v = .agg #[.float .f64 p, .float .f64 q] | 5 => v = .float .f64 (dtK (xs kx) (ys kx) p q) | 6 => v = .slice (some ⟨b, off, none⟩) n cap | 7 => v = .int .i64 (fb : Int) | 8 => v = .pointer (some ⟨b, off + fb * 2, none⟩) | 9 => v = .agg #[.float .f64 (xs fb), .float .f64 (ys fb)] | 10 => v = .agg #[.float .f64 p, .float .f64 q] | 11 => v = .float .f64 (dtK (xs fb) (ys fb) p q) | 12 => v = .bool false | _ => False) (fun i => match i with  | _ => none) ?A_wh (by kernel_rfl) (by kernel_rfl) ?hA_wh ?ha_wh ?hq_wh [] rfl ?ht_wh
            case hA_wh =>
              intro s
              simp only [putL, dstO, Act.put, List.getElem?_toArray, List.getElem?_cons_zero, List.getElem?_cons_succ, Option.bind_some, List.setIfInBounds_toArray, List.set_cons_zero, List.set_cons_succ, if_true]
              all_goals exact rfl
            case ha_wh =>
              intro i o ob hi ho hal
              rcases (show i = 0 ∨ i = 1 ∨ i = 2 ∨ i = 3 ∨ i = 4 ∨ i = 5 ∨ i = 6 ∨ i = 7 ∨ i = 8 ∨ i = 9 ∨ i = 10 ∨ i = 11 ∨ i = 12 by omega) with rfl | rfl | rfl | rfl | rfl | rfl | rfl | rfl | rfl | rfl | rfl | rfl | rfl
              · cases hal
              · cases hal
              · cases hal
              · cases hal
              · cases hal
              · cases hal
              · cases hal
              · cases hal
              · cases hal
              · cases hal
              · cases hal
              · cases hal
              · cases hal
            case hq_wh =>
              intro i o hi ho hal s hs W hb K hK
              have y0 := keep hb d0; have y1 := keep hb d1; obtain ⟨y2, y3⟩ := (sB.bel (bl_trans hB hb)) kx hlt; obtain ⟨y4, y5⟩ := (sB.bel (bl_trans hB hb)) fb hfn
              rcases (show i = 0 ∨ i = 1 ∨ i = 2 ∨ i = 3 ∨ i = 4 ∨ i = 5 ∨ i = 6 ∨ i = 7 ∨ i = 8 ∨ i = 9 ∨ i = 10 ∨ i = 11 ∨ i = 12 by omega) with rfl | rfl | rfl | rfl | rfl | rfl | rfl | rfl | rfl | rfl | rfl | rfl | rfl
              · cases ho
                simp only [Act.put, List.setIfInBounds_toArray, List.set_cons_zero, List.set_cons_succ] at hK
                clear hs
                go_simp
                all_goals (try go_wp2_with (first | (go_at_call 81; refine (rDot_d _ (by with_reducible assumption) (by with_reducible assumption) (by with_reducible assumption) (by with_reducible assumption) (by decide)).mono ?_; rintro e w1 ⟨rfl, hb1⟩)))
                all_goals first | exact hK.out _ _ rfl (bl_refl _) | exact hK.out _ _ rfl (by assumption) | exact hK.out _ _ (by assumption) (by assumption)
              · cases ho
                simp only [Act.put, List.setIfInBounds_toArray, List.set_cons_zero, List.set_cons_succ] at hK
                clear hs
                go_simp
                all_goals (try go_wp2_with (first | (go_at_call 81; refine (rDot_d _ (by with_reducible assumption) (by with_reducible assumption) (by with_reducible assumption) (by with_reducible assumption) (by decide)).mono ?_; rintro e w1 ⟨rfl, hb1⟩)))
                all_goals first | exact hK.out _ _ rfl (bl_refl _) | exact hK.out _ _ rfl (by assumption) | exact hK.out _ _ (by assumption) (by assumption)
              · cases ho
                have e0 : s 0 = _ := hs 0 (by decide) (by kernel_rfl)
                have e1 : s 1 = _ := hs 1 (by decide) (by kernel_rfl)
                simp only [e0, e1] at hK ⊢
                simp only [Act.put, List.setIfInBounds_toArray, List.set_cons_zero, List.set_cons_succ] at hK
                clear hs
                go_simp
                all_goals (try go_wp2_with (first | (go_at_call 81; refine (rDot_d _ (by with_reducible assumption) (by with_reducible assumption) (by with_reducible assumption) (by with_reducible assumption) (by decide)).mono ?_; rintro e w1 ⟨rfl, hb1⟩)))
                all_goals first | exact hK.out _ _ rfl (bl_refl _) | exact hK.out _ _ rfl (by assumption) | exact hK.out _ _ (by assumption) (by assumption)
              · cases ho
                have e2 : s 2 = _ := hs 2 (by decide) (by kernel_rfl)
                simp only [e2] at hK ⊢
                simp only [Act.put, List.setIfInBounds_toArray, List.set_cons_zero, List.set_cons_succ] at hK
                clear hs
                go_simp
                all_goals (try go_wp2_with (first | (go_at_call 81; refine (rDot_d _ (by with_reducible assumption) (by with_reducible assumption) (by with_reducible assumption) (by with_reducible assumption) (by decide)).mono ?_; rintro e w1 ⟨rfl, hb1⟩)))
                all_goals first | exact hK.out _ _ rfl (bl_refl _) | exact hK.out _ _ rfl (by assumption) | exact hK.out _ _ (by assumption) (by assumption)
              · cases ho
                simp only [Act.put, List.setIfInBounds_toArray, List.set_cons_zero, List.set_cons_succ] at hK
                clear hs
                go_simp
                all_goals (try go_wp2_with (first | (go_at_call 81; refine (rDot_d _ (by with_reducible assumption) (by with_reducible assumption) (by with_reducible assumption) (by with_reducible assumption) (by decide)).mono ?_; rintro e w1 ⟨rfl, hb1⟩)))
                all_goals first | exact hK.out _ _ rfl (bl_refl _) | exact hK.out _ _ rfl (by assumption) | exact hK.out _ _ (by assumption) (by assumption)
              · cases ho
                have e3 : s 3 = _ := hs 3 (by decide) (by kernel_rfl)
                have e4 : s 4 = _ := hs 4 (by decide) (by kernel_rfl)
                simp only [e3, e4] at hK ⊢
                simp only [Act.put, List.setIfInBounds_toArray, List.set_cons_zero, List.set_cons_succ] at hK
                clear hs
                go_simp
                all_goals (try go_wp2_with (first | (go_at_call 81; refine (rDot_d _ (by with_reducible assumption) (by with_reducible assumption) (by with_reducible assumption) (by with_reducible assumption) (by decide)).mono ?_; rintro e w1 ⟨rfl, hb1⟩)))
                all_goals first | exact hK.out _ _ rfl (bl_refl _) | exact hK.out _ _ rfl (by assumption) | exact hK.out _ _ (by assumption) (by assumption)
              · cases ho
                simp only [Act.put, List.setIfInBounds_toArray, List.set_cons_zero, List.set_cons_succ] at hK
                clear hs
                go_simp
                all_goals (try go_wp2_with (first | (go_at_call 81; refine (rDot_d _ (by with_reducible assumption) (by with_reducible assumption) (by with_reducible assumption) (by with_reducible assumption) (by decide)).mono ?_; rintro e w1 ⟨rfl, hb1⟩)))
                all_goals first | exact hK.out _ _ rfl (bl_refl _) | exact hK.out _ _ rfl (by assumption) | exact hK.out _ _ (by assumption) (by assumption)
              · cases ho
                simp only [Act.put, List.setIfInBounds_toArray, List.set_cons_zero, List.set_cons_succ] at hK
                clear hs
                go_simp
                all_goals (try go_wp2_with (first | (go_at_call 81; refine (rDot_d _ (by with_reducible assumption) (by with_reducible assumption) (by with_reducible assumption) (by with_reducible assumption) (by decide)).mono ?_; rintro e w1 ⟨rfl, hb1⟩)))
                all_goals first | exact hK.out _ _ rfl (bl_refl _) | exact hK.out _ _ rfl (by assumption) | exact hK.out _ _ (by assumption) (by assumption)
              · cases ho
                have e6 : s 6 = _ := hs 6 (by decide) (by kernel_rfl)
                have e7 : s 7 = _ := hs 7 (by decide) (by kernel_rfl)
                simp only [e6, e7] at hK ⊢
                simp only [Act.put, List.setIfInBounds_toArray, List.set_cons_zero, List.set_cons_succ] at hK
                clear hs
                go_simp
                all_goals (try go_wp2_with (first | (go_at_call 81; refine (rDot_d _ (by with_reducible assumption) (by with_reducible assumption) (by with_reducible assumption) (by with_reducible assumption) (by decide)).mono ?_; rintro e w1 ⟨rfl, hb1⟩)))
                all_goals first | exact hK.out _ _ rfl (bl_refl _) | exact hK.out _ _ rfl (by assumption) | exact hK.out _ _ (by assumption) (by assumption)
              · cases ho
                have e8 : s 8 = _ := hs 8 (by decide) (by kernel_rfl)
                simp only [e8] at hK ⊢
                simp only [Act.put, List.setIfInBounds_toArray, List.set_cons_zero, List.set_cons_succ] at hK
                clear hs
                go_simp
                all_goals (try go_wp2_with (first | (go_at_call 81; refine (rDot_d _ (by with_reducible assumption) (by with_reducible assumption) (by with_reducible assumption) (by with_reducible assumption) (by decide)).mono ?_; rintro e w1 ⟨rfl, hb1⟩)))
                all_goals first | exact hK.out _ _ rfl (bl_refl _) | exact hK.out _ _ rfl (by assumption) | exact hK.out _ _ (by assumption) (by assumption)
              · cases ho
                simp only [Act.put, List.setIfInBounds_toArray, List.set_cons_zero, List.set_cons_succ] at hK
                clear hs
                go_simp
                all_goals (try go_wp2_with (first | (go_at_call 81; refine (rDot_d _ (by with_reducible assumption) (by with_reducible assumption) (by with_reducible assumption) (by with_reducible assumption) (by decide)).mono ?_; rintro e w1 ⟨rfl, hb1⟩)))
                all_goals first | exact hK.out _ _ rfl (bl_refl _) | exact hK.out _ _ rfl (by assumption) | exact hK.out _ _ (by assumption) (by assumption)
              · cases ho
                have e9 : s 9 = _ := hs 9 (by decide) (by kernel_rfl)
                have e10 : s 10 = _ := hs 10 (by decide) (by kernel_rfl)
                simp only [e9, e10] at hK ⊢
                simp only [Act.put, List.setIfInBounds_toArray, List.set_cons_zero, List.set_cons_succ] at hK
                clear hs
                go_simp
                all_goals (try go_wp2_with (first | (go_at_call 81; refine (rDot_d _ (by with_reducible assumption) (by with_reducible assumption) (by with_reducible assumption) (by with_reducible assumption) (by decide)).mono ?_; rintro e w1 ⟨rfl, hb1⟩)))
                all_goals first | exact hK.out _ _ rfl (bl_refl _) | exact hK.out _ _ rfl (by assumption) | exact hK.out _ _ (by assumption) (by assumption)
              · cases ho
                have e5 : s 5 = _ := hs 5 (by decide) (by kernel_rfl)
                have e11 : s 11 = _ := hs 11 (by decide) (by kernel_rfl)
                simp only [e5, e11] at hK ⊢
                simp only [Act.put, List.setIfInBounds_toArray, List.set_cons_zero, List.set_cons_succ] at hK
                clear hs
                go_simp
                all_goals (try go_wp2_with (first | (go_at_call 81; refine (rDot_d _ (by with_reducible assumption) (by with_reducible assumption) (by with_reducible assumption) (by with_reducible assumption) (by decide)).mono ?_; rintro e w1 ⟨rfl, hb1⟩)))
                all_goals first | exact hK.out _ _ rfl (bl_refl _) | exact hK.out _ _ rfl (by assumption) | exact hK.out _ _ (by assumption) (by assumption)
            case ht_wh =>
              intro s hs W hb hJ
              have e0 : s 0 = _ := hs 0 (by decide)
              have e1 : s 1 = _ := hs 1 (by decide)
              have e2 : s 2 = _ := hs 2 (by decide)
              have e3 : s 3 = _ := hs 3 (by decide)
              have e4 : s 4 = _ := hs 4 (by decide)
              have e5 : s 5 = _ := hs 5 (by decide)
              have e6 : s 6 = _ := hs 6 (by decide)
              have e7 : s 7 = _ := hs 7 (by decide)
              have e8 : s 8 = _ := hs 8 (by decide)
              have e9 : s 9 = _ := hs 9 (by decide)
              have e10 : s 10 = _ := hs 10 (by decide)
              have e11 : s 11 = _ := hs 11 (by decide)
              have e12 : s 12 = _ := hs 12 (by decide)
              simp only [e0, e1, e2, e3, e4, e5, e6, e7, e8, e9, e10, e11, e12]
              clear hs
              refine tail_end ?_
              go_wp2
              exact ⟨⟨kx + 1, fb, by omega, by omega, by go_num, far_go hf hw, hfn, rfl, bl_trans hB hb, keep hb d0, keep hb d1⟩, by simp [intOf]; omega⟩
          · go_wp2
            refine wp_region_multiA 13 (fun i v => match i with | 0 => v = .slice (some ⟨b, off, none⟩) n cap | 1 => v = .int .i64 (kx : Int) | 2 => v = .pointer (some ⟨b, off + kx * 2, none⟩) | 3 => v = .agg #[.float .f64 (xs kx), .float .f64 (ys kx)] | 4 => v = .agg #[.float .f64 p, .float .f64 q] | 5 => v = .float .f64 (dtK (xs kx) (ys kx) p q) | 6 => v = .slice (some ⟨b, off, none⟩) n cap | 7 => v = .int .i64 (fb : Int) | 8 => v = .pointer (some ⟨b, off + fb * 2, none⟩) | 9 => v = .agg #[.float .f64 (xs fb), .float .f64 (ys fb)] | 10 => v = .agg #[.float .f64 p, .float .f64 q] | 11 => v = .float .f64 (dtK (xs fb) (ys fb) p q) | 12 => v = .bool true | _ => False) (fun i => match i with  | _ => none) ?A_wh (by kernel_rfl) (by kernel_rfl) ?hA_wh ?ha_wh ?hq_wh [] rfl ?ht_wh
            case hA_wh =>
              intro s
              simp only [putL, dstO, Act.put, List.getElem?_toArray, List.getElem?_cons_zero, List.getElem?_cons_succ, Option.bind_some, List.setIfInBounds_toArray, List.set_cons_zero, List.set_cons_succ, if_true]
              all_goals exact rfl
            case ha_wh =>
              intro i o ob hi ho hal
              rcases (show i = 0 ∨ i = 1 ∨ i = 2 ∨ i = 3 ∨ i = 4 ∨ i = 5 ∨ i = 6 ∨ i = 7 ∨ i = 8 ∨ i = 9 ∨ i = 10 ∨ i = 11 ∨ i = 12 by omega) with rfl | rfl | rfl | rfl | rfl | rfl | rfl | rfl | rfl | rfl | rfl | rfl | rfl
              · cases hal
              · cases hal
              · cases hal
              · cases hal
              · cases hal
              · cases hal
              · cases hal
              · cases hal
              · cases hal
              · cases hal
              · cases hal
              · cases hal
              · cases hal
            case hq_wh =>
              intro i o hi ho hal s hs W hb K hK
              have y0 := keep hb d0; have y1 := keep hb d1; obtain ⟨y2, y3⟩ := (sB.bel (bl_trans hB hb)) kx hlt; obtain ⟨y4, y5⟩ := (sB.bel (bl_trans hB hb)) fb hfn
              rcases (show i = 0 ∨ i = 1 ∨ i = 2 ∨ i = 3 ∨ i = 4 ∨ i = 5 ∨ i = 6 ∨ i = 7 ∨ i = 8 ∨ i = 9 ∨ i = 10 ∨ i = 11 ∨ i = 12 by omega) with rfl | rfl | rfl | rfl | rfl | rfl | rfl | rfl | rfl | rfl | rfl | rfl | rfl
              · cases ho
                simp only [Act.put, List.setIfInBounds_toArray, List.set_cons_zero, List.set_cons_succ] at hK
                clear hs
                go_simp
                all_goals (try go_wp2_with (first | (go_at_call 81; refine (rDot_d _ (by with_reducible assumption) (by with_reducible assumption) (by with_reducible assumption) (by with_reducible assumption) (by decide)).mono ?_; rintro e w1 ⟨rfl, hb1⟩)))
                all_goals first | exact hK.out _ _ rfl (bl_refl _) | exact hK.out _ _ rfl (by assumption) | exact hK.out _ _ (by assumption) (by assumption)
              · cases ho
                simp only [Act.put, List.setIfInBounds_toArray, List.set_cons_zero, List.set_cons_succ] at hK
                clear hs
                go_simp
                all_goals (try go_wp2_with (first | (go_at_call 81; refine (rDot_d _ (by with_reducible assumption) (by with_reducible assumption) (by with_reducible assumption) (by with_reducible assumption) (by decide)).mono ?_; rintro e w1 ⟨rfl, hb1⟩)))
                all_goals first | exact hK.out _ _ rfl (bl_refl _) | exact hK.out _ _ rfl (by assumption) | exact hK.out _ _ (by assumption) (by assumption)
              · cases ho
                have e0 : s 0 = _ := hs 0 (by decide) (by kernel_rfl)
                have e1 : s 1 = _ := hs 1 (by decide) (by kernel_rfl)
                simp only [e0, e1] at hK ⊢
                simp only [Act.put, List.setIfInBounds_toArray, List.set_cons_zero, List.set_cons_succ] at hK
                clear hs
                go_simp
                all_goals (try go_wp2_with (first | (go_at_call 81; refine (rDot_d _ (by with_reducible assumption) (by with_reducible assumption) (by with_reducible assumption) (by with_reducible assumption) (by decide)).mono ?_; rintro e w1 ⟨rfl, hb1⟩)))
                all_goals first | exact hK.out _ _ rfl (bl_refl _) | exact hK.out _ _ rfl (by assumption) | exact hK.out _ _ (by assumption) (by assumption)
              · cases ho
                have e2 : s 2 = _ := hs 2 (by decide) (by kernel_rfl)
                simp only [e2] at hK ⊢
                simp only [Act.put, List.setIfInBounds_toArray, List.set_cons_zero, List.set_cons_succ] at hK
                clear hs
                go_simp
                all_goals (try go_wp2_with (first | (go_at_call 81; refine (rDot_d _ (by with_reducible assumption) (by with_reducible assumption) (by with_reducible assumption) (by with_reducible assumption) (by decide)).mono ?_; rintro e w1 ⟨rfl, hb1⟩)))
                all_goals first | exact hK.out _ _ rfl (bl_refl _) | exact hK.out _ _ rfl (by assumption) | exact hK.out _ _ (by assumption) (by assumption)
              · cases ho
                simp only [Act.put, List.setIfInBounds_toArray, List.set_cons_zero, List.set_cons_succ] at hK
                clear hs
                go_simp
                all_goals (try go_wp2_with (first | (go_at_call 81; refine (rDot_d _ (by with_reducible assumption) (by with_reducible assumption) (by with_reducible assumption) (by with_reducible assumption) (by decide)).mono ?_; rintro e w1 ⟨rfl, hb1⟩)))
                all_goals first | exact hK.out _ _ rfl (bl_refl _) | exact hK.out _ _ rfl (by assumption) | exact hK.out _ _ (by assumption) (by assumption)
              · cases ho
                have e3 : s 3 = _ := hs 3 (by decide) (by kernel_rfl)
                have e4 : s 4 = _ := hs 4 (by decide) (by kernel_rfl)
                simp only [e3, e4] at hK ⊢
                simp only [Act.put, List.setIfInBounds_toArray, List.set_cons_zero, List.set_cons_succ] at hK
                clear hs
                go_simp
                all_goals (try go_wp2_with (first | (go_at_call 81; refine (rDot_d _ (by with_reducible assumption) (by with_reducible assumption) (by with_reducible assumption) (by with_reducible assumption) (by decide)).mono ?_; rintro e w1 ⟨rfl, hb1⟩)))
                all_goals first | exact hK.out _ _ rfl (bl_refl _) | exact hK.out _ _ rfl (by assumption) | exact hK.out _ _ (by assumption) (by assumption)
              · cases ho
                simp only [Act.put, List.setIfInBounds_toArray, List.set_cons_zero, List.set_cons_succ] at hK
                clear hs
                go_simp
                all_goals (try go_wp2_with (first | (go_at_call 81; refine (rDot_d _ (by with_reducible assumption) (by with_reducible assumption) (by with_reducible assumption) (by with_reducible assumption) (by decide)).mono ?_; rintro e w1 ⟨rfl, hb1⟩)))
                all_goals first | exact hK.out _ _ rfl (bl_refl _) | exact hK.out _ _ rfl (by assumption) | exact hK.out _ _ (by assumption) (by assumption)
              · cases ho
                simp only [Act.put, List.setIfInBounds_toArray, List.set_cons_zero, List.set_cons_succ] at hK
                clear hs
                go_simp
                all_goals (try go_wp2_with (first | (go_at_call 81; refine (rDot_d _ (by with_reducible assumption) (by with_reducible assumption) (by with_reducible assumption) (by with_reducible assumption) (by decide)).mono ?_; rintro e w1 ⟨rfl, hb1⟩)))
                all_goals first | exact hK.out _ _ rfl (bl_refl _) | exact hK.out _ _ rfl (by assumption) | exact hK.out _ _ (by assumption) (by assumption)
              · cases ho
                have e6 : s 6 = _ := hs 6 (by decide) (by kernel_rfl)
                have e7 : s 7 = _ := hs 7 (by decide) (by kernel_rfl)
                simp only [e6, e7] at hK ⊢
                simp only [Act.put, List.setIfInBounds_toArray, List.set_cons_zero, List.set_cons_succ] at hK
                clear hs
                go_simp
                all_goals (try go_wp2_with (first | (go_at_call 81; refine (rDot_d _ (by with_reducible assumption) (by with_reducible assumption) (by with_reducible assumption) (by with_reducible assumption) (by decide)).mono ?_; rintro e w1 ⟨rfl, hb1⟩)))
                all_goals first | exact hK.out _ _ rfl (bl_refl _) | exact hK.out _ _ rfl (by assumption) | exact hK.out _ _ (by assumption) (by assumption)
              · cases ho
                have e8 : s 8 = _ := hs 8 (by decide) (by kernel_rfl)
                simp only [e8] at hK ⊢
                simp only [Act.put, List.setIfInBounds_toArray, List.set_cons_zero, List.set_cons_succ] at hK
                clear hs
                go_simp
                all_goals (try go_wp2_with (first | (go_at_call 81; refine (rDot_d _ (by with_reducible assumption) (by with_reducible assumption) (by with_reducible assumption) (by with_reducible assumption) (by decide)).mono ?_; rintro e w1 ⟨rfl, hb1⟩)))
                all_goals first | exact hK.out _ _ rfl (bl_refl _) | exact hK.out _ _ rfl (by assumption) | exact hK.out _ _ (by assumption) (by assumption)
              · cases ho
                simp only [Act.put, List.setIfInBounds_toArray, List.set_cons_zero, List.set_cons_succ] at hK
                clear hs
                go_simp
                all_goals (try go_wp2_with (first | (go_at_call 81; refine (rDot_d _ (by with_reducible assumption) (by with_reducible assumption) (by with_reducible assumption) (by with_reducible assumption) (by decide)).mono ?_; rintro e w1 ⟨rfl, hb1⟩)))
                all_goals first | exact hK.out _ _ rfl (bl_refl _) | exact hK.out _ _ rfl (by assumption) | exact hK.out _ _ (by assumption) (by assumption)
              · cases ho
                have e9 : s 9 = _ := hs 9 (by decide) (by kernel_rfl)
                have e10 : s 10 = _ := hs 10 (by decide) (by kernel_rfl)
                simp only [e9, e10] at hK ⊢
                simp only [Act.put, List.setIfInBounds_toArray, List.set_cons_zero, List.set_cons_succ] at hK
                clear hs
                go_simp
                all_goals (try go_wp2_with (first | (go_at_call 81; refine (rDot_d _ (by with_reducible assumption) (by with_reducible assumption) (by with_reducible assumption) (by with_reducible assumption) (by decide)).mono ?_; rintro e w1 ⟨rfl, hb1⟩)))
                all_goals first | exact hK.out _ _ rfl (bl_refl _) | exact hK.out _ _ rfl (by assumption) | exact hK.out _ _ (by assumption) (by assumption)
              · cases ho
                have e5 : s 5 = _ := hs 5 (by decide) (by kernel_rfl)
                have e11 : s 11 = _ := hs 11 (by decide) (by kernel_rfl)
                simp only [e5, e11] at hK ⊢
                simp only [Act.put, List.setIfInBounds_toArray, List.set_cons_zero, List.set_cons_succ] at hK
                clear hs
                go_simp
                all_goals (try go_wp2_with (first | (go_at_call 81; refine (rDot_d _ (by with_reducible assumption) (by with_reducible assumption) (by with_reducible assumption) (by with_reducible assumption) (by decide)).mono ?_; rintro e w1 ⟨rfl, hb1⟩)))
                all_goals first | exact hK.out _ _ rfl (bl_refl _) | exact hK.out _ _ rfl (by assumption) | exact hK.out _ _ (by assumption) (by assumption)
            case ht_wh =>
              intro s hs W hb hJ
              have e0 : s 0 = _ := hs 0 (by decide)
              have e1 : s 1 = _ := hs 1 (by decide)
              have e2 : s 2 = _ := hs 2 (by decide)
              have e3 : s 3 = _ := hs 3 (by decide)
              have e4 : s 4 = _ := hs 4 (by decide)
              have e5 : s 5 = _ := hs 5 (by decide)
              have e6 : s 6 = _ := hs 6 (by decide)
              have e7 : s 7 = _ := hs 7 (by decide)
              have e8 : s 8 = _ := hs 8 (by decide)
              have e9 : s 9 = _ := hs 9 (by decide)
              have e10 : s 10 = _ := hs 10 (by decide)
              have e11 : s 11 = _ := hs 11 (by decide)
              have e12 : s 12 = _ := hs 12 (by decide)
              simp only [e0, e1, e2, e3, e4, e5, e6, e7, e8, e9, e10, e11, e12]
              clear hs
              refine tail_end ?_
              go_wp2
              exact ⟨⟨kx + 1, kx, by omega, by omega, by go_num, far_up hf hw, hlt, rfl, bl_trans hB hb, keep hb d0, keep hb d1⟩, by simp [intOf]; omega⟩
        · have hkn : kx = n := by omega
          subst hkn
          go_wp2
          refine bodyPost_ret (v := .tuple #[.int .i64 fb, .int .i64 0]) (by simp [results, Try.results50, go_sem] <;> (first | exact ⟨⟨rfl, rfl⟩, rfl⟩ | exact ⟨rfl, rfl, rfl, rfl⟩ | exact ⟨rfl, rfl, rfl⟩ | exact ⟨rfl, rfl⟩ | rfl)) rfl ⟨by rw [ew]; unfold farV; rw [ew, if_pos rfl, hf], hB⟩
  · obtain ⟨v, hv⟩ : ∃ v, chkE xs ys n = v := ⟨_, rfl⟩
    have ew : withE xs ys n p q = v := by unfold withE; rw [if_neg hch, hv]
    rw [hv] at CHK hch
    go_enter Try.func50, Try.ntmps50
    go_wp2_with (first | (go_at_call 74; refine CHK.mono ?_; rintro e w_1 ⟨rfl, hb⟩; have B1 := bl_trans B0 hb; replace z0 := keep hb z0; replace z1 := keep hb z1))
    all_goals
      refine bodyPost_ret (v := .tuple #[.int .i64 0, .int .i64 v]) (by simp [results, Try.results50, go_sem] <;> (first | exact ⟨⟨rfl, rfl⟩, rfl⟩ | exact ⟨rfl, rfl, rfl, rfl⟩ | exact ⟨rfl, rfl, rfl⟩ | exact ⟨rfl, rfl⟩ | rfl)) rfl ⟨by unfold farV; rw [ew]; simp [hch], B1⟩


end Go.Proofs.Ytiamgphpcjokmab
