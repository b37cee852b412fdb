/-
  What each function of package poly answers, and what the reference of its chapter answers: one contract a function, for every float: the answer stands in the relation of its formula to what was given; of the memory that was there nothing has turned.
-/
import Derived.Test.YtdkfefbllmjnjaaVec
import Derived.Test.YtdkfefbllmjnjaaRb
import Derived.Below
import Derived.WalkKit
import Derived.WalkLawsBesides
import Derived.WalkSpells
import Derived.ProofKit
import Derived.OpenShut
import Derived.Deep.RegionHeld3
namespace Go.Proofs.Ytdkfefbllmjnjaa
open Go.ChangeShapes Go.WideShapes Go.ChangeAt Go.RowKit
set_option linter.unusedVariables false
set_option linter.unusedSimpArgs false


set_option maxHeartbeats 2000000 in
theorem rhas_d (b off n cap : Nat) (xs ys : Nat → Nat) (w : World) (sB : Sl w b off n xs ys) (o_ : Oks xs ys n) (hp : 0 < n) (hn : n ≤ maxLen) (hcap : n ≤ cap) (hr : n * 16 ≤ 140737488351232) (p q : Nat) (op : okK .f64 p) (oq : okK .f64 q) : Calls Try.prog 26 #[.slice (some ⟨b, off, none⟩) n cap, .agg #[.float .f64 p, .float .f64 q]] w fun e w' => e = .returned (.tuple #[.bool (hasV xs ys n p q), .int .i64 (withE xs ys n p q)]) ∧ Bel w w' := by
  have anyV : AnyS w (.slice (some ⟨b, off, none⟩) n cap) n xs ys := ⟨_, _, rfl, hcap, hn, hr, o_, .inr ⟨hp, _, _, rfl, sB⟩⟩
  have CHK := rchk_any _ n xs ys _ (anyV.bel (bl_alloc (bl_refl w) #[.float .f64 p, .float .f64 q] 24))
  have B0 := bl_alloc (bl_refl w) #[.float .f64 p, .float .f64 q] 24
  obtain ⟨z0, z1⟩ : (w.alloc (.cells #[.float .f64 p, .float .f64 q] 24)).cell? ⟨w.heap.size, 0, none⟩ = some (.float .f64 p) ∧ (w.alloc (.cells #[.float .f64 p, .float .f64 q] 24)).cell? ⟨w.heap.size, 1, none⟩ = some (.float .f64 q) := cell_own (by simp) _ _ _
  have om : okK .f64 4787326403894837248 := by rw [okK64]; decide
  by_cases hch : chkE xs ys n = 0
  · rw [hch] at CHK
    obtain ⟨g, h3, h64, _⟩ := chk_ok o_ hch
    cases hw : (withinK .f64 p 4787326403894837248 && withinK .f64 q 4787326403894837248)
    · have ew : withE xs ys n p q = 5 := by unfold withE; rw [if_pos hch, hw]; rfl
      go_enter Try.func26, Try.ntmps26
      go_wp2_with (first | (go_at_call 30; refine CHK.mono ?_; rintro e w_1 ⟨rfl, hb⟩; have B1 := bl_trans B0 hb; replace z0 := keep hb z0; replace z1 := keep hb z1) | (go_at_call 69; refine (rWithin_any _ _ _ op oq om _).mono ?_; rintro e w_2 ⟨rfl, hb⟩; rw [hw]; have B2 := bl_trans B1 hb; replace z0 := keep hb z0; replace z1 := keep hb z1))
      refine bodyPost_ret (v := .tuple #[.bool false, .int .i64 5]) (by simp [results, Try.results26, go_sem] <;> (first | exact ⟨⟨rfl, rfl⟩, rfl⟩ | exact ⟨rfl, rfl, rfl, rfl⟩ | exact ⟨rfl, rfl, rfl⟩ | exact ⟨rfl, rfl⟩ | rfl)) rfl ⟨by unfold hasV; rw [ew]; rfl, B2⟩
    · have ew : withE xs ys n p q = 0 := by unfold withE; rw [if_pos hch, hw]; rfl
      obtain ⟨_, b1, b2⟩ := with_ok o_ op oq ew
      have c1 := cmp_lt .f64
      have c2 := cmp_gt .f64
      go_enter Try.func26, Try.ntmps26
      go_wp2_with (first | (go_at_call 30; refine CHK.mono ?_; rintro e w_1 ⟨rfl, hb⟩; have B1 := bl_trans B0 hb; replace z0 := keep hb z0; replace z1 := keep hb z1) | (go_at_call 69; refine (rWithin_any _ _ _ op oq om _).mono ?_; rintro e w_2 ⟨rfl, hb⟩; rw [hw]; have B2 := bl_trans B1 hb; replace z0 := keep hb z0; replace z1 := keep hb z1))
      go_loopw [7] (fun i' wr => ∃ kx : Nat, kx ≤ n ∧ i' = .int .i64 kx ∧ Bel w wr ∧ wr.cell? ⟨w.heap.size, 0, none⟩ = some (.float .f64 p) ∧ wr.cell? ⟨w.heap.size, 1, none⟩ = some (.float .f64 q) ∧ ∀ i, i < kx → ltK .f64 (lnS xs ys n i p q) 0 = false) (fun i' _ => n - (intOf i').toNat)
      case atStart => exact ⟨0, by omega, rfl, B2, z0, z1, fun i h => by omega⟩
      case round =>
        obtain ⟨kx, hk, rfl, hB, d0, d1, hq⟩ := hrel
        by_cases hlt : kx < n
        · have k1 : (kx : Int) < (n : Int) := by omega
          cases hw2 : ltK .f64 (lnS xs ys n kx p q) 0
          all_goals
            go_wp2_with (first | (go_at_call 70; refine (left_d b off n cap xs ys _ (sB.bel hB) g kx hlt hn hcap p q b1 b2).mono ?_; rintro e w_3 ⟨rfl, hb⟩; have B3 := bl_trans hB hb))
          · refine ⟨⟨kx + 1, by omega, by go_num, B3, keep hb d0, keep hb d1, fun i h => ?_⟩, by simp [intOf]; omega⟩
            rcases Nat.lt_or_ge i kx with h' | h'
            · exact hq i h'
            · rw [show i = kx by omega]; exact hw2
          · refine bodyPost_ret (v := .tuple #[.bool false, .int .i64 0]) (by simp [results, Try.results26, go_sem] <;> (first | exact ⟨⟨rfl, rfl⟩, rfl⟩ | exact ⟨rfl, rfl, rfl, rfl⟩ | exact ⟨rfl, rfl, rfl⟩ | exact ⟨rfl, rfl⟩ | rfl)) rfl ⟨by rw [ew]; unfold hasV; rw [ew, has_no (xs := xs) (ys := ys) (p := p) (q := q) hlt hw2]; rfl, B3⟩
        · have hkn : kx = n := by omega
          subst hkn
          go_wp2
          refine bodyPost_ret (v := .tuple #[.bool true, .int .i64 0]) (by simp [results, Try.results26, go_sem] <;> (first | exact ⟨⟨rfl, rfl⟩, rfl⟩ | exact ⟨rfl, rfl, rfl, rfl⟩ | exact ⟨rfl, rfl, rfl⟩ | exact ⟨rfl, rfl⟩ | rfl)) rfl ⟨by rw [ew]; unfold hasV hasB; rw [ew, allB_iff.2 (fun i hi => by rw [hq i hi]; rfl)]; rfl, hB⟩
  · obtain ⟨v, hv⟩ : ∃ v, chkE xs ys n = v := ⟨_, rfl⟩
    have ew : withE xs ys n p q = v := by unfold withE; rw [if_neg hch, hv]
    rw [hv] at CHK hch
    go_enter Try.func26, Try.ntmps26
    go_wp2_with (first | (go_at_call 30; refine CHK.mono ?_; rintro e w_1 ⟨rfl, hb⟩; have B1 := bl_trans B0 hb; replace z0 := keep hb z0; replace z1 := keep hb z1))
    all_goals
      refine bodyPost_ret (v := .tuple #[.bool false, .int .i64 v]) (by simp [results, Try.results26, go_sem] <;> (first | exact ⟨⟨rfl, rfl⟩, rfl⟩ | exact ⟨rfl, rfl, rfl, rfl⟩ | exact ⟨rfl, rfl, rfl⟩ | exact ⟨rfl, rfl⟩ | rfl)) rfl ⟨by unfold hasV; rw [ew]; simp [hch], B1⟩

set_option maxHeartbeats 2000000 in
theorem rfar_d (b off n cap : Nat) (xs ys : Nat → Nat) (w : World) (sB : Sl w b off n xs ys) (o_ : Oks xs ys n) (hp : 0 < n) (hn : n ≤ maxLen) (hcap : n ≤ cap) (hr : n * 16 ≤ 140737488351232) (p q : Nat) (op : okK .f64 p) (oq : okK .f64 q) : Calls Try.prog 28 #[.slice (some ⟨b, off, none⟩) n cap, .agg #[.float .f64 p, .float .f64 q]] w fun e w' => e = .returned (.tuple #[.int .i64 (farV xs ys n p q), .int .i64 (withE xs ys n p q)]) ∧ Bel w w' := by
  have anyV : AnyS w (.slice (some ⟨b, off, none⟩) n cap) n xs ys := ⟨_, _, rfl, hcap, hn, hr, o_, .inr ⟨hp, _, _, rfl, sB⟩⟩
  have CHK := rchk_any _ n xs ys _ (anyV.bel (bl_alloc (bl_refl w) #[.float .f64 p, .float .f64 q] 24))
  have B0 := bl_alloc (bl_refl w) #[.float .f64 p, .float .f64 q] 24
  obtain ⟨z0, z1⟩ : (w.alloc (.cells #[.float .f64 p, .float .f64 q] 24)).cell? ⟨w.heap.size, 0, none⟩ = some (.float .f64 p) ∧ (w.alloc (.cells #[.float .f64 p, .float .f64 q] 24)).cell? ⟨w.heap.size, 1, none⟩ = some (.float .f64 q) := cell_own (by simp) _ _ _
  have om : okK .f64 4787326403894837248 := by rw [okK64]; decide
  by_cases hch : chkE xs ys n = 0
  · rw [hch] at CHK
    obtain ⟨g, h3, h64, _⟩ := chk_ok o_ hch
    cases hw : (withinK .f64 p 4787326403894837248 && withinK .f64 q 4787326403894837248)
    · have ew : withE xs ys n p q = 5 := by unfold withE; rw [if_pos hch, hw]; rfl
      go_enter Try.func28, Try.ntmps28
      go_wp2_with (first | (go_at_call 30; refine CHK.mono ?_; rintro e w_1 ⟨rfl, hb⟩; have B1 := bl_trans B0 hb; replace z0 := keep hb z0; replace z1 := keep hb z1) | (go_at_call 69; refine (rWithin_any _ _ _ op oq om _).mono ?_; rintro e w_2 ⟨rfl, hb⟩; rw [hw]; have B2 := bl_trans B1 hb; replace z0 := keep hb z0; replace z1 := keep hb z1))
      refine bodyPost_ret (v := .tuple #[.int .i64 0, .int .i64 5]) (by simp [results, Try.results28, go_sem] <;> (first | exact ⟨⟨rfl, rfl⟩, rfl⟩ | exact ⟨rfl, rfl, rfl, rfl⟩ | exact ⟨rfl, rfl, rfl⟩ | exact ⟨rfl, rfl⟩ | rfl)) rfl ⟨by unfold farV; rw [ew]; rfl, B2⟩
    · have ew : withE xs ys n p q = 0 := by unfold withE; rw [if_pos hch, hw]; rfl
      obtain ⟨_, b1, b2⟩ := with_ok o_ op oq ew
      have c1 := cmp_lt .f64
      have c2 := cmp_gt .f64
      go_enter Try.func28, Try.ntmps28
      go_wp2_with (first | (go_at_call 30; refine CHK.mono ?_; rintro e w_1 ⟨rfl, hb⟩; have B1 := bl_trans B0 hb; replace z0 := keep hb z0; replace z1 := keep hb z1) | (go_at_call 69; refine (rWithin_any _ _ _ op oq om _).mono ?_; rintro e w_2 ⟨rfl, hb⟩; rw [hw]; have B2 := bl_trans B1 hb; replace z0 := keep hb z0; replace z1 := keep hb z1))
      go_loopw [8, 7] (fun i' b' wr => ∃ kx fb : Nat, 1 ≤ kx ∧ kx ≤ n ∧ i' = .int .i64 kx ∧ farK xs ys p q (kx - 1) = fb ∧ fb < n ∧ b' = .int .i64 fb ∧ Bel w wr ∧ wr.cell? ⟨w.heap.size, 0, none⟩ = some (.float .f64 p) ∧ wr.cell? ⟨w.heap.size, 1, none⟩ = some (.float .f64 q)) (fun i' _ _ => n - (intOf i').toNat)
      case atStart => exact ⟨1, 0, by omega, by omega, rfl, rfl, by omega, rfl, B2, z0, z1⟩
      case round =>
        obtain ⟨kx, fb, hk1, hk, rfl, hf, hfn, rfl, hB, d0, d1⟩ := hrel
        by_cases hlt : kx < n
        · have k1 : (kx : Int) < (n : Int) := by omega
          have k2 : (fb : Int) < (n : Int) := by omega
          obtain ⟨g1, g2⟩ := g kx hlt
          obtain ⟨g3, g4⟩ := g fb hfn
          cases hw : ltK .f64 (dtK (xs fb) (ys fb) p q) (dtK (xs kx) (ys kx) p q)
          · go_wp2
            refine wp_region_multiA 13 (fun i v => match i with | 0 => v = .slice (some ⟨b, off, none⟩) n cap | 1 => v = .int .i64 (kx : Int) | 2 => v = .pointer (some ⟨b, off + kx * 2, none⟩) | 3 => v = .agg #[.float .f64 (xs kx), .float .f64 (ys kx)] | 4 => v = .agg #[.float .f64 p, .float .f64 q] | 5 => v = .float .f64 (dtK (xs kx) (ys kx) p q) | 6 => v = .slice (some ⟨b, off, none⟩) n cap | 7 => v = .int .i64 (fb : Int) | 8 => v = .pointer (some ⟨b, off + fb * 2, none⟩) | 9 => v = .agg #[.float .f64 (xs fb), .float .f64 (ys fb)] | 10 => v = .agg #[.float .f64 p, .float .f64 q] | 11 => v = .float .f64 (dtK (xs fb) (ys fb) p q) | 12 => v = .bool false | _ => False) (fun i => match i with  | _ => none) ?A_wh (by kernel_rfl) (by kernel_rfl) ?hA_wh ?ha_wh ?hq_wh [] rfl ?ht_wh
            case hA_wh =>
              intro s
              simp only [putL, dstO, Act.put, List.getElem?_toArray, List.getElem?_cons_zero, List.getElem?_cons_succ, Option.bind_some, List.setIfInBounds_toArray, List.set_cons_zero, List.set_cons_succ, if_true]
              all_goals exact rfl
            case ha_wh =>
              intro i o ob hi ho hal
              rcases (show i = 0 ∨ i = 1 ∨ i = 2 ∨ i = 3 ∨ i = 4 ∨ i = 5 ∨ i = 6 ∨ i = 7 ∨ i = 8 ∨ i = 9 ∨ i = 10 ∨ i = 11 ∨ i = 12 by omega) with rfl | rfl | rfl | rfl | rfl | rfl | rfl | rfl | rfl | rfl | rfl | rfl | rfl
              · cases hal
              · cases hal
              · cases hal
              · cases hal
              · cases hal
              · cases hal
              · cases hal
              · cases hal
              · cases hal
              · cases hal
              · cases hal
              · cases hal
              · cases hal
            case hq_wh =>
              intro i o hi ho hal s hs W hb K hK
              have y0 := keep hb d0; have y1 := keep hb d1; obtain ⟨y2, y3⟩ := (sB.bel (bl_trans hB hb)) kx hlt; obtain ⟨y4, y5⟩ := (sB.bel (bl_trans hB hb)) fb hfn
              rcases (show i = 0 ∨ i = 1 ∨ i = 2 ∨ i = 3 ∨ i = 4 ∨ i = 5 ∨ i = 6 ∨ i = 7 ∨ i = 8 ∨ i = 9 ∨ i = 10 ∨ i = 11 ∨ i = 12 by omega) with rfl | rfl | rfl | rfl | rfl | rfl | rfl | rfl | rfl | rfl | rfl | rfl | rfl
              · cases ho
                simp only [Act.put, List.setIfInBounds_toArray, List.set_cons_zero, List.set_cons_succ] at hK
                clear hs
                go_simp
                all_goals (try go_wp2_with (first | (go_at_call 71; refine (rDot_d _ (by with_reducible assumption) (by with_reducible assumption) (by with_reducible assumption) (by with_reducible assumption) (by decide)).mono ?_; rintro e w1 ⟨rfl, hb1⟩)))
                all_goals first | exact hK.out _ _ rfl (bl_refl _) | exact hK.out _ _ rfl (by assumption) | exact hK.out _ _ (by assumption) (by assumption)
              · cases ho
                simp only [Act.put, List.setIfInBounds_toArray, List.set_cons_zero, List.set_cons_succ] at hK
                clear hs
                go_simp
                all_goals (try go_wp2_with (first | (go_at_call 71; refine (rDot_d _ (by with_reducible assumption) (by with_reducible assumption) (by with_reducible assumption) (by with_reducible assumption) (by decide)).mono ?_; rintro e w1 ⟨rfl, hb1⟩)))
                all_goals first | exact hK.out _ _ rfl (bl_refl _) | exact hK.out _ _ rfl (by assumption) | exact hK.out _ _ (by assumption) (by assumption)
              · cases ho
                have e0 : s 0 = _ := hs 0 (by decide) (by kernel_rfl)
                have e1 : s 1 = _ := hs 1 (by decide) (by kernel_rfl)
                simp only [e0, e1] at hK ⊢
                simp only [Act.put, List.setIfInBounds_toArray, List.set_cons_zero, List.set_cons_succ] at hK
                clear hs
                go_simp
                all_goals (try go_wp2_with (first | (go_at_call 71; refine (rDot_d _ (by with_reducible assumption) (by with_reducible assumption) (by with_reducible assumption) (by with_reducible assumption) (by decide)).mono ?_; rintro e w1 ⟨rfl, hb1⟩)))
                all_goals first | exact hK.out _ _ rfl (bl_refl _) | exact hK.out _ _ rfl (by assumption) | exact hK.out _ _ (by assumption) (by assumption)
              · cases ho
                have e2 : s 2 = _ := hs 2 (by decide) (by kernel_rfl)
                simp only [e2] at hK ⊢
                simp only [Act.put, List.setIfInBounds_toArray, List.set_cons_zero, List.set_cons_succ] at hK
                clear hs
                go_simp
                all_goals (try go_wp2_with (first | (go_at_call 71; refine (rDot_d _ (by with_reducible assumption) (by with_reducible assumption) (by with_reducible assumption) (by with_reducible assumption) (by decide)).mono ?_; rintro e w1 ⟨rfl, hb1⟩)))
                all_goals first | exact hK.out _ _ rfl (bl_refl _) | exact hK.out _ _ rfl (by assumption) | exact hK.out _ _ (by assumption) (by assumption)
              · cases ho
                simp only [Act.put, List.setIfInBounds_toArray, List.set_cons_zero, List.set_cons_succ] at hK
                clear hs
                go_simp
                all_goals (try go_wp2_with (first | (go_at_call 71; refine (rDot_d _ (by with_reducible assumption) (by with_reducible assumption) (by with_reducible assumption) (by with_reducible assumption) (by decide)).mono ?_; rintro e w1 ⟨rfl, hb1⟩)))
                all_goals first | exact hK.out _ _ rfl (bl_refl _) | exact hK.out _ _ rfl (by assumption) | exact hK.out _ _ (by assumption) (by assumption)
              · cases ho
                have e3 : s 3 = _ := hs 3 (by decide) (by kernel_rfl)
                have e4 : s 4 = _ := hs 4 (by decide) (by kernel_rfl)
                simp only [e3, e4] at hK ⊢
                simp only [Act.put, List.setIfInBounds_toArray, List.set_cons_zero, List.set_cons_succ] at hK
                clear hs
                go_simp
                all_goals (try go_wp2_with (first | (go_at_call 71; refine (rDot_d _ (by with_reducible assumption) (by with_reducible assumption) (by with_reducible assumption) (by with_reducible assumption) (by decide)).mono ?_; rintro e w1 ⟨rfl, hb1⟩)))
                all_goals first | exact hK.out _ _ rfl (bl_refl _) | exact hK.out _ _ rfl (by assumption) | exact hK.out _ _ (by assumption) (by assumption)
              · cases ho
                simp only [Act.put, List.setIfInBounds_toArray, List.set_cons_zero, List.set_cons_succ] at hK
                clear hs
                go_simp
                all_goals (try go_wp2_with (first | (go_at_call 71; refine (rDot_d _ (by with_reducible assumption) (by with_reducible assumption) (by with_reducible assumption) (by with_reducible assumption) (by decide)).mono ?_; rintro e w1 ⟨rfl, hb1⟩)))
                all_goals first | exact hK.out _ _ rfl (bl_refl _) | exact hK.out _ _ rfl (by assumption) | exact hK.out _ _ (by assumption) (by assumption)
              · cases ho
                simp only [Act.put, List.setIfInBounds_toArray, List.set_cons_zero, List.set_cons_succ] at hK
                clear hs
                go_simp
                all_goals (try go_wp2_with (first | (go_at_call 71; refine (rDot_d _ (by with_reducible assumption) (by with_reducible assumption) (by with_reducible assumption) (by with_reducible assumption) (by decide)).mono ?_; rintro e w1 ⟨rfl, hb1⟩)))
                all_goals first | exact hK.out _ _ rfl (bl_refl _) | exact hK.out _ _ rfl (by assumption) | exact hK.out _ _ (by assumption) (by assumption)
              · cases ho
                have e6 : s 6 = _ := hs 6 (by decide) (by kernel_rfl)
                have e7 : s 7 = _ := hs 7 (by decide) (by kernel_rfl)
                simp only [e6, e7] at hK ⊢
                simp only [Act.put, List.setIfInBounds_toArray, List.set_cons_zero, List.set_cons_succ] at hK
                clear hs
                go_simp
                all_goals (try go_wp2_with (first | (go_at_call 71; refine (rDot_d _ (by with_reducible assumption) (by with_reducible assumption) (by with_reducible assumption) (by with_reducible assumption) (by decide)).mono ?_; rintro e w1 ⟨rfl, hb1⟩)))
                all_goals first | exact hK.out _ _ rfl (bl_refl _) | exact hK.out _ _ rfl (by assumption) | exact hK.out _ _ (by assumption) (by assumption)
              · cases ho
                have e8 : s 8 = _ := hs 8 (by decide) (by kernel_rfl)
                simp only [e8] at hK ⊢
                simp only [Act.put, List.setIfInBounds_toArray, List.set_cons_zero, List.set_cons_succ] at hK
                clear hs
                go_simp
                all_goals (try go_wp2_with (first | (go_at_call 71; refine (rDot_d _ (by with_reducible assumption) (by with_reducible assumption) (by with_reducible assumption) (by with_reducible assumption) (by decide)).mono ?_; rintro e w1 ⟨rfl, hb1⟩)))
                all_goals first | exact hK.out _ _ rfl (bl_refl _) | exact hK.out _ _ rfl (by assumption) | exact hK.out _ _ (by assumption) (by assumption)
              · cases ho
                simp only [Act.put, List.setIfInBounds_toArray, List.set_cons_zero, List.set_cons_succ] at hK
                clear hs
                go_simp
                all_goals (try go_wp2_with (first | (go_at_call 71; refine (rDot_d _ (by with_reducible assumption) (by with_reducible assumption) (by with_reducible assumption) (by with_reducible assumption) (by decide)).mono ?_; rintro e w1 ⟨rfl, hb1⟩)))
                all_goals first | exact hK.out _ _ rfl (bl_refl _) | exact hK.out _ _ rfl (by assumption) | exact hK.out _ _ (by assumption) (by assumption)
              · cases ho
                have e9 : s 9 = _ := hs 9 (by decide) (by kernel_rfl)
                have e10 : s 10 = _ := hs 10 (by decide) (by kernel_rfl)
                simp only [e9, e10] at hK ⊢
                simp only [Act.put, List.setIfInBounds_toArray, List.set_cons_zero, List.set_cons_succ] at hK
                clear hs
                go_simp
                all_goals (try go_wp2_with (first | (go_at_call 71; refine (rDot_d _ (by with_reducible assumption) (by with_reducible assumption) (by with_reducible assumption) (by with_reducible assumption) (by decide)).mono ?_; rintro e w1 ⟨rfl, hb1⟩)))
                all_goals first | exact hK.out _ _ rfl (bl_refl _) | exact hK.out _ _ rfl (by assumption) | exact hK.out _ _ (by assumption) (by assumption)
              · cases ho
                have e5 : s 5 = _ := hs 5 (by decide) (by kernel_rfl)
                have e11 : s 11 = _ := hs 11 (by decide) (by kernel_rfl)
                simp only [e5, e11] at hK ⊢
                simp only [Act.put, List.setIfInBounds_toArray, List.set_cons_zero, List.set_cons_succ] at hK
                clear hs
                go_simp
                all_goals (try go_wp2_with (first | (go_at_call 71; refine (rDot_d _ (by with_reducible assumption) (by with_reducible assumption) (by with_reducible assumption) (by with_reducible assumption) (by decide)).mono ?_; rintro e w1 ⟨rfl, hb1⟩)))
                all_goals first | exact hK.out _ _ rfl (bl_refl _) | exact hK.out _ _ rfl (by assumption) | exact hK.out _ _ (by assumption) (by assumption)
            case ht_wh =>
              intro s hs W hb hJ
              have e0 : s 0 = _ := hs 0 (by decide)
              have e1 : s 1 = _ := hs 1 (by decide)
              have e2 : s 2 = _ := hs 2 (by decide)
              have e3 : s 3 = _ := hs 3 (by decide)
              have e4 : s 4 = _ := hs 4 (by decide)
              have e5 : s 5 = _ := hs 5 (by decide)
              have e6 : s 6 = _ := hs 6 (by decide)
              have e7 : s 7 = _ := hs 7 (by decide)
              have e8 : s 8 = _ := hs 8 (by decide)
              have e9 : s 9 = _ := hs 9 (by decide)
              have e10 : s 10 = _ := hs 10 (by decide)
              have e11 : s 11 = _ := hs 11 (by decide)
              have e12 : s 12 = _ := hs 12 (by decide)
              simp only [e0, e1, e2, e3, e4, e5, e6, e7, e8, e9, e10, e11, e12]
              clear hs
              refine tail_end ?_
              go_wp2
              exact ⟨⟨kx + 1, fb, by omega, by omega, by go_num, far_go hf hw, hfn, rfl, bl_trans hB hb, keep hb d0, keep hb d1⟩, by simp [intOf]; omega⟩
          · go_wp2
            refine wp_region_multiA 13 (fun i v => match i with | 0 => v = .slice (some ⟨b, off, none⟩) n cap | 1 => v = .int .i64 (kx : Int) | 2 => v = .pointer (some ⟨b, off + kx * 2, none⟩) | 3 => v = .agg #[.float .f64 (xs kx), .float .f64 (ys kx)] | 4 => v = .agg #[.float .f64 p, .float .f64 q] | 5 => v = .float .f64 (dtK (xs kx) (ys kx) p q) | 6 => v = .slice (some ⟨b, off, none⟩) n cap | 7 => v = .int .i64 (fb : Int) | 8 => v = .pointer (some ⟨b, off + fb * 2, none⟩) | 9 => v = .agg #[.float .f64 (xs fb), .float .f64 (ys fb)] | 10 => v = .agg #[.float .f64 p, .float .f64 q] | 11 => v = .float .f64 (dtK (xs fb) (ys fb) p q) | 12 => v = .bool true | _ => False) (fun i => match i with  | _ => none) ?A_wh (by kernel_rfl) (by kernel_rfl) ?hA_wh ?ha_wh ?hq_wh [] rfl ?ht_wh
            case hA_wh =>
              intro s
              simp only [putL, dstO, Act.put, List.getElem?_toArray, List.getElem?_cons_zero, List.getElem?_cons_succ, Option.bind_some, List.setIfInBounds_toArray, List.set_cons_zero, List.set_cons_succ, if_true]
              all_goals exact rfl
            case ha_wh =>
              intro i o ob hi ho hal
              rcases (show i = 0 ∨ i = 1 ∨ i = 2 ∨ i = 3 ∨ i = 4 ∨ i = 5 ∨ i = 6 ∨ i = 7 ∨ i = 8 ∨ i = 9 ∨ i = 10 ∨ i = 11 ∨ i = 12 by omega) with rfl | rfl | rfl | rfl | rfl | rfl | rfl | rfl | rfl | rfl | rfl | rfl | rfl
              · cases hal
              · cases hal
              · cases hal
              · cases hal
              · cases hal
              · cases hal
              · cases hal
              · cases hal
              · cases hal
              · cases hal
              · cases hal
              · cases hal
              · cases hal
            case hq_wh =>
              intro i o hi ho hal s hs W hb K hK
              have y0 := keep hb d0; have y1 := keep hb d1; obtain ⟨y2, y3⟩ := (sB.bel (bl_trans hB hb)) kx hlt; obtain ⟨y4, y5⟩ := (sB.bel (bl_trans hB hb)) fb hfn
              rcases (show i = 0 ∨ i = 1 ∨ i = 2 ∨ i = 3 ∨ i = 4 ∨ i = 5 ∨ i = 6 ∨ i = 7 ∨ i = 8 ∨ i = 9 ∨ i = 10 ∨ i = 11 ∨ i = 12 by omega) with rfl | rfl | rfl | rfl | rfl | rfl | rfl | rfl | rfl | rfl | rfl | rfl | rfl
              · cases ho
                simp only [Act.put, List.setIfInBounds_toArray, List.set_cons_zero, List.set_cons_succ] at hK
                clear hs
                go_simp
                all_goals (try go_wp2_with (first | (go_at_call 71; refine (rDot_d _ (by with_reducible assumption) (by with_reducible assumption) (by with_reducible assumption) (by with_reducible assumption) (by decide)).mono ?_; rintro e w1 ⟨rfl, hb1⟩)))
                all_goals first | exact hK.out _ _ rfl (bl_refl _) | exact hK.out _ _ rfl (by assumption) | exact hK.out _ _ (by assumption) (by assumption)
              · cases ho
                simp only [Act.put, List.setIfInBounds_toArray, List.set_cons_zero, List.set_cons_succ] at hK
                clear hs
                go_simp
                all_goals (try go_wp2_with (first | (go_at_call 71; refine (rDot_d _ (by with_reducible assumption) (by with_reducible assumption) (by with_reducible assumption) (by with_reducible assumption) (by decide)).mono ?_; rintro e w1 ⟨rfl, hb1⟩)))
                all_goals first | exact hK.out _ _ rfl (bl_refl _) | exact hK.out _ _ rfl (by assumption) | exact hK.out _ _ (by assumption) (by assumption)
              · cases ho
                have e0 : s 0 = _ := hs 0 (by decide) (by kernel_rfl)
                have e1 : s 1 = _ := hs 1 (by decide) (by kernel_rfl)
                simp only [e0, e1] at hK ⊢
                simp only [Act.put, List.setIfInBounds_toArray, List.set_cons_zero, List.set_cons_succ] at hK
                clear hs
                go_simp
                all_goals (try go_wp2_with (first | (go_at_call 71; refine (rDot_d _ (by with_reducible assumption) (by with_reducible assumption) (by with_reducible assumption) (by with_reducible assumption) (by decide)).mono ?_; rintro e w1 ⟨rfl, hb1⟩)))
                all_goals first | exact hK.out _ _ rfl (bl_refl _) | exact hK.out _ _ rfl (by assumption) | exact hK.out _ _ (by assumption) (by assumption)
              · cases ho
                have e2 : s 2 = _ := hs 2 (by decide) (by kernel_rfl)
                simp only [e2] at hK ⊢
                simp only [Act.put, List.setIfInBounds_toArray, List.set_cons_zero, List.set_cons_succ] at hK
                clear hs
                go_simp
                all_goals (try go_wp2_with (first | (go_at_call 71; refine (rDot_d _ (by with_reducible assumption) (by with_reducible assumption) (by with_reducible assumption) (by with_reducible assumption) (by decide)).mono ?_; rintro e w1 ⟨rfl, hb1⟩)))
                all_goals first | exact hK.out _ _ rfl (bl_refl _) | exact hK.out _ _ rfl (by assumption) | exact hK.out _ _ (by assumption) (by assumption)
              · cases ho
                simp only [Act.put, List.setIfInBounds_toArray, List.set_cons_zero, List.set_cons_succ] at hK
                clear hs
                go_simp
                all_goals (try go_wp2_with (first | (go_at_call 71; refine (rDot_d _ (by with_reducible assumption) (by with_reducible assumption) (by with_reducible assumption) (by with_reducible assumption) (by decide)).mono ?_; rintro e w1 ⟨rfl, hb1⟩)))
                all_goals first | exact hK.out _ _ rfl (bl_refl _) | exact hK.out _ _ rfl (by assumption) | exact hK.out _ _ (by assumption) (by assumption)
              · cases ho
                have e3 : s 3 = _ := hs 3 (by decide) (by kernel_rfl)
                have e4 : s 4 = _ := hs 4 (by decide) (by kernel_rfl)
                simp only [e3, e4] at hK ⊢
                simp only [Act.put, List.setIfInBounds_toArray, List.set_cons_zero, List.set_cons_succ] at hK
                clear hs
                go_simp
                all_goals (try go_wp2_with (first | (go_at_call 71; refine (rDot_d _ (by with_reducible assumption) (by with_reducible assumption) (by with_reducible assumption) (by with_reducible assumption) (by decide)).mono ?_; rintro e w1 ⟨rfl, hb1⟩)))
                all_goals first | exact hK.out _ _ rfl (bl_refl _) | exact hK.out _ _ rfl (by assumption) | exact hK.out _ _ (by assumption) (by assumption)
              · cases ho
                simp only [Act.put, List.setIfInBounds_toArray, List.set_cons_zero, List.set_cons_succ] at hK
                clear hs
                go_simp
                all_goals (try go_wp2_with (first | (go_at_call 71; refine (rDot_d _ (by with_reducible assumption) (by with_reducible assumption) (by with_reducible assumption) (by with_reducible assumption) (by decide)).mono ?_; rintro e w1 ⟨rfl, hb1⟩)))
                all_goals first | exact hK.out _ _ rfl (bl_refl _) | exact hK.out _ _ rfl (by assumption) | exact hK.out _ _ (by assumption) (by assumption)
              · cases ho
                simp only [Act.put, List.setIfInBounds_toArray, List.set_cons_zero, List.set_cons_succ] at hK
                clear hs
                go_simp
                all_goals (try go_wp2_with (first | (go_at_call 71; refine (rDot_d _ (by with_reducible assumption) (by with_reducible assumption) (by with_reducible assumption) (by with_reducible assumption) (by decide)).mono ?_; rintro e w1 ⟨rfl, hb1⟩)))
                all_goals first | exact hK.out _ _ rfl (bl_refl _) | exact hK.out _ _ rfl (by assumption) | exact hK.out _ _ (by assumption) (by assumption)
              · cases ho
                have e6 : s 6 = _ := hs 6 (by decide) (by kernel_rfl)
                have e7 : s 7 = _ := hs 7 (by decide) (by kernel_rfl)
                simp only [e6, e7] at hK ⊢
                simp only [Act.put, List.setIfInBounds_toArray, List.set_cons_zero, List.set_cons_succ] at hK
                clear hs
                go_simp
                all_goals (try go_wp2_with (first | (go_at_call 71; refine (rDot_d _ (by with_reducible assumption) (by with_reducible assumption) (by with_reducible assumption) (by with_reducible assumption) (by decide)).mono ?_; rintro e w1 ⟨rfl, hb1⟩)))
                all_goals first | exact hK.out _ _ rfl (bl_refl _) | exact hK.out _ _ rfl (by assumption) | exact hK.out _ _ (by assumption) (by assumption)
              · cases ho
                have e8 : s 8 = _ := hs 8 (by decide) (by kernel_rfl)
                simp only [e8] at hK ⊢
                simp only [Act.put, List.setIfInBounds_toArray, List.set_cons_zero, List.set_cons_succ] at hK
                clear hs
                go_simp
                all_goals (try go_wp2_with (first | (go_at_call 71; refine (rDot_d _ (by with_reducible assumption) (by with_reducible assumption) (by with_reducible assumption) (by with_reducible assumption) (by decide)).mono ?_; rintro e w1 ⟨rfl, hb1⟩)))
                all_goals first | exact hK.out _ _ rfl (bl_refl _) | exact hK.out _ _ rfl (by assumption) | exact hK.out _ _ (by assumption) (by assumption)
              · cases ho
                simp only [Act.put, List.setIfInBounds_toArray, List.set_cons_zero, List.set_cons_succ] at hK
                clear hs
                go_simp
                all_goals (try go_wp2_with (first | (go_at_call 71; refine (rDot_d _ (by with_reducible assumption) (by with_reducible assumption) (by with_reducible assumption) (by with_reducible assumption) (by decide)).mono ?_; rintro e w1 ⟨rfl, hb1⟩)))
                all_goals first | exact hK.out _ _ rfl (bl_refl _) | exact hK.out _ _ rfl (by assumption) | exact hK.out _ _ (by assumption) (by assumption)
              · cases ho
                have e9 : s 9 = _ := hs 9 (by decide) (by kernel_rfl)
                have e10 : s 10 = _ := hs 10 (by decide) (by kernel_rfl)
                simp only [e9, e10] at hK ⊢
                simp only [Act.put, List.setIfInBounds_toArray, List.set_cons_zero, List.set_cons_succ] at hK
                clear hs
                go_simp
                all_goals (try go_wp2_with (first | (go_at_call 71; refine (rDot_d _ (by with_reducible assumption) (by with_reducible assumption) (by with_reducible assumption) (by with_reducible assumption) (by decide)).mono ?_; rintro e w1 ⟨rfl, hb1⟩)))
                all_goals first | exact hK.out _ _ rfl (bl_refl _) | exact hK.out _ _ rfl (by assumption) | exact hK.out _ _ (by assumption) (by assumption)
              · cases ho
                have e5 : s 5 = _ := hs 5 (by decide) (by kernel_rfl)
                have e11 : s 11 = _ := hs 11 (by decide) (by kernel_rfl)
                simp only [e5, e11] at hK ⊢
                simp only [Act.put, List.setIfInBounds_toArray, List.set_cons_zero, List.set_cons_succ] at hK
                clear hs
                go_simp
                all_goals (try go_wp2_with (first | (go_at_call 71; refine (rDot_d _ (by with_reducible assumption) (by with_reducible assumption) (by with_reducible assumption) (by with_reducible assumption) (by decide)).mono ?_; rintro e w1 ⟨rfl, hb1⟩)))
                all_goals first | exact hK.out _ _ rfl (bl_refl _) | exact hK.out _ _ rfl (by assumption) | exact hK.out _ _ (by assumption) (by assumption)
            case ht_wh =>
              intro s hs W hb hJ
              have e0 : s 0 = _ := hs 0 (by decide)
              have e1 : s 1 = _ := hs 1 (by decide)
              have e2 : s 2 = _ := hs 2 (by decide)
              have e3 : s 3 = _ := hs 3 (by decide)
              have e4 : s 4 = _ := hs 4 (by decide)
              have e5 : s 5 = _ := hs 5 (by decide)
              have e6 : s 6 = _ := hs 6 (by decide)
              have e7 : s 7 = _ := hs 7 (by decide)
              have e8 : s 8 = _ := hs 8 (by decide)
              have e9 : s 9 = _ := hs 9 (by decide)
              have e10 : s 10 = _ := hs 10 (by decide)
              have e11 : s 11 = _ := hs 11 (by decide)
              have e12 : s 12 = _ := hs 12 (by decide)
              simp only [e0, e1, e2, e3, e4, e5, e6, e7, e8, e9, e10, e11, e12]
              clear hs
              refine tail_end ?_
              go_wp2
              exact ⟨⟨kx + 1, kx, by omega, by omega, by go_num, far_up hf hw, hlt, rfl, bl_trans hB hb, keep hb d0, keep hb d1⟩, by simp [intOf]; omega⟩
        · have hkn : kx = n := by omega
          subst hkn
          go_wp2
          refine bodyPost_ret (v := .tuple #[.int .i64 fb, .int .i64 0]) (by simp [results, Try.results28, go_sem] <;> (first | exact ⟨⟨rfl, rfl⟩, rfl⟩ | exact ⟨rfl, rfl, rfl, rfl⟩ | exact ⟨rfl, rfl, rfl⟩ | exact ⟨rfl, rfl⟩ | rfl)) rfl ⟨by rw [ew]; unfold farV; rw [ew, if_pos rfl, hf], hB⟩
  · obtain ⟨v, hv⟩ : ∃ v, chkE xs ys n = v := ⟨_, rfl⟩
    have ew : withE xs ys n p q = v := by unfold withE; rw [if_neg hch, hv]
    rw [hv] at CHK hch
    go_enter Try.func28, Try.ntmps28
    go_wp2_with (first | (go_at_call 30; refine CHK.mono ?_; rintro e w_1 ⟨rfl, hb⟩; have B1 := bl_trans B0 hb; replace z0 := keep hb z0; replace z1 := keep hb z1))
    all_goals
      refine bodyPost_ret (v := .tuple #[.int .i64 0, .int .i64 v]) (by simp [results, Try.results28, go_sem] <;> (first | exact ⟨⟨rfl, rfl⟩, rfl⟩ | exact ⟨rfl, rfl, rfl, rfl⟩ | exact ⟨rfl, rfl, rfl⟩ | exact ⟨rfl, rfl⟩ | rfl)) rfl ⟨by unfold farV; rw [ew]; simp [hch], B1⟩

set_option maxHeartbeats 2000000 in
theorem rsum_d (b off n cap : Nat) (xs ys : Nat → Nat) (w : World) (sB : Sl w b off n xs ys) (g : Gd xs ys n) (h3 : 3 ≤ n) (h64 : n ≤ 64) (hcap : n ≤ cap) : Calls Try.prog 61 #[.slice (some ⟨b, off, none⟩) n cap] w fun e w' => e = .returned (.float .f64 (sA xs ys (n - 3))) ∧ Bel w w' := by
  have hp : 0 < n := by omega
  have n0 : (0 : Int) < (n : Int) := by omega
  have wn : IntKind.wrap .i64 ((n : Int) - 1) = (n : Int) - 1 := by rw [IntKind.wrap_i64]; omega
  obtain ⟨u0, u1⟩ := g 0 hp
  go_enter Try.func61, Try.ntmps61
  go_wp2
  go_loopw [4, 3] (fun i' s' wr => ∃ kx f : Nat, 1 ≤ kx ∧ kx + 1 ≤ n ∧ i' = .int .i64 kx ∧ (2 ≤ kx → sA xs ys (kx - 2) = f) ∧ s' = .float .f64 f ∧ Bel w wr) (fun i' _ _ => n - (intOf i').toNat)
  case atStart => exact ⟨1, 0, by omega, by omega, rfl, fun h => by omega, rfl, bl_refl _⟩
  case round =>
    obtain ⟨kx, f, hk1, hkn, rfl, hf, rfl, hB⟩ := hrel
    by_cases hlt : kx + 1 < n
    · have j1 : (kx : Int) < (n : Int) - 1 := by omega
      have j2 : (kx : Int) < (n : Int) := by omega
      have j3 : (0 : Int) ≤ (kx : Int) + 1 := by omega
      have j4 : (kx : Int) + 1 < (n : Int) := by omega
      have j5 : ((kx : Int) + 1).toNat = kx + 1 := by omega
      have wj : IntKind.wrap .i64 ((kx : Int) + 1) = (kx : Int) + 1 := by rw [IntKind.wrap_i64]; omega
      obtain ⟨v0, v1⟩ := g kx (by omega)
      obtain ⟨v2, v3⟩ := g (kx + 1) hlt
      have m1 : Bd 42 (Dv .sub (xs kx) (xs 0)) := bd_sub v0 u0 (by decide)
      have m2 : Bd 42 (Dv .sub (ys kx) (ys 0)) := bd_sub v1 u1 (by decide)
      have m3 : Bd 42 (Dv .sub (xs (kx + 1)) (xs 0)) := bd_sub v2 u0 (by decide)
      have m4 : Bd 42 (Dv .sub (ys (kx + 1)) (ys 0)) := bd_sub v3 u1 (by decide)
      by_cases h1 : kx = 1
      · have x1 : ((kx : Int) == 1) = true := by simp; omega
        have h1' := hide h1
        clear h1
        go_wp2
        refine wp_region_multiA 19 (fun i v => match i with | 0 => v = .slice (some ⟨b, off, none⟩) n cap | 1 => v = .pointer (some ⟨b, off, none⟩) | 2 => v = .agg #[.float .f64 (xs 0), .float .f64 (ys 0)] | 3 => v = .slice (some ⟨b, off, none⟩) n cap | 4 => v = .int .i64 (kx : Int) | 5 => v = .pointer (some ⟨b, off + kx * 2, none⟩) | 6 => v = .agg #[.float .f64 (xs kx), .float .f64 (ys kx)] | 7 => v = .agg #[.float .f64 (Dv .sub (xs kx) (xs 0)), .float .f64 (Dv .sub (ys kx) (ys 0))] | 8 => v = .slice (some ⟨b, off, none⟩) n cap | 9 => v = .pointer (some ⟨b, off, none⟩) | 10 => v = .agg #[.float .f64 (xs 0), .float .f64 (ys 0)] | 11 => v = .slice (some ⟨b, off, none⟩) n cap | 12 => v = .int .i64 (kx : Int) | 13 => v = .int .i64 ((kx : Int) + 1) | 14 => v = .pointer (some ⟨b, off + (kx + 1) * 2, none⟩) | 15 => v = .agg #[.float .f64 (xs (kx + 1)), .float .f64 (ys (kx + 1))] | 16 => v = .agg #[.float .f64 (Dv .sub (xs (kx + 1)) (xs 0)), .float .f64 (Dv .sub (ys (kx + 1)) (ys 0))] | 17 => v = .float .f64 (tA (xs 0) (ys 0) (xs kx) (ys kx) (xs (kx + 1)) (ys (kx + 1))) | 18 => v = .float .f64 (tA (xs 0) (ys 0) (xs kx) (ys kx) (xs (kx + 1)) (ys (kx + 1))) | _ => False) (fun i => match i with  | _ => none) ?A_wh (by kernel_rfl) (by kernel_rfl) ?hA_wh ?ha_wh ?hq_wh [] rfl ?ht_wh
        case hA_wh =>
          intro s
          simp only [putL, dstO, Act.put, List.getElem?_toArray, List.getElem?_cons_zero, List.getElem?_cons_succ, Option.bind_some, List.setIfInBounds_toArray, List.set_cons_zero, List.set_cons_succ, if_true]
          all_goals exact rfl
        case ha_wh =>
          intro i o ob hi ho hal
          rcases (show i = 0 ∨ i = 1 ∨ i = 2 ∨ i = 3 ∨ i = 4 ∨ i = 5 ∨ i = 6 ∨ i = 7 ∨ i = 8 ∨ i = 9 ∨ i = 10 ∨ i = 11 ∨ i = 12 ∨ i = 13 ∨ i = 14 ∨ i = 15 ∨ i = 16 ∨ i = 17 ∨ i = 18 by omega) with rfl | rfl | rfl | rfl | rfl | rfl | rfl | rfl | rfl | rfl | rfl | rfl | rfl | rfl | rfl | rfl | rfl | rfl | rfl
          · cases hal
          · cases hal
          · cases hal
          · cases hal
          · cases hal
          · cases hal
          · cases hal
          · cases hal
          · cases hal
          · cases hal
          · cases hal
          · cases hal
          · cases hal
          · cases hal
          · cases hal
          · cases hal
          · cases hal
          · cases hal
          · cases hal
        case hq_wh =>
          intro i o hi ho hal s hs W hb K hK
          obtain ⟨y0, y1⟩ := (sB.bel (bl_trans hB hb)) 0 hp; simp only [Nat.zero_mul, Nat.add_zero] at y0 y1; obtain ⟨y2, y3⟩ := (sB.bel (bl_trans hB hb)) kx (by omega); obtain ⟨y4, y5⟩ := (sB.bel (bl_trans hB hb)) (kx + 1) hlt
          rcases (show i = 0 ∨ i = 1 ∨ i = 2 ∨ i = 3 ∨ i = 4 ∨ i = 5 ∨ i = 6 ∨ i = 7 ∨ i = 8 ∨ i = 9 ∨ i = 10 ∨ i = 11 ∨ i = 12 ∨ i = 13 ∨ i = 14 ∨ i = 15 ∨ i = 16 ∨ i = 17 ∨ i = 18 by omega) with rfl | rfl | rfl | rfl | rfl | rfl | rfl | rfl | rfl | rfl | rfl | rfl | rfl | rfl | rfl | rfl | rfl | rfl | rfl
          · cases ho
            simp only [Act.put, List.setIfInBounds_toArray, List.set_cons_zero, List.set_cons_succ] at hK
            clear hs
            go_simp
            all_goals (try go_wp2_with (first | (go_at_call 62; refine (lead_d _ _ _ _ _ (by with_reducible assumption) (by with_reducible assumption) (by with_reducible assumption) (by with_reducible assumption)).mono ?_; rintro e w1 ⟨rfl, hb1⟩) | (go_at_call 63; refine (rCross_d _ (by with_reducible assumption) (by with_reducible assumption) (by with_reducible assumption) (by with_reducible assumption) (by decide)).mono ?_; rintro e w1 ⟨rfl, hb1⟩)))
            all_goals first | exact hK.out _ _ rfl (bl_refl _) | exact hK.out _ _ rfl (by assumption) | exact hK.out _ _ (by assumption) (by assumption)
          · cases ho
            have e0 : s 0 = _ := hs 0 (by decide) (by kernel_rfl)
            simp only [e0] at hK ⊢
            simp only [Act.put, List.setIfInBounds_toArray, List.set_cons_zero, List.set_cons_succ] at hK
            clear hs
            go_simp
            all_goals (try go_wp2_with (first | (go_at_call 62; refine (lead_d _ _ _ _ _ (by with_reducible assumption) (by with_reducible assumption) (by with_reducible assumption) (by with_reducible assumption)).mono ?_; rintro e w1 ⟨rfl, hb1⟩) | (go_at_call 63; refine (rCross_d _ (by with_reducible assumption) (by with_reducible assumption) (by with_reducible assumption) (by with_reducible assumption) (by decide)).mono ?_; rintro e w1 ⟨rfl, hb1⟩)))
            all_goals first | exact hK.out _ _ rfl (bl_refl _) | exact hK.out _ _ rfl (by assumption) | exact hK.out _ _ (by assumption) (by assumption)
          · cases ho
            have e1 : s 1 = _ := hs 1 (by decide) (by kernel_rfl)
            simp only [e1] at hK ⊢
            simp only [Act.put, List.setIfInBounds_toArray, List.set_cons_zero, List.set_cons_succ] at hK
            clear hs
            go_simp
            all_goals (try go_wp2_with (first | (go_at_call 62; refine (lead_d _ _ _ _ _ (by with_reducible assumption) (by with_reducible assumption) (by with_reducible assumption) (by with_reducible assumption)).mono ?_; rintro e w1 ⟨rfl, hb1⟩) | (go_at_call 63; refine (rCross_d _ (by with_reducible assumption) (by with_reducible assumption) (by with_reducible assumption) (by with_reducible assumption) (by decide)).mono ?_; rintro e w1 ⟨rfl, hb1⟩)))
            all_goals first | exact hK.out _ _ rfl (bl_refl _) | exact hK.out _ _ rfl (by assumption) | exact hK.out _ _ (by assumption) (by assumption)
          · cases ho
            simp only [Act.put, List.setIfInBounds_toArray, List.set_cons_zero, List.set_cons_succ] at hK
            clear hs
            go_simp
            all_goals (try go_wp2_with (first | (go_at_call 62; refine (lead_d _ _ _ _ _ (by with_reducible assumption) (by with_reducible assumption) (by with_reducible assumption) (by with_reducible assumption)).mono ?_; rintro e w1 ⟨rfl, hb1⟩) | (go_at_call 63; refine (rCross_d _ (by with_reducible assumption) (by with_reducible assumption) (by with_reducible assumption) (by with_reducible assumption) (by decide)).mono ?_; rintro e w1 ⟨rfl, hb1⟩)))
            all_goals first | exact hK.out _ _ rfl (bl_refl _) | exact hK.out _ _ rfl (by assumption) | exact hK.out _ _ (by assumption) (by assumption)
          · cases ho
            simp only [Act.put, List.setIfInBounds_toArray, List.set_cons_zero, List.set_cons_succ] at hK
            clear hs
            go_simp
            all_goals (try go_wp2_with (first | (go_at_call 62; refine (lead_d _ _ _ _ _ (by with_reducible assumption) (by with_reducible assumption) (by with_reducible assumption) (by with_reducible assumption)).mono ?_; rintro e w1 ⟨rfl, hb1⟩) | (go_at_call 63; refine (rCross_d _ (by with_reducible assumption) (by with_reducible assumption) (by with_reducible assumption) (by with_reducible assumption) (by decide)).mono ?_; rintro e w1 ⟨rfl, hb1⟩)))
            all_goals first | exact hK.out _ _ rfl (bl_refl _) | exact hK.out _ _ rfl (by assumption) | exact hK.out _ _ (by assumption) (by assumption)
          · cases ho
            have e3 : s 3 = _ := hs 3 (by decide) (by kernel_rfl)
            have e4 : s 4 = _ := hs 4 (by decide) (by kernel_rfl)
            simp only [e3, e4] at hK ⊢
            simp only [Act.put, List.setIfInBounds_toArray, List.set_cons_zero, List.set_cons_succ] at hK
            clear hs
            go_simp
            all_goals (try go_wp2_with (first | (go_at_call 62; refine (lead_d _ _ _ _ _ (by with_reducible assumption) (by with_reducible assumption) (by with_reducible assumption) (by with_reducible assumption)).mono ?_; rintro e w1 ⟨rfl, hb1⟩) | (go_at_call 63; refine (rCross_d _ (by with_reducible assumption) (by with_reducible assumption) (by with_reducible assumption) (by with_reducible assumption) (by decide)).mono ?_; rintro e w1 ⟨rfl, hb1⟩)))
            all_goals first | exact hK.out _ _ rfl (bl_refl _) | exact hK.out _ _ rfl (by assumption) | exact hK.out _ _ (by assumption) (by assumption)
          · cases ho
            have e5 : s 5 = _ := hs 5 (by decide) (by kernel_rfl)
            simp only [e5] at hK ⊢
            simp only [Act.put, List.setIfInBounds_toArray, List.set_cons_zero, List.set_cons_succ] at hK
            clear hs
            go_simp
            all_goals (try go_wp2_with (first | (go_at_call 62; refine (lead_d _ _ _ _ _ (by with_reducible assumption) (by with_reducible assumption) (by with_reducible assumption) (by with_reducible assumption)).mono ?_; rintro e w1 ⟨rfl, hb1⟩) | (go_at_call 63; refine (rCross_d _ (by with_reducible assumption) (by with_reducible assumption) (by with_reducible assumption) (by with_reducible assumption) (by decide)).mono ?_; rintro e w1 ⟨rfl, hb1⟩)))
            all_goals first | exact hK.out _ _ rfl (bl_refl _) | exact hK.out _ _ rfl (by assumption) | exact hK.out _ _ (by assumption) (by assumption)
          · cases ho
            have e2 : s 2 = _ := hs 2 (by decide) (by kernel_rfl)
            have e6 : s 6 = _ := hs 6 (by decide) (by kernel_rfl)
            simp only [e2, e6] at hK ⊢
            simp only [Act.put, List.setIfInBounds_toArray, List.set_cons_zero, List.set_cons_succ] at hK
            clear hs
            go_simp
            all_goals (try go_wp2_with (first | (go_at_call 62; refine (lead_d _ _ _ _ _ (by with_reducible assumption) (by with_reducible assumption) (by with_reducible assumption) (by with_reducible assumption)).mono ?_; rintro e w1 ⟨rfl, hb1⟩) | (go_at_call 63; refine (rCross_d _ (by with_reducible assumption) (by with_reducible assumption) (by with_reducible assumption) (by with_reducible assumption) (by decide)).mono ?_; rintro e w1 ⟨rfl, hb1⟩)))
            all_goals first | exact hK.out _ _ rfl (bl_refl _) | exact hK.out _ _ rfl (by assumption) | exact hK.out _ _ (by assumption) (by assumption)
          · cases ho
            simp only [Act.put, List.setIfInBounds_toArray, List.set_cons_zero, List.set_cons_succ] at hK
            clear hs
            go_simp
            all_goals (try go_wp2_with (first | (go_at_call 62; refine (lead_d _ _ _ _ _ (by with_reducible assumption) (by with_reducible assumption) (by with_reducible assumption) (by with_reducible assumption)).mono ?_; rintro e w1 ⟨rfl, hb1⟩) | (go_at_call 63; refine (rCross_d _ (by with_reducible assumption) (by with_reducible assumption) (by with_reducible assumption) (by with_reducible assumption) (by decide)).mono ?_; rintro e w1 ⟨rfl, hb1⟩)))
            all_goals first | exact hK.out _ _ rfl (bl_refl _) | exact hK.out _ _ rfl (by assumption) | exact hK.out _ _ (by assumption) (by assumption)
          · cases ho
            have e8 : s 8 = _ := hs 8 (by decide) (by kernel_rfl)
            simp only [e8] at hK ⊢
            simp only [Act.put, List.setIfInBounds_toArray, List.set_cons_zero, List.set_cons_succ] at hK
            clear hs
            go_simp
            all_goals (try go_wp2_with (first | (go_at_call 62; refine (lead_d _ _ _ _ _ (by with_reducible assumption) (by with_reducible assumption) (by with_reducible assumption) (by with_reducible assumption)).mono ?_; rintro e w1 ⟨rfl, hb1⟩) | (go_at_call 63; refine (rCross_d _ (by with_reducible assumption) (by with_reducible assumption) (by with_reducible assumption) (by with_reducible assumption) (by decide)).mono ?_; rintro e w1 ⟨rfl, hb1⟩)))
            all_goals first | exact hK.out _ _ rfl (bl_refl _) | exact hK.out _ _ rfl (by assumption) | exact hK.out _ _ (by assumption) (by assumption)
          · cases ho
            have e9 : s 9 = _ := hs 9 (by decide) (by kernel_rfl)
            simp only [e9] at hK ⊢
            simp only [Act.put, List.setIfInBounds_toArray, List.set_cons_zero, List.set_cons_succ] at hK
            clear hs
            go_simp
            all_goals (try go_wp2_with (first | (go_at_call 62; refine (lead_d _ _ _ _ _ (by with_reducible assumption) (by with_reducible assumption) (by with_reducible assumption) (by with_reducible assumption)).mono ?_; rintro e w1 ⟨rfl, hb1⟩) | (go_at_call 63; refine (rCross_d _ (by with_reducible assumption) (by with_reducible assumption) (by with_reducible assumption) (by with_reducible assumption) (by decide)).mono ?_; rintro e w1 ⟨rfl, hb1⟩)))
            all_goals first | exact hK.out _ _ rfl (bl_refl _) | exact hK.out _ _ rfl (by assumption) | exact hK.out _ _ (by assumption) (by assumption)
          · cases ho
            simp only [Act.put, List.setIfInBounds_toArray, List.set_cons_zero, List.set_cons_succ] at hK
            clear hs
            go_simp
            all_goals (try go_wp2_with (first | (go_at_call 62; refine (lead_d _ _ _ _ _ (by with_reducible assumption) (by with_reducible assumption) (by with_reducible assumption) (by with_reducible assumption)).mono ?_; rintro e w1 ⟨rfl, hb1⟩) | (go_at_call 63; refine (rCross_d _ (by with_reducible assumption) (by with_reducible assumption) (by with_reducible assumption) (by with_reducible assumption) (by decide)).mono ?_; rintro e w1 ⟨rfl, hb1⟩)))
            all_goals first | exact hK.out _ _ rfl (bl_refl _) | exact hK.out _ _ rfl (by assumption) | exact hK.out _ _ (by assumption) (by assumption)
          · cases ho
            simp only [Act.put, List.setIfInBounds_toArray, List.set_cons_zero, List.set_cons_succ] at hK
            clear hs
            go_simp
            all_goals (try go_wp2_with (first | (go_at_call 62; refine (lead_d _ _ _ _ _ (by with_reducible assumption) (by with_reducible assumption) (by with_reducible assumption) (by with_reducible assumption)).mono ?_; rintro e w1 ⟨rfl, hb1⟩) | (go_at_call 63; refine (rCross_d _ (by with_reducible assumption) (by with_reducible assumption) (by with_reducible assumption) (by with_reducible assumption) (by decide)).mono ?_; rintro e w1 ⟨rfl, hb1⟩)))
            all_goals first | exact hK.out _ _ rfl (bl_refl _) | exact hK.out _ _ rfl (by assumption) | exact hK.out _ _ (by assumption) (by assumption)
          · cases ho
            have e12 : s 12 = _ := hs 12 (by decide) (by kernel_rfl)
            simp only [e12] at hK ⊢
            simp only [Act.put, List.setIfInBounds_toArray, List.set_cons_zero, List.set_cons_succ] at hK
            clear hs
            go_simp
            all_goals (try go_wp2_with (first | (go_at_call 62; refine (lead_d _ _ _ _ _ (by with_reducible assumption) (by with_reducible assumption) (by with_reducible assumption) (by with_reducible assumption)).mono ?_; rintro e w1 ⟨rfl, hb1⟩) | (go_at_call 63; refine (rCross_d _ (by with_reducible assumption) (by with_reducible assumption) (by with_reducible assumption) (by with_reducible assumption) (by decide)).mono ?_; rintro e w1 ⟨rfl, hb1⟩)))
            all_goals first | exact hK.out _ _ rfl (bl_refl _) | exact hK.out _ _ rfl (by assumption) | exact hK.out _ _ (by assumption) (by assumption)
          · cases ho
            have e11 : s 11 = _ := hs 11 (by decide) (by kernel_rfl)
            have e13 : s 13 = _ := hs 13 (by decide) (by kernel_rfl)
            simp only [e11, e13] at hK ⊢
            simp only [Act.put, List.setIfInBounds_toArray, List.set_cons_zero, List.set_cons_succ] at hK
            clear hs
            go_simp
            all_goals (try go_wp2_with (first | (go_at_call 62; refine (lead_d _ _ _ _ _ (by with_reducible assumption) (by with_reducible assumption) (by with_reducible assumption) (by with_reducible assumption)).mono ?_; rintro e w1 ⟨rfl, hb1⟩) | (go_at_call 63; refine (rCross_d _ (by with_reducible assumption) (by with_reducible assumption) (by with_reducible assumption) (by with_reducible assumption) (by decide)).mono ?_; rintro e w1 ⟨rfl, hb1⟩)))
            all_goals first | exact hK.out _ _ rfl (bl_refl _) | exact hK.out _ _ rfl (by assumption) | exact hK.out _ _ (by assumption) (by assumption)
          · cases ho
            have e14 : s 14 = _ := hs 14 (by decide) (by kernel_rfl)
            simp only [e14] at hK ⊢
            simp only [Act.put, List.setIfInBounds_toArray, List.set_cons_zero, List.set_cons_succ] at hK
            clear hs
            go_simp
            all_goals (try go_wp2_with (first | (go_at_call 62; refine (lead_d _ _ _ _ _ (by with_reducible assumption) (by with_reducible assumption) (by with_reducible assumption) (by with_reducible assumption)).mono ?_; rintro e w1 ⟨rfl, hb1⟩) | (go_at_call 63; refine (rCross_d _ (by with_reducible assumption) (by with_reducible assumption) (by with_reducible assumption) (by with_reducible assumption) (by decide)).mono ?_; rintro e w1 ⟨rfl, hb1⟩)))
            all_goals first | exact hK.out _ _ rfl (bl_refl _) | exact hK.out _ _ rfl (by assumption) | exact hK.out _ _ (by assumption) (by assumption)
          · cases ho
            have e10 : s 10 = _ := hs 10 (by decide) (by kernel_rfl)
            have e15 : s 15 = _ := hs 15 (by decide) (by kernel_rfl)
            simp only [e10, e15] at hK ⊢
            simp only [Act.put, List.setIfInBounds_toArray, List.set_cons_zero, List.set_cons_succ] at hK
            clear hs
            go_simp
            all_goals (try go_wp2_with (first | (go_at_call 62; refine (lead_d _ _ _ _ _ (by with_reducible assumption) (by with_reducible assumption) (by with_reducible assumption) (by with_reducible assumption)).mono ?_; rintro e w1 ⟨rfl, hb1⟩) | (go_at_call 63; refine (rCross_d _ (by with_reducible assumption) (by with_reducible assumption) (by with_reducible assumption) (by with_reducible assumption) (by decide)).mono ?_; rintro e w1 ⟨rfl, hb1⟩)))
            all_goals first | exact hK.out _ _ rfl (bl_refl _) | exact hK.out _ _ rfl (by assumption) | exact hK.out _ _ (by assumption) (by assumption)
          · cases ho
            have e7 : s 7 = _ := hs 7 (by decide) (by kernel_rfl)
            have e16 : s 16 = _ := hs 16 (by decide) (by kernel_rfl)
            simp only [e7, e16] at hK ⊢
            simp only [Act.put, List.setIfInBounds_toArray, List.set_cons_zero, List.set_cons_succ] at hK
            clear hs
            go_simp
            all_goals (try go_wp2_with (first | (go_at_call 62; refine (lead_d _ _ _ _ _ (by with_reducible assumption) (by with_reducible assumption) (by with_reducible assumption) (by with_reducible assumption)).mono ?_; rintro e w1 ⟨rfl, hb1⟩) | (go_at_call 63; refine (rCross_d _ (by with_reducible assumption) (by with_reducible assumption) (by with_reducible assumption) (by with_reducible assumption) (by decide)).mono ?_; rintro e w1 ⟨rfl, hb1⟩)))
            all_goals first | exact hK.out _ _ rfl (bl_refl _) | exact hK.out _ _ rfl (by assumption) | exact hK.out _ _ (by assumption) (by assumption)
          · cases ho
            have e17 : s 17 = _ := hs 17 (by decide) (by kernel_rfl)
            simp only [e17] at hK ⊢
            simp only [Act.put, List.setIfInBounds_toArray, List.set_cons_zero, List.set_cons_succ] at hK
            clear hs
            go_simp
            all_goals (try go_wp2_with (first | (go_at_call 62; refine (lead_d _ _ _ _ _ (by with_reducible assumption) (by with_reducible assumption) (by with_reducible assumption) (by with_reducible assumption)).mono ?_; rintro e w1 ⟨rfl, hb1⟩) | (go_at_call 63; refine (rCross_d _ (by with_reducible assumption) (by with_reducible assumption) (by with_reducible assumption) (by with_reducible assumption) (by decide)).mono ?_; rintro e w1 ⟨rfl, hb1⟩)))
            all_goals first | exact hK.out _ _ rfl (bl_refl _) | exact hK.out _ _ rfl (by assumption) | exact hK.out _ _ (by assumption) (by assumption)
        case ht_wh =>
          intro s hs W hb hJ
          have e0 : s 0 = _ := hs 0 (by decide)
          have e1 : s 1 = _ := hs 1 (by decide)
          have e2 : s 2 = _ := hs 2 (by decide)
          have e3 : s 3 = _ := hs 3 (by decide)
          have e4 : s 4 = _ := hs 4 (by decide)
          have e5 : s 5 = _ := hs 5 (by decide)
          have e6 : s 6 = _ := hs 6 (by decide)
          have e7 : s 7 = _ := hs 7 (by decide)
          have e8 : s 8 = _ := hs 8 (by decide)
          have e9 : s 9 = _ := hs 9 (by decide)
          have e10 : s 10 = _ := hs 10 (by decide)
          have e11 : s 11 = _ := hs 11 (by decide)
          have e12 : s 12 = _ := hs 12 (by decide)
          have e13 : s 13 = _ := hs 13 (by decide)
          have e14 : s 14 = _ := hs 14 (by decide)
          have e15 : s 15 = _ := hs 15 (by decide)
          have e16 : s 16 = _ := hs 16 (by decide)
          have e17 : s 17 = _ := hs 17 (by decide)
          have e18 : s 18 = _ := hs 18 (by decide)
          simp only [e0, e1, e2, e3, e4, e5, e6, e7, e8, e9, e10, e11, e12, e13, e14, e15, e16, e17, e18]
          clear hs
          refine tail_end ?_
          go_wp2
          refine ⟨⟨kx + 1, _, by omega, by omega, by go_num, fun _ => ?_, rfl, bl_trans hB hb⟩, by simp [intOf]; omega⟩
          have h1 := unhide h1'
          subst h1
          rfl
      · have x1 : ((kx : Int) == 1) = false := by simp; omega
        have x2 : ¬ (kx : Int) = 1 := by omega
        obtain ⟨sb1, _, _⟩ := s_bd g (kx - 2) (by omega) (by omega)
        rw [hf (by omega)] at sb1
        obtain ⟨tb1, _, _⟩ := t_bd u0 u1 v0 v1 v2 v3
        have qa := fun t W => run_add_dv Try.prog t f (tA (xs 0) (ys 0) (xs kx) (ys kx) (xs (kx + 1)) (ys (kx + 1))) W sb1.2.1 tb1.2.1
        go_wp2
        refine wp_region_multiA 19 (fun i v => match i with | 0 => v = .slice (some ⟨b, off, none⟩) n cap | 1 => v = .pointer (some ⟨b, off, none⟩) | 2 => v = .agg #[.float .f64 (xs 0), .float .f64 (ys 0)] | 3 => v = .slice (some ⟨b, off, none⟩) n cap | 4 => v = .int .i64 (kx : Int) | 5 => v = .pointer (some ⟨b, off + kx * 2, none⟩) | 6 => v = .agg #[.float .f64 (xs kx), .float .f64 (ys kx)] | 7 => v = .agg #[.float .f64 (Dv .sub (xs kx) (xs 0)), .float .f64 (Dv .sub (ys kx) (ys 0))] | 8 => v = .slice (some ⟨b, off, none⟩) n cap | 9 => v = .pointer (some ⟨b, off, none⟩) | 10 => v = .agg #[.float .f64 (xs 0), .float .f64 (ys 0)] | 11 => v = .slice (some ⟨b, off, none⟩) n cap | 12 => v = .int .i64 (kx : Int) | 13 => v = .int .i64 ((kx : Int) + 1) | 14 => v = .pointer (some ⟨b, off + (kx + 1) * 2, none⟩) | 15 => v = .agg #[.float .f64 (xs (kx + 1)), .float .f64 (ys (kx + 1))] | 16 => v = .agg #[.float .f64 (Dv .sub (xs (kx + 1)) (xs 0)), .float .f64 (Dv .sub (ys (kx + 1)) (ys 0))] | 17 => v = .float .f64 (tA (xs 0) (ys 0) (xs kx) (ys kx) (xs (kx + 1)) (ys (kx + 1))) | 18 => v = .float .f64 (tA (xs 0) (ys 0) (xs kx) (ys kx) (xs (kx + 1)) (ys (kx + 1))) | _ => False) (fun i => match i with  | _ => none) ?A_wh (by kernel_rfl) (by kernel_rfl) ?hA_wh ?ha_wh ?hq_wh [] rfl ?ht_wh
        case hA_wh =>
          intro s
          simp only [putL, dstO, Act.put, List.getElem?_toArray, List.getElem?_cons_zero, List.getElem?_cons_succ, Option.bind_some, List.setIfInBounds_toArray, List.set_cons_zero, List.set_cons_succ, if_true]
          all_goals exact rfl
        case ha_wh =>
          intro i o ob hi ho hal
          rcases (show i = 0 ∨ i = 1 ∨ i = 2 ∨ i = 3 ∨ i = 4 ∨ i = 5 ∨ i = 6 ∨ i = 7 ∨ i = 8 ∨ i = 9 ∨ i = 10 ∨ i = 11 ∨ i = 12 ∨ i = 13 ∨ i = 14 ∨ i = 15 ∨ i = 16 ∨ i = 17 ∨ i = 18 by omega) with rfl | rfl | rfl | rfl | rfl | rfl | rfl | rfl | rfl | rfl | rfl | rfl | rfl | rfl | rfl | rfl | rfl | rfl | rfl
          · cases hal
          · cases hal
          · cases hal
          · cases hal
          · cases hal
          · cases hal
          · cases hal
          · cases hal
          · cases hal
          · cases hal
          · cases hal
          · cases hal
          · cases hal
          · cases hal
          · cases hal
          · cases hal
          · cases hal
          · cases hal
          · cases hal
        case hq_wh =>
          intro i o hi ho hal s hs W hb K hK
          obtain ⟨y0, y1⟩ := (sB.bel (bl_trans hB hb)) 0 hp; simp only [Nat.zero_mul, Nat.add_zero] at y0 y1; obtain ⟨y2, y3⟩ := (sB.bel (bl_trans hB hb)) kx (by omega); obtain ⟨y4, y5⟩ := (sB.bel (bl_trans hB hb)) (kx + 1) hlt
          rcases (show i = 0 ∨ i = 1 ∨ i = 2 ∨ i = 3 ∨ i = 4 ∨ i = 5 ∨ i = 6 ∨ i = 7 ∨ i = 8 ∨ i = 9 ∨ i = 10 ∨ i = 11 ∨ i = 12 ∨ i = 13 ∨ i = 14 ∨ i = 15 ∨ i = 16 ∨ i = 17 ∨ i = 18 by omega) with rfl | rfl | rfl | rfl | rfl | rfl | rfl | rfl | rfl | rfl | rfl | rfl | rfl | rfl | rfl | rfl | rfl | rfl | rfl
          · cases ho
            simp only [Act.put, List.setIfInBounds_toArray, List.set_cons_zero, List.set_cons_succ] at hK
            clear hs
            go_simp
            all_goals (try go_wp2_with (first | (go_at_call 62; refine (lead_d _ _ _ _ _ (by with_reducible assumption) (by with_reducible assumption) (by with_reducible assumption) (by with_reducible assumption)).mono ?_; rintro e w1 ⟨rfl, hb1⟩) | (go_at_call 63; refine (rCross_d _ (by with_reducible assumption) (by with_reducible assumption) (by with_reducible assumption) (by with_reducible assumption) (by decide)).mono ?_; rintro e w1 ⟨rfl, hb1⟩)))
            all_goals first | exact hK.out _ _ rfl (bl_refl _) | exact hK.out _ _ rfl (by assumption) | exact hK.out _ _ (by assumption) (by assumption)
          · cases ho
            have e0 : s 0 = _ := hs 0 (by decide) (by kernel_rfl)
            simp only [e0] at hK ⊢
            simp only [Act.put, List.setIfInBounds_toArray, List.set_cons_zero, List.set_cons_succ] at hK
            clear hs
            go_simp
            all_goals (try go_wp2_with (first | (go_at_call 62; refine (lead_d _ _ _ _ _ (by with_reducible assumption) (by with_reducible assumption) (by with_reducible assumption) (by with_reducible assumption)).mono ?_; rintro e w1 ⟨rfl, hb1⟩) | (go_at_call 63; refine (rCross_d _ (by with_reducible assumption) (by with_reducible assumption) (by with_reducible assumption) (by with_reducible assumption) (by decide)).mono ?_; rintro e w1 ⟨rfl, hb1⟩)))
            all_goals first | exact hK.out _ _ rfl (bl_refl _) | exact hK.out _ _ rfl (by assumption) | exact hK.out _ _ (by assumption) (by assumption)
          · cases ho
            have e1 : s 1 = _ := hs 1 (by decide) (by kernel_rfl)
            simp only [e1] at hK ⊢
            simp only [Act.put, List.setIfInBounds_toArray, List.set_cons_zero, List.set_cons_succ] at hK
            clear hs
            go_simp
            all_goals (try go_wp2_with (first | (go_at_call 62; refine (lead_d _ _ _ _ _ (by with_reducible assumption) (by with_reducible assumption) (by with_reducible assumption) (by with_reducible assumption)).mono ?_; rintro e w1 ⟨rfl, hb1⟩) | (go_at_call 63; refine (rCross_d _ (by with_reducible assumption) (by with_reducible assumption) (by with_reducible assumption) (by with_reducible assumption) (by decide)).mono ?_; rintro e w1 ⟨rfl, hb1⟩)))
            all_goals first | exact hK.out _ _ rfl (bl_refl _) | exact hK.out _ _ rfl (by assumption) | exact hK.out _ _ (by assumption) (by assumption)
          · cases ho
            simp only [Act.put, List.setIfInBounds_toArray, List.set_cons_zero, List.set_cons_succ] at hK
            clear hs
            go_simp
            all_goals (try go_wp2_with (first | (go_at_call 62; refine (lead_d _ _ _ _ _ (by with_reducible assumption) (by with_reducible assumption) (by with_reducible assumption) (by with_reducible assumption)).mono ?_; rintro e w1 ⟨rfl, hb1⟩) | (go_at_call 63; refine (rCross_d _ (by with_reducible assumption) (by with_reducible assumption) (by with_reducible assumption) (by with_reducible assumption) (by decide)).mono ?_; rintro e w1 ⟨rfl, hb1⟩)))
            all_goals first | exact hK.out _ _ rfl (bl_refl _) | exact hK.out _ _ rfl (by assumption) | exact hK.out _ _ (by assumption) (by assumption)
          · cases ho
            simp only [Act.put, List.setIfInBounds_toArray, List.set_cons_zero, List.set_cons_succ] at hK
            clear hs
            go_simp
            all_goals (try go_wp2_with (first | (go_at_call 62; refine (lead_d _ _ _ _ _ (by with_reducible assumption) (by with_reducible assumption) (by with_reducible assumption) (by with_reducible assumption)).mono ?_; rintro e w1 ⟨rfl, hb1⟩) | (go_at_call 63; refine (rCross_d _ (by with_reducible assumption) (by with_reducible assumption) (by with_reducible assumption) (by with_reducible assumption) (by decide)).mono ?_; rintro e w1 ⟨rfl, hb1⟩)))
            all_goals first | exact hK.out _ _ rfl (bl_refl _) | exact hK.out _ _ rfl (by assumption) | exact hK.out _ _ (by assumption) (by assumption)
          · cases ho
            have e3 : s 3 = _ := hs 3 (by decide) (by kernel_rfl)
            have e4 : s 4 = _ := hs 4 (by decide) (by kernel_rfl)
            simp only [e3, e4] at hK ⊢
            simp only [Act.put, List.setIfInBounds_toArray, List.set_cons_zero, List.set_cons_succ] at hK
            clear hs
            go_simp
            all_goals (try go_wp2_with (first | (go_at_call 62; refine (lead_d _ _ _ _ _ (by with_reducible assumption) (by with_reducible assumption) (by with_reducible assumption) (by with_reducible assumption)).mono ?_; rintro e w1 ⟨rfl, hb1⟩) | (go_at_call 63; refine (rCross_d _ (by with_reducible assumption) (by with_reducible assumption) (by with_reducible assumption) (by with_reducible assumption) (by decide)).mono ?_; rintro e w1 ⟨rfl, hb1⟩)))
            all_goals first | exact hK.out _ _ rfl (bl_refl _) | exact hK.out _ _ rfl (by assumption) | exact hK.out _ _ (by assumption) (by assumption)
          · cases ho
            have e5 : s 5 = _ := hs 5 (by decide) (by kernel_rfl)
            simp only [e5] at hK ⊢
            simp only [Act.put, List.setIfInBounds_toArray, List.set_cons_zero, List.set_cons_succ] at hK
            clear hs
            go_simp
            all_goals (try go_wp2_with (first | (go_at_call 62; refine (lead_d _ _ _ _ _ (by with_reducible assumption) (by with_reducible assumption) (by with_reducible assumption) (by with_reducible assumption)).mono ?_; rintro e w1 ⟨rfl, hb1⟩) | (go_at_call 63; refine (rCross_d _ (by with_reducible assumption) (by with_reducible assumption) (by with_reducible assumption) (by with_reducible assumption) (by decide)).mono ?_; rintro e w1 ⟨rfl, hb1⟩)))
            all_goals first | exact hK.out _ _ rfl (bl_refl _) | exact hK.out _ _ rfl (by assumption) | exact hK.out _ _ (by assumption) (by assumption)
          · cases ho
            have e2 : s 2 = _ := hs 2 (by decide) (by kernel_rfl)
            have e6 : s 6 = _ := hs 6 (by decide) (by kernel_rfl)
            simp only [e2, e6] at hK ⊢
            simp only [Act.put, List.setIfInBounds_toArray, List.set_cons_zero, List.set_cons_succ] at hK
            clear hs
            go_simp
            all_goals (try go_wp2_with (first | (go_at_call 62; refine (lead_d _ _ _ _ _ (by with_reducible assumption) (by with_reducible assumption) (by with_reducible assumption) (by with_reducible assumption)).mono ?_; rintro e w1 ⟨rfl, hb1⟩) | (go_at_call 63; refine (rCross_d _ (by with_reducible assumption) (by with_reducible assumption) (by with_reducible assumption) (by with_reducible assumption) (by decide)).mono ?_; rintro e w1 ⟨rfl, hb1⟩)))
            all_goals first | exact hK.out _ _ rfl (bl_refl _) | exact hK.out _ _ rfl (by assumption) | exact hK.out _ _ (by assumption) (by assumption)
          · cases ho
            simp only [Act.put, List.setIfInBounds_toArray, List.set_cons_zero, List.set_cons_succ] at hK
            clear hs
            go_simp
            all_goals (try go_wp2_with (first | (go_at_call 62; refine (lead_d _ _ _ _ _ (by with_reducible assumption) (by with_reducible assumption) (by with_reducible assumption) (by with_reducible assumption)).mono ?_; rintro e w1 ⟨rfl, hb1⟩) | (go_at_call 63; refine (rCross_d _ (by with_reducible assumption) (by with_reducible assumption) (by with_reducible assumption) (by with_reducible assumption) (by decide)).mono ?_; rintro e w1 ⟨rfl, hb1⟩)))
            all_goals first | exact hK.out _ _ rfl (bl_refl _) | exact hK.out _ _ rfl (by assumption) | exact hK.out _ _ (by assumption) (by assumption)
          · cases ho
            have e8 : s 8 = _ := hs 8 (by decide) (by kernel_rfl)
            simp only [e8] at hK ⊢
            simp only [Act.put, List.setIfInBounds_toArray, List.set_cons_zero, List.set_cons_succ] at hK
            clear hs
            go_simp
            all_goals (try go_wp2_with (first | (go_at_call 62; refine (lead_d _ _ _ _ _ (by with_reducible assumption) (by with_reducible assumption) (by with_reducible assumption) (by with_reducible assumption)).mono ?_; rintro e w1 ⟨rfl, hb1⟩) | (go_at_call 63; refine (rCross_d _ (by with_reducible assumption) (by with_reducible assumption) (by with_reducible assumption) (by with_reducible assumption) (by decide)).mono ?_; rintro e w1 ⟨rfl, hb1⟩)))
            all_goals first | exact hK.out _ _ rfl (bl_refl _) | exact hK.out _ _ rfl (by assumption) | exact hK.out _ _ (by assumption) (by assumption)
          · cases ho
            have e9 : s 9 = _ := hs 9 (by decide) (by kernel_rfl)
            simp only [e9] at hK ⊢
            simp only [Act.put, List.setIfInBounds_toArray, List.set_cons_zero, List.set_cons_succ] at hK
            clear hs
            go_simp
            all_goals (try go_wp2_with (first | (go_at_call 62; refine (lead_d _ _ _ _ _ (by with_reducible assumption) (by with_reducible assumption) (by with_reducible assumption) (by with_reducible assumption)).mono ?_; rintro e w1 ⟨rfl, hb1⟩) | (go_at_call 63; refine (rCross_d _ (by with_reducible assumption) (by with_reducible assumption) (by with_reducible assumption) (by with_reducible assumption) (by decide)).mono ?_; rintro e w1 ⟨rfl, hb1⟩)))
            all_goals first | exact hK.out _ _ rfl (bl_refl _) | exact hK.out _ _ rfl (by assumption) | exact hK.out _ _ (by assumption) (by assumption)
          · cases ho
            simp only [Act.put, List.setIfInBounds_toArray, List.set_cons_zero, List.set_cons_succ] at hK
            clear hs
            go_simp
            all_goals (try go_wp2_with (first | (go_at_call 62; refine (lead_d _ _ _ _ _ (by with_reducible assumption) (by with_reducible assumption) (by with_reducible assumption) (by with_reducible assumption)).mono ?_; rintro e w1 ⟨rfl, hb1⟩) | (go_at_call 63; refine (rCross_d _ (by with_reducible assumption) (by with_reducible assumption) (by with_reducible assumption) (by with_reducible assumption) (by decide)).mono ?_; rintro e w1 ⟨rfl, hb1⟩)))
            all_goals first | exact hK.out _ _ rfl (bl_refl _) | exact hK.out _ _ rfl (by assumption) | exact hK.out _ _ (by assumption) (by assumption)
          · cases ho
            simp only [Act.put, List.setIfInBounds_toArray, List.set_cons_zero, List.set_cons_succ] at hK
            clear hs
            go_simp
            all_goals (try go_wp2_with (first | (go_at_call 62; refine (lead_d _ _ _ _ _ (by with_reducible assumption) (by with_reducible assumption) (by with_reducible assumption) (by with_reducible assumption)).mono ?_; rintro e w1 ⟨rfl, hb1⟩) | (go_at_call 63; refine (rCross_d _ (by with_reducible assumption) (by with_reducible assumption) (by with_reducible assumption) (by with_reducible assumption) (by decide)).mono ?_; rintro e w1 ⟨rfl, hb1⟩)))
            all_goals first | exact hK.out _ _ rfl (bl_refl _) | exact hK.out _ _ rfl (by assumption) | exact hK.out _ _ (by assumption) (by assumption)
          · cases ho
            have e12 : s 12 = _ := hs 12 (by decide) (by kernel_rfl)
            simp only [e12] at hK ⊢
            simp only [Act.put, List.setIfInBounds_toArray, List.set_cons_zero, List.set_cons_succ] at hK
            clear hs
            go_simp
            all_goals (try go_wp2_with (first | (go_at_call 62; refine (lead_d _ _ _ _ _ (by with_reducible assumption) (by with_reducible assumption) (by with_reducible assumption) (by with_reducible assumption)).mono ?_; rintro e w1 ⟨rfl, hb1⟩) | (go_at_call 63; refine (rCross_d _ (by with_reducible assumption) (by with_reducible assumption) (by with_reducible assumption) (by with_reducible assumption) (by decide)).mono ?_; rintro e w1 ⟨rfl, hb1⟩)))
            all_goals first | exact hK.out _ _ rfl (bl_refl _) | exact hK.out _ _ rfl (by assumption) | exact hK.out _ _ (by assumption) (by assumption)
          · cases ho
            have e11 : s 11 = _ := hs 11 (by decide) (by kernel_rfl)
            have e13 : s 13 = _ := hs 13 (by decide) (by kernel_rfl)
            simp only [e11, e13] at hK ⊢
            simp only [Act.put, List.setIfInBounds_toArray, List.set_cons_zero, List.set_cons_succ] at hK
            clear hs
            go_simp
            all_goals (try go_wp2_with (first | (go_at_call 62; refine (lead_d _ _ _ _ _ (by with_reducible assumption) (by with_reducible assumption) (by with_reducible assumption) (by with_reducible assumption)).mono ?_; rintro e w1 ⟨rfl, hb1⟩) | (go_at_call 63; refine (rCross_d _ (by with_reducible assumption) (by with_reducible assumption) (by with_reducible assumption) (by with_reducible assumption) (by decide)).mono ?_; rintro e w1 ⟨rfl, hb1⟩)))
            all_goals first | exact hK.out _ _ rfl (bl_refl _) | exact hK.out _ _ rfl (by assumption) | exact hK.out _ _ (by assumption) (by assumption)
          · cases ho
            have e14 : s 14 = _ := hs 14 (by decide) (by kernel_rfl)
            simp only [e14] at hK ⊢
            simp only [Act.put, List.setIfInBounds_toArray, List.set_cons_zero, List.set_cons_succ] at hK
            clear hs
            go_simp
            all_goals (try go_wp2_with (first | (go_at_call 62; refine (lead_d _ _ _ _ _ (by with_reducible assumption) (by with_reducible assumption) (by with_reducible assumption) (by with_reducible assumption)).mono ?_; rintro e w1 ⟨rfl, hb1⟩) | (go_at_call 63; refine (rCross_d _ (by with_reducible assumption) (by with_reducible assumption) (by with_reducible assumption) (by with_reducible assumption) (by decide)).mono ?_; rintro e w1 ⟨rfl, hb1⟩)))
            all_goals first | exact hK.out _ _ rfl (bl_refl _) | exact hK.out _ _ rfl (by assumption) | exact hK.out _ _ (by assumption) (by assumption)
          · cases ho
            have e10 : s 10 = _ := hs 10 (by decide) (by kernel_rfl)
            have e15 : s 15 = _ := hs 15 (by decide) (by kernel_rfl)
            simp only [e10, e15] at hK ⊢
            simp only [Act.put, List.setIfInBounds_toArray, List.set_cons_zero, List.set_cons_succ] at hK
            clear hs
            go_simp
            all_goals (try go_wp2_with (first | (go_at_call 62; refine (lead_d _ _ _ _ _ (by with_reducible assumption) (by with_reducible assumption) (by with_reducible assumption) (by with_reducible assumption)).mono ?_; rintro e w1 ⟨rfl, hb1⟩) | (go_at_call 63; refine (rCross_d _ (by with_reducible assumption) (by with_reducible assumption) (by with_reducible assumption) (by with_reducible assumption) (by decide)).mono ?_; rintro e w1 ⟨rfl, hb1⟩)))
            all_goals first | exact hK.out _ _ rfl (bl_refl _) | exact hK.out _ _ rfl (by assumption) | exact hK.out _ _ (by assumption) (by assumption)
          · cases ho
            have e7 : s 7 = _ := hs 7 (by decide) (by kernel_rfl)
            have e16 : s 16 = _ := hs 16 (by decide) (by kernel_rfl)
            simp only [e7, e16] at hK ⊢
            simp only [Act.put, List.setIfInBounds_toArray, List.set_cons_zero, List.set_cons_succ] at hK
            clear hs
            go_simp
            all_goals (try go_wp2_with (first | (go_at_call 62; refine (lead_d _ _ _ _ _ (by with_reducible assumption) (by with_reducible assumption) (by with_reducible assumption) (by with_reducible assumption)).mono ?_; rintro e w1 ⟨rfl, hb1⟩) | (go_at_call 63; refine (rCross_d _ (by with_reducible assumption) (by with_reducible assumption) (by with_reducible assumption) (by with_reducible assumption) (by decide)).mono ?_; rintro e w1 ⟨rfl, hb1⟩)))
            all_goals first | exact hK.out _ _ rfl (bl_refl _) | exact hK.out _ _ rfl (by assumption) | exact hK.out _ _ (by assumption) (by assumption)
          · cases ho
            have e17 : s 17 = _ := hs 17 (by decide) (by kernel_rfl)
            simp only [e17] at hK ⊢
            simp only [Act.put, List.setIfInBounds_toArray, List.set_cons_zero, List.set_cons_succ] at hK
            clear hs
            go_simp
            all_goals (try go_wp2_with (first | (go_at_call 62; refine (lead_d _ _ _ _ _ (by with_reducible assumption) (by with_reducible assumption) (by with_reducible assumption) (by with_reducible assumption)).mono ?_; rintro e w1 ⟨rfl, hb1⟩) | (go_at_call 63; refine (rCross_d _ (by with_reducible assumption) (by with_reducible assumption) (by with_reducible assumption) (by with_reducible assumption) (by decide)).mono ?_; rintro e w1 ⟨rfl, hb1⟩)))
            all_goals first | exact hK.out _ _ rfl (bl_refl _) | exact hK.out _ _ rfl (by assumption) | exact hK.out _ _ (by assumption) (by assumption)
        case ht_wh =>
          intro s hs W hb hJ
          have e0 : s 0 = _ := hs 0 (by decide)
          have e1 : s 1 = _ := hs 1 (by decide)
          have e2 : s 2 = _ := hs 2 (by decide)
          have e3 : s 3 = _ := hs 3 (by decide)
          have e4 : s 4 = _ := hs 4 (by decide)
          have e5 : s 5 = _ := hs 5 (by decide)
          have e6 : s 6 = _ := hs 6 (by decide)
          have e7 : s 7 = _ := hs 7 (by decide)
          have e8 : s 8 = _ := hs 8 (by decide)
          have e9 : s 9 = _ := hs 9 (by decide)
          have e10 : s 10 = _ := hs 10 (by decide)
          have e11 : s 11 = _ := hs 11 (by decide)
          have e12 : s 12 = _ := hs 12 (by decide)
          have e13 : s 13 = _ := hs 13 (by decide)
          have e14 : s 14 = _ := hs 14 (by decide)
          have e15 : s 15 = _ := hs 15 (by decide)
          have e16 : s 16 = _ := hs 16 (by decide)
          have e17 : s 17 = _ := hs 17 (by decide)
          have e18 : s 18 = _ := hs 18 (by decide)
          simp only [e0, e1, e2, e3, e4, e5, e6, e7, e8, e9, e10, e11, e12, e13, e14, e15, e16, e17, e18]
          clear hs
          refine tail_end ?_
          go_wp2
          refine ⟨⟨kx + 1, _, by omega, by omega, by go_num, fun _ => ?_, rfl, bl_trans hB hb⟩, by simp [intOf]; omega⟩
          rw [show kx + 1 - 2 = (kx - 2) + 1 by omega]
          show Dv .add (sA xs ys (kx - 2)) _ = _
          rw [hf (by omega), show kx - 2 + 2 = kx by omega, show kx - 2 + 3 = kx + 1 by omega]
    · have j1 : ¬ (kx : Int) < (n : Int) - 1 := by omega
      go_wp2
      go_ret
      exact ⟨by rw [← hf (by omega), show kx - 2 = n - 3 by omega]; rfl, hB⟩

end Go.Proofs.Ytdkfefbllmjnjaa
