/-
  What each function of package poly answers, and what the reference of its chapter answers: one contract a function, for every float: the answer stands in the relation of its formula to what was given; of the memory that was there nothing has turned.
-/
import Derived.Test.YtdeooadeohojcaaGreatVec
import Derived.Test.YtdeooadeohojcaaGreatPb
import Derived.Below
import Derived.WalkKit
import Derived.WalkLawsBesides
import Derived.WalkSpells
import Derived.ProofKit
import Derived.OpenShut
import Derived.Deep.RegionHeld3
namespace Go.Proofs.YtdeooadeohojcaaGreat
open Go.ChangeShapes Go.WideShapes Go.ChangeAt Go.RowKit
set_option linter.unusedVariables false
set_option linter.unusedSimpArgs false


theorem with_none (v : Option Addr) (cap p q : Nat) (w : World) : Calls Tryz.prog 68 #[.slice v 0 cap, .agg #[.float .f64 p, .float .f64 q]] w fun e w' => e = .returned (.int .i64 60) ∧ Bel w w' := by
  go_enter Tryz.func68, Tryz.ntmps68
  go_wp2_with (first | (go_at_call 45; refine (chk_none _ _ (fun _ => 0) (fun _ => 0) _).mono ?_; rintro e w' ⟨rfl, hb⟩))
  go_ret
  refine ⟨rfl, ?_⟩
  repeat (first | exact bl_refl _ | assumption | apply bl_drewN | apply bl_drew | apply bl_alloc | refine bl_set ?_ (by simp <;> omega) | refine bl_trans ?_ (by assumption))
theorem with_d (b off n cap : Nat) (xs ys : Nat → Nat) (w : World) (hs : Sl w b off n xs ys) (o : Oks xs ys n) (hp : 0 < n) (hn : n ≤ maxLen) (hcap : n ≤ cap) (p q : Nat) : Calls Tryz.prog 68 #[.slice (some ⟨b, off, none⟩) n cap, .agg #[.float .f64 p, .float .f64 q]] w fun e w' => e = .returned (.int .i64 (withE xs ys n p q)) ∧ Bel w w' := by
  by_cases hch : chkE xs ys n = 0
  · cases hw : (withinK .f64 p 4787326403894837248 && withinK .f64 q 4787326403894837248)
    all_goals
      go_enter Tryz.func68, Tryz.ntmps68
      go_wp2_with (first | (go_at_call 45; refine (chk_some _ _ _ _ _ _ _ (hs.bel (bl_alloc (bl_refl w) _ _)) o hp hn hcap).mono ?_; rintro e w' ⟨rfl, hb⟩; rw [hch]; have B := hb; obtain ⟨hc, hf⟩ := bcell B; have hz := B.size; (try simp at hz)) | (go_at_call 16; refine (vWithin_any _ _ _ _).mono ?_; rintro e w' ⟨rfl, hb⟩; rw [hw]))
      go_ret
      refine ⟨by unfold withE; rw [if_pos hch, hw]; rfl, ?_⟩
      repeat (first | exact bl_refl _ | assumption | apply bl_drewN | apply bl_drew | apply bl_alloc | refine bl_set ?_ (by simp <;> omega) | refine bl_trans ?_ (by assumption))
  · obtain ⟨v, hv⟩ : ∃ v, chkE xs ys n = v := ⟨_, rfl⟩
    have e0 : withE xs ys n p q = v := by unfold withE; rw [if_neg hch, hv]
    rw [hv] at hch
    go_enter Tryz.func68, Tryz.ntmps68
    go_wp2_with (first | (go_at_call 45; refine (chk_some _ _ _ _ _ _ _ (hs.bel (bl_alloc (bl_refl w) _ _)) o hp hn hcap).mono ?_; rintro e w' ⟨rfl, hb⟩; rw [hv]))
    all_goals
      go_ret
      refine ⟨by rw [e0]; rfl, ?_⟩
      repeat (first | exact bl_refl _ | assumption | apply bl_drewN | apply bl_drew | apply bl_alloc | refine bl_set ?_ (by simp <;> omega) | refine bl_trans ?_ (by assumption))
theorem with_ok {xs ys : Nat → Nat} {n p q : Nat} (o : Oks xs ys n) (op : okK .f64 p) (oq : okK .f64 q) (h : withE xs ys n p q = 0) : chkE xs ys n = 0 ∧ Bd 40 p ∧ Bd 40 q := by
  unfold withE at h
  split at h
  · rename_i hc
    split at h
    · rename_i hw
      rw [Bool.and_eq_true] at hw
      exact ⟨hc, bd_within op hw.1, bd_within oq hw.2⟩
    · cases h
  · contradiction
theorem has_none (v : Option Addr) (cap p q : Nat) (w : World) : Calls Tryz.prog 46 #[.slice v 0 cap, .agg #[.float .f64 p, .float .f64 q]] w fun e w' => e = .returned (.tuple #[.bool false, .int .i64 60]) ∧ Bel w w' := by
  go_enter Tryz.func46, Tryz.ntmps46
  go_wp2_with (first | (go_at_call 68; refine (with_none _ _ _ _ _).mono ?_; rintro e w' ⟨rfl, hb⟩))
  refine bodyPost_ret (v := .tuple #[.bool false, .int .i64 60]) (by simp [results, Tryz.results46, go_sem] <;> (first | exact ⟨⟨rfl, rfl⟩, rfl⟩ | exact ⟨rfl, rfl, rfl, rfl⟩ | exact ⟨rfl, rfl, rfl⟩ | exact ⟨rfl, rfl⟩ | rfl)) rfl ⟨rfl, ?_⟩
  repeat (first | exact bl_refl _ | assumption | apply bl_drewN | apply bl_drew | apply bl_alloc | refine bl_set ?_ (by simp <;> omega) | refine bl_trans ?_ (by assumption))
theorem has_no {xs ys : Nat → Nat} {n k p q : Nat} (h : k < n) (g : ltK .f64 (lnS xs ys n k p q) 0 = true) : hasB xs ys n p q = false := allB_no (f := fun i => !ltK .f64 (lnS xs ys n i p q) 0) h (by simp [g])
def hasV (xs ys : Nat → Nat) (n p q : Nat) : Bool := decide (withE xs ys n p q = 0) && hasB xs ys n p q
set_option maxHeartbeats 1000000 in
theorem has_d (b off n cap : Nat) (xs ys : Nat → Nat) (w : World) (hs : Sl w b off n xs ys) (o : Oks xs ys n) (hp : 0 < n) (hn : n ≤ maxLen) (hcap : n ≤ cap) (p q : Nat) (op : okK .f64 p) (oq : okK .f64 q) : Calls Tryz.prog 46 #[.slice (some ⟨b, off, none⟩) n cap, .agg #[.float .f64 p, .float .f64 q]] w fun e w' => e = .returned (.tuple #[.bool (hasV xs ys n p q), .int .i64 (withE xs ys n p q)]) ∧ Bel w w' := by
  by_cases hz : withE xs ys n p q = 0
  · obtain ⟨hc, b1, b2⟩ := with_ok o op oq hz
    obtain ⟨g, h3, h64, _⟩ := chk_ok o hc
    have c1 := cmp_lt .f64
    have ev : hasV xs ys n p q = hasB xs ys n p q := by unfold hasV; rw [hz]; simp
    go_enter Tryz.func46, Tryz.ntmps46
    go_wp2_with (first | (go_at_call 68; refine (with_d _ _ _ _ _ _ _ (hs.bel (bl_alloc (bl_refl w) _ _)) o hp hn hcap _ _).mono ?_; rintro e w_1 ⟨rfl, hb⟩; rw [hz]; have Bw := hb))
    have B0 : Bel w w_1 := bl_trans (bl_alloc (bl_refl w) _ _) Bw
    go_loopw [16] (fun i' wr => ∃ k : Nat, k ≤ n ∧ i' = .int .i64 k ∧ Bel w wr ∧ wr.cell? ⟨w.heap.size, 0, none⟩ = some (.float .f64 p) ∧ wr.cell? ⟨w.heap.size, 1, none⟩ = some (.float .f64 q) ∧ ∀ i, i < k → ltK .f64 (lnS xs ys n i p q) 0 = false) (fun i' _ => n - (intOf i').toNat)
    case atStart =>
      refine ⟨0, by omega, rfl, B0, ?_, ?_, fun i h => by omega⟩
      all_goals (refine keep Bw ?_; go_keep; try rfl)
    case round =>
      obtain ⟨k, hk, rfl, hB, d0, d1, hq⟩ := hrel
      by_cases hlt : k < n
      · have k1 : (k : Int) < (n : Int) := by omega
        obtain ⟨g1, g2⟩ := g k hlt
        obtain ⟨g3, g4⟩ := wX_bd g hlt
        have hs2 := hs.bel hB
        cases hw : ltK .f64 (lnS xs ys n k p q) 0
        · unfold lnS at hw
          go_wp2
          refine wp_region_multiA 6 (fun i v => match i with | 0 => v = .slice (some ⟨b, off, none⟩) n cap | 1 => v = .int .i64 (k : Int) | 2 => v = .agg #[.float .f64 (xs k), .float .f64 (ys k), .float .f64 (wX xs n k), .float .f64 (wX ys n k)] | 3 => v = .agg #[.float .f64 p, .float .f64 q] | 4 => v = .float .f64 (crK (wX xs n k) (wX ys n k) (Dv .sub p (xs k)) (Dv .sub q (ys k))) | 5 => v = .bool false | _ => False) (fun i => match i with  | _ => none) ?A_wh (by kernel_rfl) (by kernel_rfl) ?hA_wh ?ha_wh ?hq_wh [] rfl ?ht_wh
          case hA_wh =>
            intro s
            simp only [putL, dstO, Act.put, List.getElem?_toArray, List.getElem?_cons_zero, List.getElem?_cons_succ, Option.bind_some, List.setIfInBounds_toArray, List.set_cons_zero, List.set_cons_succ, if_true]
            all_goals exact rfl
          case ha_wh =>
            intro i o ob hi ho hal
            rcases (show i = 0 ∨ i = 1 ∨ i = 2 ∨ i = 3 ∨ i = 4 ∨ i = 5 by omega) with rfl | rfl | rfl | rfl | rfl | rfl
            · cases hal
            · cases hal
            · cases hal
            · cases hal
            · cases hal
            · cases hal
          case hq_wh =>
            intro i o hi ho hal s hs W hb K hK
            have hs3 := hs2.bel hb; have y0 := keep hb d0; have y1 := keep hb d1
            rcases (show i = 0 ∨ i = 1 ∨ i = 2 ∨ i = 3 ∨ i = 4 ∨ i = 5 by omega) with rfl | rfl | rfl | rfl | rfl | rfl
            · cases ho
              simp only [Act.put, List.setIfInBounds_toArray, List.set_cons_zero, List.set_cons_succ] at hK
              clear hs
              go_simp
              all_goals (try go_wp2_with (first | (go_at_call 69; refine (edgeOf_d _ _ _ _ _ _ _ hs3 g _ hlt hn hcap).mono ?_; rintro e w1 ⟨rfl, hb1⟩) | (go_at_call 70; refine (leans_d _ _ _ _ _ _ _ (by with_reducible assumption) (by with_reducible assumption) (by with_reducible assumption) (by with_reducible assumption) (by with_reducible assumption) (by with_reducible assumption)).mono ?_; rintro e w1 ⟨rfl, hb1⟩)))
              all_goals first | exact hK.out _ _ rfl (bl_refl _) | exact hK.out _ _ rfl (by assumption) | exact hK.out _ _ (by assumption) (by assumption)
            · cases ho
              simp only [Act.put, List.setIfInBounds_toArray, List.set_cons_zero, List.set_cons_succ] at hK
              clear hs
              go_simp
              all_goals (try go_wp2_with (first | (go_at_call 69; refine (edgeOf_d _ _ _ _ _ _ _ hs3 g _ hlt hn hcap).mono ?_; rintro e w1 ⟨rfl, hb1⟩) | (go_at_call 70; refine (leans_d _ _ _ _ _ _ _ (by with_reducible assumption) (by with_reducible assumption) (by with_reducible assumption) (by with_reducible assumption) (by with_reducible assumption) (by with_reducible assumption)).mono ?_; rintro e w1 ⟨rfl, hb1⟩)))
              all_goals first | exact hK.out _ _ rfl (bl_refl _) | exact hK.out _ _ rfl (by assumption) | exact hK.out _ _ (by assumption) (by assumption)
            · cases ho
              have e0 : s 0 = _ := hs 0 (by decide) (by kernel_rfl)
              have e1 : s 1 = _ := hs 1 (by decide) (by kernel_rfl)
              simp only [e0, e1] at hK ⊢
              simp only [Act.put, List.setIfInBounds_toArray, List.set_cons_zero, List.set_cons_succ] at hK
              clear hs
              go_simp
              all_goals (try go_wp2_with (first | (go_at_call 69; refine (edgeOf_d _ _ _ _ _ _ _ hs3 g _ hlt hn hcap).mono ?_; rintro e w1 ⟨rfl, hb1⟩) | (go_at_call 70; refine (leans_d _ _ _ _ _ _ _ (by with_reducible assumption) (by with_reducible assumption) (by with_reducible assumption) (by with_reducible assumption) (by with_reducible assumption) (by with_reducible assumption)).mono ?_; rintro e w1 ⟨rfl, hb1⟩)))
              all_goals first | exact hK.out _ _ rfl (bl_refl _) | exact hK.out _ _ rfl (by assumption) | exact hK.out _ _ (by assumption) (by assumption)
            · cases ho
              simp only [Act.put, List.setIfInBounds_toArray, List.set_cons_zero, List.set_cons_succ] at hK
              clear hs
              go_simp
              all_goals (try go_wp2_with (first | (go_at_call 69; refine (edgeOf_d _ _ _ _ _ _ _ hs3 g _ hlt hn hcap).mono ?_; rintro e w1 ⟨rfl, hb1⟩) | (go_at_call 70; refine (leans_d _ _ _ _ _ _ _ (by with_reducible assumption) (by with_reducible assumption) (by with_reducible assumption) (by with_reducible assumption) (by with_reducible assumption) (by with_reducible assumption)).mono ?_; rintro e w1 ⟨rfl, hb1⟩)))
              all_goals first | exact hK.out _ _ rfl (bl_refl _) | exact hK.out _ _ rfl (by assumption) | exact hK.out _ _ (by assumption) (by assumption)
            · cases ho
              have e2 : s 2 = _ := hs 2 (by decide) (by kernel_rfl)
              have e3 : s 3 = _ := hs 3 (by decide) (by kernel_rfl)
              simp only [e2, e3] at hK ⊢
              simp only [Act.put, List.setIfInBounds_toArray, List.set_cons_zero, List.set_cons_succ] at hK
              clear hs
              go_simp
              all_goals (try go_wp2_with (first | (go_at_call 69; refine (edgeOf_d _ _ _ _ _ _ _ hs3 g _ hlt hn hcap).mono ?_; rintro e w1 ⟨rfl, hb1⟩) | (go_at_call 70; refine (leans_d _ _ _ _ _ _ _ (by with_reducible assumption) (by with_reducible assumption) (by with_reducible assumption) (by with_reducible assumption) (by with_reducible assumption) (by with_reducible assumption)).mono ?_; rintro e w1 ⟨rfl, hb1⟩)))
              all_goals first | exact hK.out _ _ rfl (bl_refl _) | exact hK.out _ _ rfl (by assumption) | exact hK.out _ _ (by assumption) (by assumption)
            · cases ho
              have e4 : s 4 = _ := hs 4 (by decide) (by kernel_rfl)
              simp only [e4] at hK ⊢
              simp only [Act.put, List.setIfInBounds_toArray, List.set_cons_zero, List.set_cons_succ] at hK
              clear hs
              go_simp
              all_goals (try go_wp2_with (first | (go_at_call 69; refine (edgeOf_d _ _ _ _ _ _ _ hs3 g _ hlt hn hcap).mono ?_; rintro e w1 ⟨rfl, hb1⟩) | (go_at_call 70; refine (leans_d _ _ _ _ _ _ _ (by with_reducible assumption) (by with_reducible assumption) (by with_reducible assumption) (by with_reducible assumption) (by with_reducible assumption) (by with_reducible assumption)).mono ?_; rintro e w1 ⟨rfl, hb1⟩)))
              all_goals first | exact hK.out _ _ rfl (bl_refl _) | exact hK.out _ _ rfl (by assumption) | exact hK.out _ _ (by assumption) (by assumption)
          case ht_wh =>
            intro s hs W hb hJ
            have e0 : s 0 = _ := hs 0 (by decide)
            have e1 : s 1 = _ := hs 1 (by decide)
            have e2 : s 2 = _ := hs 2 (by decide)
            have e3 : s 3 = _ := hs 3 (by decide)
            have e4 : s 4 = _ := hs 4 (by decide)
            have e5 : s 5 = _ := hs 5 (by decide)
            simp only [e0, e1, e2, e3, e4, e5]
            clear hs
            refine tail_end ?_
            go_wp2
            refine ⟨⟨k + 1, by omega, by go_num, bl_trans hB hb, keep hb d0, keep hb d1, fun i h => ?_⟩, by simp [intOf]; omega⟩
            rcases Nat.lt_or_ge i k with g | g
            · exact hq i g
            · rw [show i = k by omega]; exact hw
        · unfold lnS at hw
          go_wp2
          refine wp_region_multiA 6 (fun i v => match i with | 0 => v = .slice (some ⟨b, off, none⟩) n cap | 1 => v = .int .i64 (k : Int) | 2 => v = .agg #[.float .f64 (xs k), .float .f64 (ys k), .float .f64 (wX xs n k), .float .f64 (wX ys n k)] | 3 => v = .agg #[.float .f64 p, .float .f64 q] | 4 => v = .float .f64 (crK (wX xs n k) (wX ys n k) (Dv .sub p (xs k)) (Dv .sub q (ys k))) | 5 => v = .bool true | _ => False) (fun i => match i with  | _ => none) ?A_wh (by kernel_rfl) (by kernel_rfl) ?hA_wh ?ha_wh ?hq_wh [] rfl ?ht_wh
          case hA_wh =>
            intro s
            simp only [putL, dstO, Act.put, List.getElem?_toArray, List.getElem?_cons_zero, List.getElem?_cons_succ, Option.bind_some, List.setIfInBounds_toArray, List.set_cons_zero, List.set_cons_succ, if_true]
            all_goals exact rfl
          case ha_wh =>
            intro i o ob hi ho hal
            rcases (show i = 0 ∨ i = 1 ∨ i = 2 ∨ i = 3 ∨ i = 4 ∨ i = 5 by omega) with rfl | rfl | rfl | rfl | rfl | rfl
            · cases hal
            · cases hal
            · cases hal
            · cases hal
            · cases hal
            · cases hal
          case hq_wh =>
            intro i o hi ho hal s hs W hb K hK
            have hs3 := hs2.bel hb; have y0 := keep hb d0; have y1 := keep hb d1
            rcases (show i = 0 ∨ i = 1 ∨ i = 2 ∨ i = 3 ∨ i = 4 ∨ i = 5 by omega) with rfl | rfl | rfl | rfl | rfl | rfl
            · cases ho
              simp only [Act.put, List.setIfInBounds_toArray, List.set_cons_zero, List.set_cons_succ] at hK
              clear hs
              go_simp
              all_goals (try go_wp2_with (first | (go_at_call 69; refine (edgeOf_d _ _ _ _ _ _ _ hs3 g _ hlt hn hcap).mono ?_; rintro e w1 ⟨rfl, hb1⟩) | (go_at_call 70; refine (leans_d _ _ _ _ _ _ _ (by with_reducible assumption) (by with_reducible assumption) (by with_reducible assumption) (by with_reducible assumption) (by with_reducible assumption) (by with_reducible assumption)).mono ?_; rintro e w1 ⟨rfl, hb1⟩)))
              all_goals first | exact hK.out _ _ rfl (bl_refl _) | exact hK.out _ _ rfl (by assumption) | exact hK.out _ _ (by assumption) (by assumption)
            · cases ho
              simp only [Act.put, List.setIfInBounds_toArray, List.set_cons_zero, List.set_cons_succ] at hK
              clear hs
              go_simp
              all_goals (try go_wp2_with (first | (go_at_call 69; refine (edgeOf_d _ _ _ _ _ _ _ hs3 g _ hlt hn hcap).mono ?_; rintro e w1 ⟨rfl, hb1⟩) | (go_at_call 70; refine (leans_d _ _ _ _ _ _ _ (by with_reducible assumption) (by with_reducible assumption) (by with_reducible assumption) (by with_reducible assumption) (by with_reducible assumption) (by with_reducible assumption)).mono ?_; rintro e w1 ⟨rfl, hb1⟩)))
              all_goals first | exact hK.out _ _ rfl (bl_refl _) | exact hK.out _ _ rfl (by assumption) | exact hK.out _ _ (by assumption) (by assumption)
            · cases ho
              have e0 : s 0 = _ := hs 0 (by decide) (by kernel_rfl)
              have e1 : s 1 = _ := hs 1 (by decide) (by kernel_rfl)
              simp only [e0, e1] at hK ⊢
              simp only [Act.put, List.setIfInBounds_toArray, List.set_cons_zero, List.set_cons_succ] at hK
              clear hs
              go_simp
              all_goals (try go_wp2_with (first | (go_at_call 69; refine (edgeOf_d _ _ _ _ _ _ _ hs3 g _ hlt hn hcap).mono ?_; rintro e w1 ⟨rfl, hb1⟩) | (go_at_call 70; refine (leans_d _ _ _ _ _ _ _ (by with_reducible assumption) (by with_reducible assumption) (by with_reducible assumption) (by with_reducible assumption) (by with_reducible assumption) (by with_reducible assumption)).mono ?_; rintro e w1 ⟨rfl, hb1⟩)))
              all_goals first | exact hK.out _ _ rfl (bl_refl _) | exact hK.out _ _ rfl (by assumption) | exact hK.out _ _ (by assumption) (by assumption)
            · cases ho
              simp only [Act.put, List.setIfInBounds_toArray, List.set_cons_zero, List.set_cons_succ] at hK
              clear hs
              go_simp
              all_goals (try go_wp2_with (first | (go_at_call 69; refine (edgeOf_d _ _ _ _ _ _ _ hs3 g _ hlt hn hcap).mono ?_; rintro e w1 ⟨rfl, hb1⟩) | (go_at_call 70; refine (leans_d _ _ _ _ _ _ _ (by with_reducible assumption) (by with_reducible assumption) (by with_reducible assumption) (by with_reducible assumption) (by with_reducible assumption) (by with_reducible assumption)).mono ?_; rintro e w1 ⟨rfl, hb1⟩)))
              all_goals first | exact hK.out _ _ rfl (bl_refl _) | exact hK.out _ _ rfl (by assumption) | exact hK.out _ _ (by assumption) (by assumption)
            · cases ho
              have e2 : s 2 = _ := hs 2 (by decide) (by kernel_rfl)
              have e3 : s 3 = _ := hs 3 (by decide) (by kernel_rfl)
              simp only [e2, e3] at hK ⊢
              simp only [Act.put, List.setIfInBounds_toArray, List.set_cons_zero, List.set_cons_succ] at hK
              clear hs
              go_simp
              all_goals (try go_wp2_with (first | (go_at_call 69; refine (edgeOf_d _ _ _ _ _ _ _ hs3 g _ hlt hn hcap).mono ?_; rintro e w1 ⟨rfl, hb1⟩) | (go_at_call 70; refine (leans_d _ _ _ _ _ _ _ (by with_reducible assumption) (by with_reducible assumption) (by with_reducible assumption) (by with_reducible assumption) (by with_reducible assumption) (by with_reducible assumption)).mono ?_; rintro e w1 ⟨rfl, hb1⟩)))
              all_goals first | exact hK.out _ _ rfl (bl_refl _) | exact hK.out _ _ rfl (by assumption) | exact hK.out _ _ (by assumption) (by assumption)
            · cases ho
              have e4 : s 4 = _ := hs 4 (by decide) (by kernel_rfl)
              simp only [e4] at hK ⊢
              simp only [Act.put, List.setIfInBounds_toArray, List.set_cons_zero, List.set_cons_succ] at hK
              clear hs
              go_simp
              all_goals (try go_wp2_with (first | (go_at_call 69; refine (edgeOf_d _ _ _ _ _ _ _ hs3 g _ hlt hn hcap).mono ?_; rintro e w1 ⟨rfl, hb1⟩) | (go_at_call 70; refine (leans_d _ _ _ _ _ _ _ (by with_reducible assumption) (by with_reducible assumption) (by with_reducible assumption) (by with_reducible assumption) (by with_reducible assumption) (by with_reducible assumption)).mono ?_; rintro e w1 ⟨rfl, hb1⟩)))
              all_goals first | exact hK.out _ _ rfl (bl_refl _) | exact hK.out _ _ rfl (by assumption) | exact hK.out _ _ (by assumption) (by assumption)
          case ht_wh =>
            intro s hs W hb hJ
            have e0 : s 0 = _ := hs 0 (by decide)
            have e1 : s 1 = _ := hs 1 (by decide)
            have e2 : s 2 = _ := hs 2 (by decide)
            have e3 : s 3 = _ := hs 3 (by decide)
            have e4 : s 4 = _ := hs 4 (by decide)
            have e5 : s 5 = _ := hs 5 (by decide)
            simp only [e0, e1, e2, e3, e4, e5]
            clear hs
            refine tail_end ?_
            go_wp2
            refine bodyPost_ret (v := .tuple #[.bool false, .int .i64 0]) (by simp [results, Tryz.results46, go_sem] <;> (first | exact ⟨⟨rfl, rfl⟩, rfl⟩ | exact ⟨rfl, rfl, rfl, rfl⟩ | exact ⟨rfl, rfl, rfl⟩ | exact ⟨rfl, rfl⟩ | rfl)) rfl ⟨by (try rw [ev, hz]); rw [has_no (xs := xs) (ys := ys) (p := p) (q := q) hlt hw], bl_trans hB hb⟩
      · have hkn : k = n := by omega
        subst hkn
        go_wp2
        refine bodyPost_ret (v := .tuple #[.bool true, .int .i64 0]) (by simp [results, Tryz.results46, go_sem] <;> (first | exact ⟨⟨rfl, rfl⟩, rfl⟩ | exact ⟨rfl, rfl, rfl, rfl⟩ | exact ⟨rfl, rfl, rfl⟩ | exact ⟨rfl, rfl⟩ | rfl)) rfl ⟨by rw [ev, hz]; unfold hasB; rw [allB_iff.2 (fun i hi => by rw [hq i hi]; rfl)], hB⟩
  · obtain ⟨v, hv⟩ : ∃ v, withE xs ys n p q = v := ⟨_, rfl⟩
    rw [hv] at hz
    go_enter Tryz.func46, Tryz.ntmps46
    go_wp2_with (first | (go_at_call 68; refine (with_d _ _ _ _ _ _ _ (hs.bel (bl_alloc (bl_refl w) _ _)) o hp hn hcap _ _).mono ?_; rintro e w' ⟨rfl, hb⟩; rw [hv]))
    all_goals
      refine bodyPost_ret (v := .tuple #[.bool false, .int .i64 v]) (by simp [results, Tryz.results46, go_sem] <;> (first | exact ⟨⟨rfl, rfl⟩, rfl⟩ | exact ⟨rfl, rfl, rfl, rfl⟩ | exact ⟨rfl, rfl, rfl⟩ | exact ⟨rfl, rfl⟩ | rfl)) rfl ⟨by unfold hasV; rw [hv]; simp [hz], ?_⟩
      repeat (first | exact bl_refl _ | assumption | apply bl_drewN | apply bl_drew | apply bl_alloc | refine bl_set ?_ (by simp <;> omega) | refine bl_trans ?_ (by assumption))
end Go.Proofs.YtdeooadeohojcaaGreat
