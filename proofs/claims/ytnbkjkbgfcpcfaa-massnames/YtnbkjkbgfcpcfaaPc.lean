/-
  What each function of package poly answers, and what the reference of its chapter answers: one contract a function, for every float: the answer stands in the relation of its formula to what was given; of the memory that was there nothing has turned.
-/
import Derived.Test.YtnbkjkbgfcpcfaaVec
import Derived.Test.YtnbkjkbgfcpcfaaPb
import Derived.Below
import Derived.WalkKit
import Derived.WalkLawsBesides
import Derived.WalkSpells
import Derived.ProofKit
import Derived.OpenShut
import Derived.Deep.RegionHeld3
namespace Go.Proofs.Ytnbkjkbgfcpcfaa
open Go.ChangeShapes Go.WideShapes Go.ChangeAt Go.RowKit
set_option linter.unusedVariables false
set_option linter.unusedSimpArgs false


theorem with_none (v : Option Addr) (cap p q : Nat) (w : World) : Calls Try.prog 78 #[.slice v 0 cap, .agg #[.float .f64 p, .float .f64 q]] w fun e w' => e = .returned (.int .i64 60) ∧ Bel w w' := by
  go_enter Try.func78, Try.ntmps78
  go_wp2_with (first | (go_at_call 33; refine (chk_none _ _ (fun _ => 0) (fun _ => 0) _).mono ?_; rintro e w' ⟨rfl, hb⟩))
  go_ret
  refine ⟨rfl, ?_⟩
  repeat (first | exact bl_refl _ | assumption | apply bl_drewN | apply bl_drew | apply bl_alloc | refine bl_set ?_ (by simp <;> omega) | refine bl_trans ?_ (by assumption))
theorem with_d (b off n cap : Nat) (xs ys : Nat → Nat) (w : World) (hs : Sl w b off n xs ys) (o : Oks xs ys n) (hp : 0 < n) (hn : n ≤ maxLen) (hcap : n ≤ cap) (p q : Nat) : Calls Try.prog 78 #[.slice (some ⟨b, off, none⟩) n cap, .agg #[.float .f64 p, .float .f64 q]] w fun e w' => e = .returned (.int .i64 (withE xs ys n p q)) ∧ Bel w w' := by
  by_cases hch : chkE xs ys n = 0
  · cases hw : (withinK .f64 p 4787326403894837248 && withinK .f64 q 4787326403894837248)
    all_goals
      go_enter Try.func78, Try.ntmps78
      go_wp2_with (first | (go_at_call 33; refine (chk_some _ _ _ _ _ _ _ (hs.bel (bl_alloc (bl_refl w) _ _)) o hp hn hcap).mono ?_; rintro e w' ⟨rfl, hb⟩; rw [hch]; have B := hb; obtain ⟨hc, hf⟩ := bcell B; have hz := B.size; (try simp at hz)) | (go_at_call 49; refine (vWithin_any _ _ _ _).mono ?_; rintro e w' ⟨rfl, hb⟩; rw [hw]))
      go_ret
      refine ⟨by unfold withE; rw [if_pos hch, hw]; rfl, ?_⟩
      repeat (first | exact bl_refl _ | assumption | apply bl_drewN | apply bl_drew | apply bl_alloc | refine bl_set ?_ (by simp <;> omega) | refine bl_trans ?_ (by assumption))
  · obtain ⟨v, hv⟩ : ∃ v, chkE xs ys n = v := ⟨_, rfl⟩
    have e0 : withE xs ys n p q = v := by unfold withE; rw [if_neg hch, hv]
    rw [hv] at hch
    go_enter Try.func78, Try.ntmps78
    go_wp2_with (first | (go_at_call 33; refine (chk_some _ _ _ _ _ _ _ (hs.bel (bl_alloc (bl_refl w) _ _)) o hp hn hcap).mono ?_; rintro e w' ⟨rfl, hb⟩; rw [hv]))
    all_goals
      go_ret
      refine ⟨by rw [e0]; rfl, ?_⟩
      repeat (first | exact bl_refl _ | assumption | apply bl_drewN | apply bl_drew | apply bl_alloc | refine bl_set ?_ (by simp <;> omega) | refine bl_trans ?_ (by assumption))
theorem with_ok {xs ys : Nat → Nat} {n p q : Nat} (o : Oks xs ys n) (op : okK .f64 p) (oq : okK .f64 q) (h : withE xs ys n p q = 0) : chkE xs ys n = 0 ∧ Bd 40 p ∧ Bd 40 q := by
  unfold withE at h
  split at h
  · rename_i hc
    split at h
    · rename_i hw
      rw [Bool.and_eq_true] at hw
      exact ⟨hc, bd_within op hw.1, bd_within oq hw.2⟩
    · cases h
  · contradiction
theorem has_none (v : Option Addr) (cap p q : Nat) (w : World) : Calls Try.prog 32 #[.slice v 0 cap, .agg #[.float .f64 p, .float .f64 q]] w fun e w' => e = .returned (.tuple #[.bool false, .int .i64 60]) ∧ Bel w w' := by
  go_enter Try.func32, Try.ntmps32
  go_wp2_with (first | (go_at_call 78; refine (with_none _ _ _ _ _).mono ?_; rintro e w' ⟨rfl, hb⟩))
  refine bodyPost_ret (v := .tuple #[.bool false, .int .i64 60]) (by simp [results, Try.results32, go_sem] <;> (first | exact ⟨⟨rfl, rfl⟩, rfl⟩ | exact ⟨rfl, rfl, rfl, rfl⟩ | exact ⟨rfl, rfl, rfl⟩ | exact ⟨rfl, rfl⟩ | rfl)) rfl ⟨rfl, ?_⟩
  repeat (first | exact bl_refl _ | assumption | apply bl_drewN | apply bl_drew | apply bl_alloc | refine bl_set ?_ (by simp <;> omega) | refine bl_trans ?_ (by assumption))
theorem has_no {xs ys : Nat → Nat} {n k p q : Nat} (h : k < n) (g : ltK .f64 (lnS xs ys n k p q) 0 = true) : hasB xs ys n p q = false := allB_no (f := fun i => !ltK .f64 (lnS xs ys n i p q) 0) h (by simp [g])
def hasV (xs ys : Nat → Nat) (n p q : Nat) : Bool := decide (withE xs ys n p q = 0) && hasB xs ys n p q
set_option maxHeartbeats 1000000 in
theorem has_d (b off n cap : Nat) (xs ys : Nat → Nat) (w : World) (hs : Sl w b off n xs ys) (o : Oks xs ys n) (hp : 0 < n) (hn : n ≤ maxLen) (hcap : n ≤ cap) (p q : Nat) (op : okK .f64 p) (oq : okK .f64 q) : Calls Try.prog 32 #[.slice (some ⟨b, off, none⟩) n cap, .agg #[.float .f64 p, .float .f64 q]] w fun e w' => e = .returned (.tuple #[.bool (hasV xs ys n p q), .int .i64 (withE xs ys n p q)]) ∧ Bel w w' := by
  by_cases hz : withE xs ys n p q = 0
  · obtain ⟨hc, b1, b2⟩ := with_ok o op oq hz
    obtain ⟨g, h3, h64, _⟩ := chk_ok o hc
    have c1 := cmp_lt .f64
    have ev : hasV xs ys n p q = hasB xs ys n p q := by unfold hasV; rw [hz]; simp
    go_enter Try.func32, Try.ntmps32
    go_wp2_with (first | (go_at_call 78; refine (with_d _ _ _ _ _ _ _ (hs.bel (bl_alloc (bl_refl w) _ _)) o hp hn hcap _ _).mono ?_; rintro e w_1 ⟨rfl, hb⟩; rw [hz]; have Bw := hb))
    have B0 : Bel w w_1 := bl_trans (bl_alloc (bl_refl w) _ _) Bw
    go_loopw [16] (fun i' wr => ∃ k : Nat, k ≤ n ∧ i' = .int .i64 k ∧ Bel w wr ∧ wr.cell? ⟨w.heap.size, 0, none⟩ = some (.float .f64 p) ∧ wr.cell? ⟨w.heap.size, 1, none⟩ = some (.float .f64 q) ∧ ∀ i, i < k → ltK .f64 (lnS xs ys n i p q) 0 = false) (fun i' _ => n - (intOf i').toNat)
    case atStart =>
      refine ⟨0, by omega, rfl, B0, ?_, ?_, fun i h => by omega⟩
      all_goals (refine keep Bw ?_; go_keep; try rfl)
    case round =>
      obtain ⟨k, hk, rfl, hB, d0, d1, hq⟩ := hrel
      by_cases hlt : k < n
      · have k1 : (k : Int) < (n : Int) := by omega
        obtain ⟨g1, g2⟩ := g k hlt
        obtain ⟨g3, g4⟩ := wX_bd g hlt
        have hs2 := hs.bel hB
        cases hw : ltK .f64 (lnS xs ys n k p q) 0
        · unfold lnS at hw
          go_wp2
          refine wp_region_multiA 6 (fun i v => match i with | 0 => v = .slice (some ⟨b, off, none⟩) n cap | 1 => v = .int .i64 (k : Int) | 2 => v = .agg #[.float .f64 (xs k), .float .f64 (ys k), .float .f64 (wX xs n k), .float .f64 (wX ys n k)] | 3 => v = .agg #[.float .f64 p, .float .f64 q] | 4 => v = .float .f64 (crK (wX xs n k) (wX ys n k) (Dv .sub p (xs k)) (Dv .sub q (ys k))) | 5 => v = .bool false | _ => False) (fun i => match i with  | _ => none) ?A_wh (by kernel_rfl) (by kernel_rfl) ?hA_wh ?ha_wh ?hq_wh [] rfl ?ht_wh
          case hA_wh =>
            intro s
            simp only [putL, dstO, Act.put, List.getElem?_toArray, List.getElem?_cons_zero, List.getElem?_cons_succ, Option.bind_some, List.setIfInBounds_toArray, List.set_cons_zero, List.set_cons_succ, if_true]
            all_goals exact rfl
          case ha_wh =>
            intro i o ob hi ho hal
            rcases (show i = 0 ∨ i = 1 ∨ i = 2 ∨ i = 3 ∨ i = 4 ∨ i = 5 by omega) with rfl | rfl | rfl | rfl | rfl | rfl
            · cases hal
            · cases hal
            · cases hal
            · cases hal
            · cases hal
            · cases hal
          case hq_wh =>
            intro i o hi ho hal s hs W hb K hK
            have hs3 := hs2.bel hb; have y0 := keep hb d0; have y1 := keep hb d1
            rcases (show i = 0 ∨ i = 1 ∨ i = 2 ∨ i = 3 ∨ i = 4 ∨ i = 5 by omega) with rfl | rfl | rfl | rfl | rfl | rfl
            · cases ho
              simp only [Act.put, List.setIfInBounds_toArray, List.set_cons_zero, List.set_cons_succ] at hK
              clear hs
              go_simp
              all_goals (try go_wp2_with (first | (go_at_call 77; refine (edgeOf_d _ _ _ _ _ _ _ hs3 g _ hlt hn hcap).mono ?_; rintro e w1 ⟨rfl, hb1⟩) | (go_at_call 79; refine (leans_d _ _ _ _ _ _ _ (by with_reducible assumption) (by with_reducible assumption) (by with_reducible assumption) (by with_reducible assumption) (by with_reducible assumption) (by with_reducible assumption)).mono ?_; rintro e w1 ⟨rfl, hb1⟩)))
              all_goals first | exact hK.out _ _ rfl (bl_refl _) | exact hK.out _ _ rfl (by assumption) | exact hK.out _ _ (by assumption) (by assumption)
            · cases ho
              simp only [Act.put, List.setIfInBounds_toArray, List.set_cons_zero, List.set_cons_succ] at hK
              clear hs
              go_simp
              all_goals (try go_wp2_with (first | (go_at_call 77; refine (edgeOf_d _ _ _ _ _ _ _ hs3 g _ hlt hn hcap).mono ?_; rintro e w1 ⟨rfl, hb1⟩) | (go_at_call 79; refine (leans_d _ _ _ _ _ _ _ (by with_reducible assumption) (by with_reducible assumption) (by with_reducible assumption) (by with_reducible assumption) (by with_reducible assumption) (by with_reducible assumption)).mono ?_; rintro e w1 ⟨rfl, hb1⟩)))
              all_goals first | exact hK.out _ _ rfl (bl_refl _) | exact hK.out _ _ rfl (by assumption) | exact hK.out _ _ (by assumption) (by assumption)
            · cases ho
              have e0 : s 0 = _ := hs 0 (by decide) (by kernel_rfl)
              have e1 : s 1 = _ := hs 1 (by decide) (by kernel_rfl)
              simp only [e0, e1] at hK ⊢
              simp only [Act.put, List.setIfInBounds_toArray, List.set_cons_zero, List.set_cons_succ] at hK
              clear hs
              go_simp
              all_goals (try go_wp2_with (first | (go_at_call 77; refine (edgeOf_d _ _ _ _ _ _ _ hs3 g _ hlt hn hcap).mono ?_; rintro e w1 ⟨rfl, hb1⟩) | (go_at_call 79; refine (leans_d _ _ _ _ _ _ _ (by with_reducible assumption) (by with_reducible assumption) (by with_reducible assumption) (by with_reducible assumption) (by with_reducible assumption) (by with_reducible assumption)).mono ?_; rintro e w1 ⟨rfl, hb1⟩)))
              all_goals first | exact hK.out _ _ rfl (bl_refl _) | exact hK.out _ _ rfl (by assumption) | exact hK.out _ _ (by assumption) (by assumption)
            · cases ho
              simp only [Act.put, List.setIfInBounds_toArray, List.set_cons_zero, List.set_cons_succ] at hK
              clear hs
              go_simp
              all_goals (try go_wp2_with (first | (go_at_call 77; refine (edgeOf_d _ _ _ _ _ _ _ hs3 g _ hlt hn hcap).mono ?_; rintro e w1 ⟨rfl, hb1⟩) | (go_at_call 79; refine (leans_d _ _ _ _ _ _ _ (by with_reducible assumption) (by with_reducible assumption) (by with_reducible assumption) (by with_reducible assumption) (by with_reducible assumption) (by with_reducible assumption)).mono ?_; rintro e w1 ⟨rfl, hb1⟩)))
              all_goals first | exact hK.out _ _ rfl (bl_refl _) | exact hK.out _ _ rfl (by assumption) | exact hK.out _ _ (by assumption) (by assumption)
            · cases ho
              have e2 : s 2 = _ := hs 2 (by decide) (by kernel_rfl)
              have e3 : s 3 = _ := hs 3 (by decide) (by kernel_rfl)
              simp only [e2, e3] at hK ⊢
              simp only [Act.put, List.setIfInBounds_toArray, List.set_cons_zero, List.set_cons_succ] at hK
              clear hs
              go_simp
              all_goals (try go_wp2_with (first | (go_at_call 77; refine (edgeOf_d _ _ _ _ _ _ _ hs3 g _ hlt hn hcap).mono ?_; rintro e w1 ⟨rfl, hb1⟩) | (go_at_call 79; refine (leans_d _ _ _ _ _ _ _ (by with_reducible assumption) (by with_reducible assumption) (by with_reducible assumption) (by with_reducible assumption) (by with_reducible assumption) (by with_reducible assumption)).mono ?_; rintro e w1 ⟨rfl, hb1⟩)))
              all_goals first | exact hK.out _ _ rfl (bl_refl _) | exact hK.out _ _ rfl (by assumption) | exact hK.out _ _ (by assumption) (by assumption)
            · cases ho
              have e4 : s 4 = _ := hs 4 (by decide) (by kernel_rfl)
              simp only [e4] at hK ⊢
              simp only [Act.put, List.setIfInBounds_toArray, List.set_cons_zero, List.set_cons_succ] at hK
              clear hs
              go_simp
              all_goals (try go_wp2_with (first | (go_at_call 77; refine (edgeOf_d _ _ _ _ _ _ _ hs3 g _ hlt hn hcap).mono ?_; rintro e w1 ⟨rfl, hb1⟩) | (go_at_call 79; refine (leans_d _ _ _ _ _ _ _ (by with_reducible assumption) (by with_reducible assumption) (by with_reducible assumption) (by with_reducible assumption) (by with_reducible assumption) (by with_reducible assumption)).mono ?_; rintro e w1 ⟨rfl, hb1⟩)))
              all_goals first | exact hK.out _ _ rfl (bl_refl _) | exact hK.out _ _ rfl (by assumption) | exact hK.out _ _ (by assumption) (by assumption)
          case ht_wh =>
            intro s hs W hb hJ
            have e0 : s 0 = _ := hs 0 (by decide)
            have e1 : s 1 = _ := hs 1 (by decide)
            have e2 : s 2 = _ := hs 2 (by decide)
            have e3 : s 3 = _ := hs 3 (by decide)
            have e4 : s 4 = _ := hs 4 (by decide)
            have e5 : s 5 = _ := hs 5 (by decide)
            simp only [e0, e1, e2, e3, e4, e5]
            clear hs
            refine tail_end ?_
            go_wp2
            refine ⟨⟨k + 1, by omega, by go_num, bl_trans hB hb, keep hb d0, keep hb d1, fun i h => ?_⟩, by simp [intOf]; omega⟩
            rcases Nat.lt_or_ge i k with g | g
            · exact hq i g
            · rw [show i = k by omega]; exact hw
        · unfold lnS at hw
          go_wp2
          refine wp_region_multiA 6 (fun i v => match i with | 0 => v = .slice (some ⟨b, off, none⟩) n cap | 1 => v = .int .i64 (k : Int) | 2 => v = .agg #[.float .f64 (xs k), .float .f64 (ys k), .float .f64 (wX xs n k), .float .f64 (wX ys n k)] | 3 => v = .agg #[.float .f64 p, .float .f64 q] | 4 => v = .float .f64 (crK (wX xs n k) (wX ys n k) (Dv .sub p (xs k)) (Dv .sub q (ys k))) | 5 => v = .bool true | _ => False) (fun i => match i with  | _ => none) ?A_wh (by kernel_rfl) (by kernel_rfl) ?hA_wh ?ha_wh ?hq_wh [] rfl ?ht_wh
          case hA_wh =>
            intro s
            simp only [putL, dstO, Act.put, List.getElem?_toArray, List.getElem?_cons_zero, List.getElem?_cons_succ, Option.bind_some, List.setIfInBounds_toArray, List.set_cons_zero, List.set_cons_succ, if_true]
            all_goals exact rfl
          case ha_wh =>
            intro i o ob hi ho hal
            rcases (show i = 0 ∨ i = 1 ∨ i = 2 ∨ i = 3 ∨ i = 4 ∨ i = 5 by omega) with rfl | rfl | rfl | rfl | rfl | rfl
            · cases hal
            · cases hal
            · cases hal
            · cases hal
            · cases hal
            · cases hal
          case hq_wh =>
            intro i o hi ho hal s hs W hb K hK
            have hs3 := hs2.bel hb; have y0 := keep hb d0; have y1 := keep hb d1
            rcases (show i = 0 ∨ i = 1 ∨ i = 2 ∨ i = 3 ∨ i = 4 ∨ i = 5 by omega) with rfl | rfl | rfl | rfl | rfl | rfl
            · cases ho
              simp only [Act.put, List.setIfInBounds_toArray, List.set_cons_zero, List.set_cons_succ] at hK
              clear hs
              go_simp
              all_goals (try go_wp2_with (first | (go_at_call 77; refine (edgeOf_d _ _ _ _ _ _ _ hs3 g _ hlt hn hcap).mono ?_; rintro e w1 ⟨rfl, hb1⟩) | (go_at_call 79; refine (leans_d _ _ _ _ _ _ _ (by with_reducible assumption) (by with_reducible assumption) (by with_reducible assumption) (by with_reducible assumption) (by with_reducible assumption) (by with_reducible assumption)).mono ?_; rintro e w1 ⟨rfl, hb1⟩)))
              all_goals first | exact hK.out _ _ rfl (bl_refl _) | exact hK.out _ _ rfl (by assumption) | exact hK.out _ _ (by assumption) (by assumption)
            · cases ho
              simp only [Act.put, List.setIfInBounds_toArray, List.set_cons_zero, List.set_cons_succ] at hK
              clear hs
              go_simp
              all_goals (try go_wp2_with (first | (go_at_call 77; refine (edgeOf_d _ _ _ _ _ _ _ hs3 g _ hlt hn hcap).mono ?_; rintro e w1 ⟨rfl, hb1⟩) | (go_at_call 79; refine (leans_d _ _ _ _ _ _ _ (by with_reducible assumption) (by with_reducible assumption) (by with_reducible assumption) (by with_reducible assumption) (by with_reducible assumption) (by with_reducible assumption)).mono ?_; rintro e w1 ⟨rfl, hb1⟩)))
              all_goals first | exact hK.out _ _ rfl (bl_refl _) | exact hK.out _ _ rfl (by assumption) | exact hK.out _ _ (by assumption) (by assumption)
            · cases ho
              have e0 : s 0 = _ := hs 0 (by decide) (by kernel_rfl)
              have e1 : s 1 = _ := hs 1 (by decide) (by kernel_rfl)
              simp only [e0, e1] at hK ⊢
              simp only [Act.put, List.setIfInBounds_toArray, List.set_cons_zero, List.set_cons_succ] at hK
              clear hs
              go_simp
              all_goals (try go_wp2_with (first | (go_at_call 77; refine (edgeOf_d _ _ _ _ _ _ _ hs3 g _ hlt hn hcap).mono ?_; rintro e w1 ⟨rfl, hb1⟩) | (go_at_call 79; refine (leans_d _ _ _ _ _ _ _ (by with_reducible assumption) (by with_reducible assumption) (by with_reducible assumption) (by with_reducible assumption) (by with_reducible assumption) (by with_reducible assumption)).mono ?_; rintro e w1 ⟨rfl, hb1⟩)))
              all_goals first | exact hK.out _ _ rfl (bl_refl _) | exact hK.out _ _ rfl (by assumption) | exact hK.out _ _ (by assumption) (by assumption)
            · cases ho
              simp only [Act.put, List.setIfInBounds_toArray, List.set_cons_zero, List.set_cons_succ] at hK
              clear hs
              go_simp
              all_goals (try go_wp2_with (first | (go_at_call 77; refine (edgeOf_d _ _ _ _ _ _ _ hs3 g _ hlt hn hcap).mono ?_; rintro e w1 ⟨rfl, hb1⟩) | (go_at_call 79; refine (leans_d _ _ _ _ _ _ _ (by with_reducible assumption) (by with_reducible assumption) (by with_reducible assumption) (by with_reducible assumption) (by with_reducible assumption) (by with_reducible assumption)).mono ?_; rintro e w1 ⟨rfl, hb1⟩)))
              all_goals first | exact hK.out _ _ rfl (bl_refl _) | exact hK.out _ _ rfl (by assumption) | exact hK.out _ _ (by assumption) (by assumption)
            · cases ho
              have e2 : s 2 = _ := hs 2 (by decide) (by kernel_rfl)
              have e3 : s 3 = _ := hs 3 (by decide) (by kernel_rfl)
              simp only [e2, e3] at hK ⊢
              simp only [Act.put, List.setIfInBounds_toArray, List.set_cons_zero, List.set_cons_succ] at hK
              clear hs
              go_simp
              all_goals (try go_wp2_with (first | (go_at_call 77; refine (edgeOf_d _ _ _ _ _ _ _ hs3 g _ hlt hn hcap).mono ?_; rintro e w1 ⟨rfl, hb1⟩) | (go_at_call 79; refine (leans_d _ _ _ _ _ _ _ (by with_reducible assumption) (by with_reducible assumption) (by with_reducible assumption) (by with_reducible assumption) (by with_reducible assumption) (by with_reducible assumption)).mono ?_; rintro e w1 ⟨rfl, hb1⟩)))
              all_goals first | exact hK.out _ _ rfl (bl_refl _) | exact hK.out _ _ rfl (by assumption) | exact hK.out _ _ (by assumption) (by assumption)
            · cases ho
              have e4 : s 4 = _ := hs 4 (by decide) (by kernel_rfl)
              simp only [e4] at hK ⊢
              simp only [Act.put, List.setIfInBounds_toArray, List.set_cons_zero, List.set_cons_succ] at hK
              clear hs
              go_simp
              all_goals (try go_wp2_with (first | (go_at_call 77; refine (edgeOf_d _ _ _ _ _ _ _ hs3 g _ hlt hn hcap).mono ?_; rintro e w1 ⟨rfl, hb1⟩) | (go_at_call 79; refine (leans_d _ _ _ _ _ _ _ (by with_reducible assumption) (by with_reducible assumption) (by with_reducible assumption) (by with_reducible assumption) (by with_reducible assumption) (by with_reducible assumption)).mono ?_; rintro e w1 ⟨rfl, hb1⟩)))
              all_goals first | exact hK.out _ _ rfl (bl_refl _) | exact hK.out _ _ rfl (by assumption) | exact hK.out _ _ (by assumption) (by assumption)
          case ht_wh =>
            intro s hs W hb hJ
            have e0 : s 0 = _ := hs 0 (by decide)
            have e1 : s 1 = _ := hs 1 (by decide)
            have e2 : s 2 = _ := hs 2 (by decide)
            have e3 : s 3 = _ := hs 3 (by decide)
            have e4 : s 4 = _ := hs 4 (by decide)
            have e5 : s 5 = _ := hs 5 (by decide)
            simp only [e0, e1, e2, e3, e4, e5]
            clear hs
            refine tail_end ?_
            go_wp2
            refine bodyPost_ret (v := .tuple #[.bool false, .int .i64 0]) (by simp [results, Try.results32, go_sem] <;> (first | exact ⟨⟨rfl, rfl⟩, rfl⟩ | exact ⟨rfl, rfl, rfl, rfl⟩ | exact ⟨rfl, rfl, rfl⟩ | exact ⟨rfl, rfl⟩ | rfl)) rfl ⟨by (try rw [ev, hz]); rw [has_no (xs := xs) (ys := ys) (p := p) (q := q) hlt hw], bl_trans hB hb⟩
      · have hkn : k = n := by omega
        subst hkn
        go_wp2
        refine bodyPost_ret (v := .tuple #[.bool true, .int .i64 0]) (by simp [results, Try.results32, go_sem] <;> (first | exact ⟨⟨rfl, rfl⟩, rfl⟩ | exact ⟨rfl, rfl, rfl, rfl⟩ | exact ⟨rfl, rfl, rfl⟩ | exact ⟨rfl, rfl⟩ | rfl)) rfl ⟨by rw [ev, hz]; unfold hasB; rw [allB_iff.2 (fun i hi => by rw [hq i hi]; rfl)], hB⟩
  · obtain ⟨v, hv⟩ : ∃ v, withE xs ys n p q = v := ⟨_, rfl⟩
    rw [hv] at hz
    go_enter Try.func32, Try.ntmps32
    go_wp2_with (first | (go_at_call 78; refine (with_d _ _ _ _ _ _ _ (hs.bel (bl_alloc (bl_refl w) _ _)) o hp hn hcap _ _).mono ?_; rintro e w' ⟨rfl, hb⟩; rw [hv]))
    all_goals
      refine bodyPost_ret (v := .tuple #[.bool false, .int .i64 v]) (by simp [results, Try.results32, go_sem] <;> (first | exact ⟨⟨rfl, rfl⟩, rfl⟩ | exact ⟨rfl, rfl, rfl, rfl⟩ | exact ⟨rfl, rfl, rfl⟩ | exact ⟨rfl, rfl⟩ | rfl)) rfl ⟨by unfold hasV; rw [hv]; simp [hz], ?_⟩
      repeat (first | exact bl_refl _ | assumption | apply bl_drewN | apply bl_drew | apply bl_alloc | refine bl_set ?_ (by simp <;> omega) | refine bl_trans ?_ (by assumption))
theorem far_none (v : Option Addr) (cap p q : Nat) (w : World) : Calls Try.prog 171 #[.slice v 0 cap, .agg #[.float .f64 p, .float .f64 q]] w fun e w' => e = .returned (.tuple #[.int .i64 0, .int .i64 60]) ∧ Bel w w' := by
  go_enter Try.func171, Try.ntmps171
  go_wp2_with (first | (go_at_call 78; refine (with_none _ _ _ _ _).mono ?_; rintro e w' ⟨rfl, hb⟩))
  refine bodyPost_ret (v := .tuple #[.int .i64 0, .int .i64 60]) (by simp [results, Try.results171, go_sem] <;> (first | exact ⟨⟨rfl, rfl⟩, rfl⟩ | exact ⟨rfl, rfl, rfl, rfl⟩ | exact ⟨rfl, rfl, rfl⟩ | exact ⟨rfl, rfl⟩ | rfl)) rfl ⟨rfl, ?_⟩
  repeat (first | exact bl_refl _ | assumption | apply bl_drewN | apply bl_drew | apply bl_alloc | refine bl_set ?_ (by simp <;> omega) | refine bl_trans ?_ (by assumption))
def farV (xs ys : Nat → Nat) (n p q : Nat) : Int := if withE xs ys n p q = 0 then (farK xs ys p q (n - 1) : Int) else 0
theorem lt_self (x : Nat) : ltK .f64 x x = false := by unfold ltK; simp
theorem far_go {xs ys : Nat → Nat} {p q k fb : Nat} (h : farK xs ys p q (k - 1) = fb) (g : ltK .f64 (dtK (xs fb) (ys fb) p q) (dtK (xs k) (ys k) p q) = false) : farK xs ys p q k = fb := by
  cases k with
  | zero => exact h
  | succ k =>
    simp only [Nat.add_sub_cancel] at h
    show (if _ then _ else _) = _
    rw [h, g]; rfl
theorem far_up {xs ys : Nat → Nat} {p q k fb : Nat} (h : farK xs ys p q (k - 1) = fb) (g : ltK .f64 (dtK (xs fb) (ys fb) p q) (dtK (xs k) (ys k) p q) = true) : farK xs ys p q k = k := by
  cases k with
  | zero =>
    have e : fb = 0 := h.symm
    rw [e, lt_self] at g
    cases g
  | succ k =>
    simp only [Nat.add_sub_cancel] at h
    show (if _ then _ else _) = _
    rw [h, g]; rfl
set_option maxHeartbeats 2000000 in
theorem far_d (b off n cap : Nat) (xs ys : Nat → Nat) (w : World) (hs : Sl w b off n xs ys) (o : Oks xs ys n) (hp : 0 < n) (hn : n ≤ maxLen) (hcap : n ≤ cap) (p q : Nat) (op : okK .f64 p) (oq : okK .f64 q) : Calls Try.prog 171 #[.slice (some ⟨b, off, none⟩) n cap, .agg #[.float .f64 p, .float .f64 q]] w fun e w' => e = .returned (.tuple #[.int .i64 (farV xs ys n p q), .int .i64 (withE xs ys n p q)]) ∧ Bel w w' := by
  by_cases hz : withE xs ys n p q = 0
  · obtain ⟨hc, b1, b2⟩ := with_ok o op oq hz
    obtain ⟨g, h3, h64, _⟩ := chk_ok o hc
    have c1 := cmp_gt .f64
    go_enter Try.func171, Try.ntmps171
    go_wp2_with (first | (go_at_call 78; refine (with_d _ _ _ _ _ _ _ (hs.bel (bl_alloc (bl_refl w) _ _)) o hp hn hcap _ _).mono ?_; rintro e w_1 ⟨rfl, hb⟩; rw [hz]; have Bw := hb))
    have B0 : Bel w w_1 := bl_trans (bl_alloc (bl_refl w) _ _) Bw
    go_loopw [18, 7] (fun i' b' wr => ∃ k fb : Nat, k ≤ n ∧ i' = .int .i64 k ∧ farK xs ys p q (k - 1) = fb ∧ fb < n ∧ b' = .int .i64 fb ∧ Bel w wr ∧ wr.cell? ⟨w.heap.size, 0, none⟩ = some (.float .f64 p) ∧ wr.cell? ⟨w.heap.size, 1, none⟩ = some (.float .f64 q)) (fun i' _ _ => n - (intOf i').toNat)
    case atStart =>
      refine ⟨0, 0, by omega, rfl, rfl, by omega, rfl, B0, ?_, ?_⟩
      all_goals (refine keep Bw ?_; go_keep; try rfl)
    case round =>
      obtain ⟨k, fb, hk, rfl, hf, hfn, rfl, hB, d0, d1⟩ := hrel
      by_cases hlt : k < n
      · have k1 : (k : Int) < (n : Int) := by omega
        have k2 : (fb : Int) < (n : Int) := by omega
        obtain ⟨g1, g2⟩ := g k hlt
        obtain ⟨g3, g4⟩ := g fb hfn
        have hs2 := hs.bel hB
        obtain ⟨x0, x1⟩ := hs2 k hlt
        have hbb := hs2.lt hp
        obtain ⟨c0, c1'⟩ : (wr.alloc (.cells #[.float .f64 (xs k), .float .f64 (ys k)] 36)).cell? ⟨wr.heap.size, 0, none⟩ = some (.float .f64 (xs k)) ∧ (wr.alloc (.cells #[.float .f64 (xs k), .float .f64 (ys k)] 36)).cell? ⟨wr.heap.size, 1, none⟩ = some (.float .f64 (ys k)) := cell_own rfl _ _ _
        have u0 := up_alloc (o := .cells #[.float .f64 (xs k), .float .f64 (ys k)] 36) d0
        have u1 := up_alloc (o := .cells #[.float .f64 (xs k), .float .f64 (ys k)] 36) d1
        have hs4 := hs2.bel (bl_alloc (bl_refl wr) #[.float .f64 (xs k), .float .f64 (ys k)] 36)
        have BA := bl_alloc hB #[.float .f64 (xs k), .float .f64 (ys k)] 36
        cases hw : ltK .f64 (dtK (xs fb) (ys fb) p q) (dtK (xs k) (ys k) p q)
        · go_wp2
          refine wp_region_multiA 10 (fun i v => match i with | 0 => v = .agg #[.float .f64 (xs k), .float .f64 (ys k)] | 1 => v = .agg #[.float .f64 p, .float .f64 q] | 2 => v = .float .f64 (dtK (xs k) (ys k) p q) | 3 => v = .slice (some ⟨b, off, none⟩) n cap | 4 => v = .int .i64 (fb : Int) | 5 => v = .pointer (some ⟨b, off + fb * 2, none⟩) | 6 => v = .agg #[.float .f64 (xs fb), .float .f64 (ys fb)] | 7 => v = .agg #[.float .f64 p, .float .f64 q] | 8 => v = .float .f64 (dtK (xs fb) (ys fb) p q) | 9 => v = .bool false | _ => False) (fun i => match i with  | _ => none) ?A_wh (by kernel_rfl) (by kernel_rfl) ?hA_wh ?ha_wh ?hq_wh [] rfl ?ht_wh
          case hA_wh =>
            intro s
            simp only [putL, dstO, Act.put, List.getElem?_toArray, List.getElem?_cons_zero, List.getElem?_cons_succ, Option.bind_some, List.setIfInBounds_toArray, List.set_cons_zero, List.set_cons_succ, if_true]
            all_goals exact rfl
          case ha_wh =>
            intro i o ob hi ho hal
            rcases (show i = 0 ∨ i = 1 ∨ i = 2 ∨ i = 3 ∨ i = 4 ∨ i = 5 ∨ i = 6 ∨ i = 7 ∨ i = 8 ∨ i = 9 by omega) with rfl | rfl | rfl | rfl | rfl | rfl | rfl | rfl | rfl | rfl
            · cases hal
            · cases hal
            · cases hal
            · cases hal
            · cases hal
            · cases hal
            · cases hal
            · cases hal
            · cases hal
            · cases hal
          case hq_wh =>
            intro i o hi ho hal s hs W hb K hK
            have y0 := keep hb u0; have y1 := keep hb u1; have y2 := keep hb c0; have y3 := keep hb c1'; obtain ⟨y4, y5⟩ := (hs4.bel hb) fb hfn
            rcases (show i = 0 ∨ i = 1 ∨ i = 2 ∨ i = 3 ∨ i = 4 ∨ i = 5 ∨ i = 6 ∨ i = 7 ∨ i = 8 ∨ i = 9 by omega) with rfl | rfl | rfl | rfl | rfl | rfl | rfl | rfl | rfl | rfl
            · cases ho
              simp only [Act.put, List.setIfInBounds_toArray, List.set_cons_zero, List.set_cons_succ] at hK
              clear hs
              go_simp
              all_goals (try go_wp2_with (first | (go_at_call 115; refine (vDot_d _ (by with_reducible assumption) (by with_reducible assumption) (by with_reducible assumption) (by with_reducible assumption) (by decide)).mono ?_; rintro e w1 ⟨rfl, hb1⟩)))
              all_goals first | exact hK.out _ _ rfl (bl_refl _) | exact hK.out _ _ rfl (by assumption) | exact hK.out _ _ (by assumption) (by assumption)
            · cases ho
              simp only [Act.put, List.setIfInBounds_toArray, List.set_cons_zero, List.set_cons_succ] at hK
              clear hs
              go_simp
              all_goals (try go_wp2_with (first | (go_at_call 115; refine (vDot_d _ (by with_reducible assumption) (by with_reducible assumption) (by with_reducible assumption) (by with_reducible assumption) (by decide)).mono ?_; rintro e w1 ⟨rfl, hb1⟩)))
              all_goals first | exact hK.out _ _ rfl (bl_refl _) | exact hK.out _ _ rfl (by assumption) | exact hK.out _ _ (by assumption) (by assumption)
            · cases ho
              have e0 : s 0 = _ := hs 0 (by decide) (by kernel_rfl)
              have e1 : s 1 = _ := hs 1 (by decide) (by kernel_rfl)
              simp only [e0, e1] at hK ⊢
              simp only [Act.put, List.setIfInBounds_toArray, List.set_cons_zero, List.set_cons_succ] at hK
              clear hs
              go_simp
              all_goals (try go_wp2_with (first | (go_at_call 115; refine (vDot_d _ (by with_reducible assumption) (by with_reducible assumption) (by with_reducible assumption) (by with_reducible assumption) (by decide)).mono ?_; rintro e w1 ⟨rfl, hb1⟩)))
              all_goals first | exact hK.out _ _ rfl (bl_refl _) | exact hK.out _ _ rfl (by assumption) | exact hK.out _ _ (by assumption) (by assumption)
            · cases ho
              simp only [Act.put, List.setIfInBounds_toArray, List.set_cons_zero, List.set_cons_succ] at hK
              clear hs
              go_simp
              all_goals (try go_wp2_with (first | (go_at_call 115; refine (vDot_d _ (by with_reducible assumption) (by with_reducible assumption) (by with_reducible assumption) (by with_reducible assumption) (by decide)).mono ?_; rintro e w1 ⟨rfl, hb1⟩)))
              all_goals first | exact hK.out _ _ rfl (bl_refl _) | exact hK.out _ _ rfl (by assumption) | exact hK.out _ _ (by assumption) (by assumption)
            · cases ho
              simp only [Act.put, List.setIfInBounds_toArray, List.set_cons_zero, List.set_cons_succ] at hK
              clear hs
              go_simp
              all_goals (try go_wp2_with (first | (go_at_call 115; refine (vDot_d _ (by with_reducible assumption) (by with_reducible assumption) (by with_reducible assumption) (by with_reducible assumption) (by decide)).mono ?_; rintro e w1 ⟨rfl, hb1⟩)))
              all_goals first | exact hK.out _ _ rfl (bl_refl _) | exact hK.out _ _ rfl (by assumption) | exact hK.out _ _ (by assumption) (by assumption)
            · cases ho
              have e3 : s 3 = _ := hs 3 (by decide) (by kernel_rfl)
              have e4 : s 4 = _ := hs 4 (by decide) (by kernel_rfl)
              simp only [e3, e4] at hK ⊢
              simp only [Act.put, List.setIfInBounds_toArray, List.set_cons_zero, List.set_cons_succ] at hK
              clear hs
              go_simp
              all_goals (try go_wp2_with (first | (go_at_call 115; refine (vDot_d _ (by with_reducible assumption) (by with_reducible assumption) (by with_reducible assumption) (by with_reducible assumption) (by decide)).mono ?_; rintro e w1 ⟨rfl, hb1⟩)))
              all_goals first | exact hK.out _ _ rfl (bl_refl _) | exact hK.out _ _ rfl (by assumption) | exact hK.out _ _ (by assumption) (by assumption)
            · cases ho
              have e5 : s 5 = _ := hs 5 (by decide) (by kernel_rfl)
              simp only [e5] at hK ⊢
              simp only [Act.put, List.setIfInBounds_toArray, List.set_cons_zero, List.set_cons_succ] at hK
              clear hs
              go_simp
              all_goals (try go_wp2_with (first | (go_at_call 115; refine (vDot_d _ (by with_reducible assumption) (by with_reducible assumption) (by with_reducible assumption) (by with_reducible assumption) (by decide)).mono ?_; rintro e w1 ⟨rfl, hb1⟩)))
              all_goals first | exact hK.out _ _ rfl (bl_refl _) | exact hK.out _ _ rfl (by assumption) | exact hK.out _ _ (by assumption) (by assumption)
            · cases ho
              simp only [Act.put, List.setIfInBounds_toArray, List.set_cons_zero, List.set_cons_succ] at hK
              clear hs
              go_simp
              all_goals (try go_wp2_with (first | (go_at_call 115; refine (vDot_d _ (by with_reducible assumption) (by with_reducible assumption) (by with_reducible assumption) (by with_reducible assumption) (by decide)).mono ?_; rintro e w1 ⟨rfl, hb1⟩)))
              all_goals first | exact hK.out _ _ rfl (bl_refl _) | exact hK.out _ _ rfl (by assumption) | exact hK.out _ _ (by assumption) (by assumption)
            · cases ho
              have e6 : s 6 = _ := hs 6 (by decide) (by kernel_rfl)
              have e7 : s 7 = _ := hs 7 (by decide) (by kernel_rfl)
              simp only [e6, e7] at hK ⊢
              simp only [Act.put, List.setIfInBounds_toArray, List.set_cons_zero, List.set_cons_succ] at hK
              clear hs
              go_simp
              all_goals (try go_wp2_with (first | (go_at_call 115; refine (vDot_d _ (by with_reducible assumption) (by with_reducible assumption) (by with_reducible assumption) (by with_reducible assumption) (by decide)).mono ?_; rintro e w1 ⟨rfl, hb1⟩)))
              all_goals first | exact hK.out _ _ rfl (bl_refl _) | exact hK.out _ _ rfl (by assumption) | exact hK.out _ _ (by assumption) (by assumption)
            · cases ho
              have e2 : s 2 = _ := hs 2 (by decide) (by kernel_rfl)
              have e8 : s 8 = _ := hs 8 (by decide) (by kernel_rfl)
              simp only [e2, e8] at hK ⊢
              simp only [Act.put, List.setIfInBounds_toArray, List.set_cons_zero, List.set_cons_succ] at hK
              clear hs
              go_simp
              all_goals (try go_wp2_with (first | (go_at_call 115; refine (vDot_d _ (by with_reducible assumption) (by with_reducible assumption) (by with_reducible assumption) (by with_reducible assumption) (by decide)).mono ?_; rintro e w1 ⟨rfl, hb1⟩)))
              all_goals first | exact hK.out _ _ rfl (bl_refl _) | exact hK.out _ _ rfl (by assumption) | exact hK.out _ _ (by assumption) (by assumption)
          case ht_wh =>
            intro s hs W hb hJ
            have e0 : s 0 = _ := hs 0 (by decide)
            have e1 : s 1 = _ := hs 1 (by decide)
            have e2 : s 2 = _ := hs 2 (by decide)
            have e3 : s 3 = _ := hs 3 (by decide)
            have e4 : s 4 = _ := hs 4 (by decide)
            have e5 : s 5 = _ := hs 5 (by decide)
            have e6 : s 6 = _ := hs 6 (by decide)
            have e7 : s 7 = _ := hs 7 (by decide)
            have e8 : s 8 = _ := hs 8 (by decide)
            have e9 : s 9 = _ := hs 9 (by decide)
            simp only [e0, e1, e2, e3, e4, e5, e6, e7, e8, e9]
            clear hs
            refine tail_end ?_
            go_wp2
            exact ⟨⟨k + 1, fb, by omega, by go_num, far_go hf hw, hfn, rfl, bl_trans BA hb, keep hb u0, keep hb u1⟩, by simp [intOf]; omega⟩
        · go_wp2
          refine wp_region_multiA 10 (fun i v => match i with | 0 => v = .agg #[.float .f64 (xs k), .float .f64 (ys k)] | 1 => v = .agg #[.float .f64 p, .float .f64 q] | 2 => v = .float .f64 (dtK (xs k) (ys k) p q) | 3 => v = .slice (some ⟨b, off, none⟩) n cap | 4 => v = .int .i64 (fb : Int) | 5 => v = .pointer (some ⟨b, off + fb * 2, none⟩) | 6 => v = .agg #[.float .f64 (xs fb), .float .f64 (ys fb)] | 7 => v = .agg #[.float .f64 p, .float .f64 q] | 8 => v = .float .f64 (dtK (xs fb) (ys fb) p q) | 9 => v = .bool true | _ => False) (fun i => match i with  | _ => none) ?A_wh (by kernel_rfl) (by kernel_rfl) ?hA_wh ?ha_wh ?hq_wh [] rfl ?ht_wh
          case hA_wh =>
            intro s
            simp only [putL, dstO, Act.put, List.getElem?_toArray, List.getElem?_cons_zero, List.getElem?_cons_succ, Option.bind_some, List.setIfInBounds_toArray, List.set_cons_zero, List.set_cons_succ, if_true]
            all_goals exact rfl
          case ha_wh =>
            intro i o ob hi ho hal
            rcases (show i = 0 ∨ i = 1 ∨ i = 2 ∨ i = 3 ∨ i = 4 ∨ i = 5 ∨ i = 6 ∨ i = 7 ∨ i = 8 ∨ i = 9 by omega) with rfl | rfl | rfl | rfl | rfl | rfl | rfl | rfl | rfl | rfl
            · cases hal
            · cases hal
            · cases hal
            · cases hal
            · cases hal
            · cases hal
            · cases hal
            · cases hal
            · cases hal
            · cases hal
          case hq_wh =>
            intro i o hi ho hal s hs W hb K hK
            have y0 := keep hb u0; have y1 := keep hb u1; have y2 := keep hb c0; have y3 := keep hb c1'; obtain ⟨y4, y5⟩ := (hs4.bel hb) fb hfn
            rcases (show i = 0 ∨ i = 1 ∨ i = 2 ∨ i = 3 ∨ i = 4 ∨ i = 5 ∨ i = 6 ∨ i = 7 ∨ i = 8 ∨ i = 9 by omega) with rfl | rfl | rfl | rfl | rfl | rfl | rfl | rfl | rfl | rfl
            · cases ho
              simp only [Act.put, List.setIfInBounds_toArray, List.set_cons_zero, List.set_cons_succ] at hK
              clear hs
              go_simp
              all_goals (try go_wp2_with (first | (go_at_call 115; refine (vDot_d _ (by with_reducible assumption) (by with_reducible assumption) (by with_reducible assumption) (by with_reducible assumption) (by decide)).mono ?_; rintro e w1 ⟨rfl, hb1⟩)))
              all_goals first | exact hK.out _ _ rfl (bl_refl _) | exact hK.out _ _ rfl (by assumption) | exact hK.out _ _ (by assumption) (by assumption)
            · cases ho
              simp only [Act.put, List.setIfInBounds_toArray, List.set_cons_zero, List.set_cons_succ] at hK
              clear hs
              go_simp
              all_goals (try go_wp2_with (first | (go_at_call 115; refine (vDot_d _ (by with_reducible assumption) (by with_reducible assumption) (by with_reducible assumption) (by with_reducible assumption) (by decide)).mono ?_; rintro e w1 ⟨rfl, hb1⟩)))
              all_goals first | exact hK.out _ _ rfl (bl_refl _) | exact hK.out _ _ rfl (by assumption) | exact hK.out _ _ (by assumption) (by assumption)
            · cases ho
              have e0 : s 0 = _ := hs 0 (by decide) (by kernel_rfl)
              have e1 : s 1 = _ := hs 1 (by decide) (by kernel_rfl)
              simp only [e0, e1] at hK ⊢
              simp only [Act.put, List.setIfInBounds_toArray, List.set_cons_zero, List.set_cons_succ] at hK
              clear hs
              go_simp
              all_goals (try go_wp2_with (first | (go_at_call 115; refine (vDot_d _ (by with_reducible assumption) (by with_reducible assumption) (by with_reducible assumption) (by with_reducible assumption) (by decide)).mono ?_; rintro e w1 ⟨rfl, hb1⟩)))
              all_goals first | exact hK.out _ _ rfl (bl_refl _) | exact hK.out _ _ rfl (by assumption) | exact hK.out _ _ (by assumption) (by assumption)
            · cases ho
              simp only [Act.put, List.setIfInBounds_toArray, List.set_cons_zero, List.set_cons_succ] at hK
              clear hs
              go_simp
              all_goals (try go_wp2_with (first | (go_at_call 115; refine (vDot_d _ (by with_reducible assumption) (by with_reducible assumption) (by with_reducible assumption) (by with_reducible assumption) (by decide)).mono ?_; rintro e w1 ⟨rfl, hb1⟩)))
              all_goals first | exact hK.out _ _ rfl (bl_refl _) | exact hK.out _ _ rfl (by assumption) | exact hK.out _ _ (by assumption) (by assumption)
            · cases ho
              simp only [Act.put, List.setIfInBounds_toArray, List.set_cons_zero, List.set_cons_succ] at hK
              clear hs
              go_simp
              all_goals (try go_wp2_with (first | (go_at_call 115; refine (vDot_d _ (by with_reducible assumption) (by with_reducible assumption) (by with_reducible assumption) (by with_reducible assumption) (by decide)).mono ?_; rintro e w1 ⟨rfl, hb1⟩)))
              all_goals first | exact hK.out _ _ rfl (bl_refl _) | exact hK.out _ _ rfl (by assumption) | exact hK.out _ _ (by assumption) (by assumption)
            · cases ho
              have e3 : s 3 = _ := hs 3 (by decide) (by kernel_rfl)
              have e4 : s 4 = _ := hs 4 (by decide) (by kernel_rfl)
              simp only [e3, e4] at hK ⊢
              simp only [Act.put, List.setIfInBounds_toArray, List.set_cons_zero, List.set_cons_succ] at hK
              clear hs
              go_simp
              all_goals (try go_wp2_with (first | (go_at_call 115; refine (vDot_d _ (by with_reducible assumption) (by with_reducible assumption) (by with_reducible assumption) (by with_reducible assumption) (by decide)).mono ?_; rintro e w1 ⟨rfl, hb1⟩)))
              all_goals first | exact hK.out _ _ rfl (bl_refl _) | exact hK.out _ _ rfl (by assumption) | exact hK.out _ _ (by assumption) (by assumption)
            · cases ho
              have e5 : s 5 = _ := hs 5 (by decide) (by kernel_rfl)
              simp only [e5] at hK ⊢
              simp only [Act.put, List.setIfInBounds_toArray, List.set_cons_zero, List.set_cons_succ] at hK
              clear hs
              go_simp
              all_goals (try go_wp2_with (first | (go_at_call 115; refine (vDot_d _ (by with_reducible assumption) (by with_reducible assumption) (by with_reducible assumption) (by with_reducible assumption) (by decide)).mono ?_; rintro e w1 ⟨rfl, hb1⟩)))
              all_goals first | exact hK.out _ _ rfl (bl_refl _) | exact hK.out _ _ rfl (by assumption) | exact hK.out _ _ (by assumption) (by assumption)
            · cases ho
              simp only [Act.put, List.setIfInBounds_toArray, List.set_cons_zero, List.set_cons_succ] at hK
              clear hs
              go_simp
              all_goals (try go_wp2_with (first | (go_at_call 115; refine (vDot_d _ (by with_reducible assumption) (by with_reducible assumption) (by with_reducible assumption) (by with_reducible assumption) (by decide)).mono ?_; rintro e w1 ⟨rfl, hb1⟩)))
              all_goals first | exact hK.out _ _ rfl (bl_refl _) | exact hK.out _ _ rfl (by assumption) | exact hK.out _ _ (by assumption) (by assumption)
            · cases ho
              have e6 : s 6 = _ := hs 6 (by decide) (by kernel_rfl)
              have e7 : s 7 = _ := hs 7 (by decide) (by kernel_rfl)
              simp only [e6, e7] at hK ⊢
              simp only [Act.put, List.setIfInBounds_toArray, List.set_cons_zero, List.set_cons_succ] at hK
              clear hs
              go_simp
              all_goals (try go_wp2_with (first | (go_at_call 115; refine (vDot_d _ (by with_reducible assumption) (by with_reducible assumption) (by with_reducible assumption) (by with_reducible assumption) (by decide)).mono ?_; rintro e w1 ⟨rfl, hb1⟩)))
              all_goals first | exact hK.out _ _ rfl (bl_refl _) | exact hK.out _ _ rfl (by assumption) | exact hK.out _ _ (by assumption) (by assumption)
            · cases ho
              have e2 : s 2 = _ := hs 2 (by decide) (by kernel_rfl)
              have e8 : s 8 = _ := hs 8 (by decide) (by kernel_rfl)
              simp only [e2, e8] at hK ⊢
              simp only [Act.put, List.setIfInBounds_toArray, List.set_cons_zero, List.set_cons_succ] at hK
              clear hs
              go_simp
              all_goals (try go_wp2_with (first | (go_at_call 115; refine (vDot_d _ (by with_reducible assumption) (by with_reducible assumption) (by with_reducible assumption) (by with_reducible assumption) (by decide)).mono ?_; rintro e w1 ⟨rfl, hb1⟩)))
              all_goals first | exact hK.out _ _ rfl (bl_refl _) | exact hK.out _ _ rfl (by assumption) | exact hK.out _ _ (by assumption) (by assumption)
          case ht_wh =>
            intro s hs W hb hJ
            have e0 : s 0 = _ := hs 0 (by decide)
            have e1 : s 1 = _ := hs 1 (by decide)
            have e2 : s 2 = _ := hs 2 (by decide)
            have e3 : s 3 = _ := hs 3 (by decide)
            have e4 : s 4 = _ := hs 4 (by decide)
            have e5 : s 5 = _ := hs 5 (by decide)
            have e6 : s 6 = _ := hs 6 (by decide)
            have e7 : s 7 = _ := hs 7 (by decide)
            have e8 : s 8 = _ := hs 8 (by decide)
            have e9 : s 9 = _ := hs 9 (by decide)
            simp only [e0, e1, e2, e3, e4, e5, e6, e7, e8, e9]
            clear hs
            refine tail_end ?_
            go_wp2
            exact ⟨⟨k + 1, k, by omega, by go_num, far_up hf hw, hlt, rfl, bl_trans BA hb, keep hb u0, keep hb u1⟩, by simp [intOf]; omega⟩
      · have hkn : k = n := by omega
        subst hkn
        go_wp2
        refine bodyPost_ret (v := .tuple #[.int .i64 fb, .int .i64 0]) (by simp [results, Try.results171, go_sem] <;> (first | exact ⟨⟨rfl, rfl⟩, rfl⟩ | exact ⟨rfl, rfl, rfl, rfl⟩ | exact ⟨rfl, rfl, rfl⟩ | exact ⟨rfl, rfl⟩ | rfl)) rfl ⟨by unfold farV; rw [hz, if_pos rfl, hf], hB⟩
  · obtain ⟨v, hv⟩ : ∃ v, withE xs ys n p q = v := ⟨_, rfl⟩
    rw [hv] at hz
    go_enter Try.func171, Try.ntmps171
    go_wp2_with (first | (go_at_call 78; refine (with_d _ _ _ _ _ _ _ (hs.bel (bl_alloc (bl_refl w) _ _)) o hp hn hcap _ _).mono ?_; rintro e w' ⟨rfl, hb⟩; rw [hv]))
    all_goals
      refine bodyPost_ret (v := .tuple #[.int .i64 0, .int .i64 v]) (by simp [results, Try.results171, go_sem] <;> (first | exact ⟨⟨rfl, rfl⟩, rfl⟩ | exact ⟨rfl, rfl, rfl, rfl⟩ | exact ⟨rfl, rfl, rfl⟩ | exact ⟨rfl, rfl⟩ | rfl)) rfl ⟨by unfold farV; rw [hv, if_neg hz], ?_⟩
      repeat (first | exact bl_refl _ | assumption | apply bl_drewN | apply bl_drew | apply bl_alloc | refine bl_set ?_ (by simp <;> omega) | refine bl_trans ?_ (by assumption))
theorem dN_eq (nx ny fx fy x y : Nat) : dtK nx ny (Dv .sub x fx) (Dv .sub y fy) = dN nx ny fx fy x y := rfl
theorem ah_go {nx ny fx fy : Nat} {xs ys : Nat → Nat} {k l : Nat} (h : ahK nx ny fx fy xs ys k = l) (g : ltK .f64 (dN nx ny fx fy (xs (k + 1)) (ys (k + 1))) l = false) : ahK nx ny fx fy xs ys (k + 1) = l := by
  show (if _ then _ else _) = _
  rw [h, g]; rfl
theorem ah_up {nx ny fx fy : Nat} {xs ys : Nat → Nat} {k l : Nat} (h : ahK nx ny fx fy xs ys k = l) (g : ltK .f64 (dN nx ny fx fy (xs (k + 1)) (ys (k + 1))) l = true) : ahK nx ny fx fy xs ys (k + 1) = dN nx ny fx fy (xs (k + 1)) (ys (k + 1)) := by
  show (if _ then _ else _) = _
  rw [h, g]; rfl
set_option maxHeartbeats 2000000 in
theorem ahead_d (fx fy wx wy nx ny : Nat) (b off n cap : Nat) (xs ys : Nat → Nat) (w : World) (hs : Sl w b off n xs ys) (g : Gd xs ys n) (h3 : 3 ≤ n) (h64 : n ≤ 64) (hcap : n ≤ cap) (b1 : Bd 40 fx) (b2 : Bd 40 fy) (b3 : Bd 42 wx) (b4 : Bd 42 wy) (b5 : Bd 80 nx) (b6 : Bd 80 ny) (q1 : unX wy (Op.negFloat .f64 wx) = nx) (q2 : unY wy (Op.negFloat .f64 wx) = ny) : Calls Try.prog 76 #[.agg #[.float .f64 fx, .float .f64 fy, .float .f64 wx, .float .f64 wy], .slice (some ⟨b, off, none⟩) n cap] w fun e w' => e = .returned (.float .f64 (ahK nx ny fx fy xs ys (n - 1))) ∧ Bel w w' := by
  have c1 := cmp_lt .f64
  have hb0 := hs.lt (by omega)
  have n0 : (0 : Int) < (n : Int) := by omega
  obtain ⟨k1, k2⟩ := g 0 (by omega)
  have m1 : Bd 42 (Dv .sub (xs 0) fx) := bd_sub k1 b1 (by decide)
  have m2 : Bd 42 (Dv .sub (ys 0) fy) := bd_sub k2 b2 (by decide)
  go_enter Try.func76, Try.ntmps76
  go_wp2_with (first | (go_at_call 114; refine (normal_d _ _ _ _ _ (by with_reducible assumption) (by with_reducible assumption)).mono ?_; rintro e w_1 ⟨rfl, hb⟩; rw [q1, q2]; have Bw := hb))
  obtain ⟨z0, z1, z2, z3⟩ : w_1.cell? ⟨w.heap.size, 0, none⟩ = some (.float .f64 fx) ∧ w_1.cell? ⟨w.heap.size, 1, none⟩ = some (.float .f64 fy) ∧ w_1.cell? ⟨w.heap.size, 2, none⟩ = some (.float .f64 wx) ∧ w_1.cell? ⟨w.heap.size, 3, none⟩ = some (.float .f64 wy) := by
    refine ⟨?_, ?_, ?_, ?_⟩ <;> (refine keep Bw ?_; go_keep; try rfl)
  obtain ⟨t0, t1⟩ : (w_1.alloc (.cells #[.float .f64 nx, .float .f64 ny] 36)).cell? ⟨w_1.heap.size, 0, none⟩ = some (.float .f64 nx) ∧ (w_1.alloc (.cells #[.float .f64 nx, .float .f64 ny] 36)).cell? ⟨w_1.heap.size, 1, none⟩ = some (.float .f64 ny) := cell_own rfl _ _ _
  replace z0 := up_alloc (o := .cells #[.float .f64 nx, .float .f64 ny] 36) z0
  replace z1 := up_alloc (o := .cells #[.float .f64 nx, .float .f64 ny] 36) z1
  have B0 := bl_alloc (bl_trans (bl_alloc (bl_refl w) _ _) Bw) #[.float .f64 nx, .float .f64 ny] 36
  have hs1 := hs.bel B0
  refine wp_region_multiA 9 (fun i v => match i with | 0 => v = .agg #[.float .f64 nx, .float .f64 ny] | 1 => v = .slice (some ⟨b, off, none⟩) n cap | 2 => v = .pointer (some ⟨b, off, none⟩) | 3 => v = .agg #[.float .f64 (xs 0), .float .f64 (ys 0)] | 4 => v = .pointer (some ⟨w.heap.size, 0, none⟩) | 5 => v = .agg #[.float .f64 fx, .float .f64 fy] | 6 => v = .agg #[.float .f64 (Dv .sub (xs 0) fx), .float .f64 (Dv .sub (ys 0) fy)] | 7 => v = .float .f64 (dtK nx ny (Dv .sub (xs 0) fx) (Dv .sub (ys 0) fy)) | 8 => v = .float .f64 (dtK nx ny (Dv .sub (xs 0) fx) (Dv .sub (ys 0) fy)) | _ => False) (fun i => match i with  | _ => none) ?A_wh (by kernel_rfl) (by kernel_rfl) ?hA_wh ?ha_wh ?hq_wh [] rfl ?ht_wh
  case hA_wh =>
    intro s
    simp only [putL, dstO, Act.put, List.getElem?_toArray, List.getElem?_cons_zero, List.getElem?_cons_succ, Option.bind_some, List.setIfInBounds_toArray, List.set_cons_zero, List.set_cons_succ, if_true]
    all_goals exact rfl
  case ha_wh =>
    intro i o ob hi ho hal
    rcases (show i = 0 ∨ i = 1 ∨ i = 2 ∨ i = 3 ∨ i = 4 ∨ i = 5 ∨ i = 6 ∨ i = 7 ∨ i = 8 by omega) with rfl | rfl | rfl | rfl | rfl | rfl | rfl | rfl | rfl
    · cases hal
    · cases hal
    · cases hal
    · cases hal
    · cases hal
    · cases hal
    · cases hal
    · cases hal
    · cases hal
  case hq_wh =>
    intro i o hi ho hal s hs W hb K hK
    have y0 := keep hb z0; have y1 := keep hb z1; have y2 := keep hb t0; have y3 := keep hb t1; obtain ⟨y4, y5⟩ := (hs1.bel hb) 0 (by omega); simp only [Nat.zero_mul, Nat.add_zero] at y4 y5
    rcases (show i = 0 ∨ i = 1 ∨ i = 2 ∨ i = 3 ∨ i = 4 ∨ i = 5 ∨ i = 6 ∨ i = 7 ∨ i = 8 by omega) with rfl | rfl | rfl | rfl | rfl | rfl | rfl | rfl | rfl
    · cases ho
      simp only [Act.put, List.setIfInBounds_toArray, List.set_cons_zero, List.set_cons_succ] at hK
      clear hs
      go_simp
      all_goals (try go_wp2_with (first | (go_at_call 52; refine (vSub_d _ (by with_reducible assumption) (by with_reducible assumption) (by with_reducible assumption) (by with_reducible assumption)).mono ?_; rintro e w1 ⟨rfl, hb1⟩) | (go_at_call 115; refine (vDot_d _ (by with_reducible assumption) (by with_reducible assumption) (by with_reducible assumption) (by with_reducible assumption) (by decide)).mono ?_; rintro e w1 ⟨rfl, hb1⟩)))
      all_goals first | exact hK.out _ _ rfl (bl_refl _) | exact hK.out _ _ rfl (by assumption) | exact hK.out _ _ (by assumption) (by assumption)
    · cases ho
      simp only [Act.put, List.setIfInBounds_toArray, List.set_cons_zero, List.set_cons_succ] at hK
      clear hs
      go_simp
      all_goals (try go_wp2_with (first | (go_at_call 52; refine (vSub_d _ (by with_reducible assumption) (by with_reducible assumption) (by with_reducible assumption) (by with_reducible assumption)).mono ?_; rintro e w1 ⟨rfl, hb1⟩) | (go_at_call 115; refine (vDot_d _ (by with_reducible assumption) (by with_reducible assumption) (by with_reducible assumption) (by with_reducible assumption) (by decide)).mono ?_; rintro e w1 ⟨rfl, hb1⟩)))
      all_goals first | exact hK.out _ _ rfl (bl_refl _) | exact hK.out _ _ rfl (by assumption) | exact hK.out _ _ (by assumption) (by assumption)
    · cases ho
      have e1 : s 1 = _ := hs 1 (by decide) (by kernel_rfl)
      simp only [e1] at hK ⊢
      simp only [Act.put, List.setIfInBounds_toArray, List.set_cons_zero, List.set_cons_succ] at hK
      clear hs
      go_simp
      all_goals (try go_wp2_with (first | (go_at_call 52; refine (vSub_d _ (by with_reducible assumption) (by with_reducible assumption) (by with_reducible assumption) (by with_reducible assumption)).mono ?_; rintro e w1 ⟨rfl, hb1⟩) | (go_at_call 115; refine (vDot_d _ (by with_reducible assumption) (by with_reducible assumption) (by with_reducible assumption) (by with_reducible assumption) (by decide)).mono ?_; rintro e w1 ⟨rfl, hb1⟩)))
      all_goals first | exact hK.out _ _ rfl (bl_refl _) | exact hK.out _ _ rfl (by assumption) | exact hK.out _ _ (by assumption) (by assumption)
    · cases ho
      have e2 : s 2 = _ := hs 2 (by decide) (by kernel_rfl)
      simp only [e2] at hK ⊢
      simp only [Act.put, List.setIfInBounds_toArray, List.set_cons_zero, List.set_cons_succ] at hK
      clear hs
      go_simp
      all_goals (try go_wp2_with (first | (go_at_call 52; refine (vSub_d _ (by with_reducible assumption) (by with_reducible assumption) (by with_reducible assumption) (by with_reducible assumption)).mono ?_; rintro e w1 ⟨rfl, hb1⟩) | (go_at_call 115; refine (vDot_d _ (by with_reducible assumption) (by with_reducible assumption) (by with_reducible assumption) (by with_reducible assumption) (by decide)).mono ?_; rintro e w1 ⟨rfl, hb1⟩)))
      all_goals first | exact hK.out _ _ rfl (bl_refl _) | exact hK.out _ _ rfl (by assumption) | exact hK.out _ _ (by assumption) (by assumption)
    · cases ho
      simp only [Act.put, List.setIfInBounds_toArray, List.set_cons_zero, List.set_cons_succ] at hK
      clear hs
      go_simp
      all_goals (try go_wp2_with (first | (go_at_call 52; refine (vSub_d _ (by with_reducible assumption) (by with_reducible assumption) (by with_reducible assumption) (by with_reducible assumption)).mono ?_; rintro e w1 ⟨rfl, hb1⟩) | (go_at_call 115; refine (vDot_d _ (by with_reducible assumption) (by with_reducible assumption) (by with_reducible assumption) (by with_reducible assumption) (by decide)).mono ?_; rintro e w1 ⟨rfl, hb1⟩)))
      all_goals first | exact hK.out _ _ rfl (bl_refl _) | exact hK.out _ _ rfl (by assumption) | exact hK.out _ _ (by assumption) (by assumption)
    · cases ho
      have e4 : s 4 = _ := hs 4 (by decide) (by kernel_rfl)
      simp only [e4] at hK ⊢
      simp only [Act.put, List.setIfInBounds_toArray, List.set_cons_zero, List.set_cons_succ] at hK
      clear hs
      go_simp
      all_goals (try go_wp2_with (first | (go_at_call 52; refine (vSub_d _ (by with_reducible assumption) (by with_reducible assumption) (by with_reducible assumption) (by with_reducible assumption)).mono ?_; rintro e w1 ⟨rfl, hb1⟩) | (go_at_call 115; refine (vDot_d _ (by with_reducible assumption) (by with_reducible assumption) (by with_reducible assumption) (by with_reducible assumption) (by decide)).mono ?_; rintro e w1 ⟨rfl, hb1⟩)))
      all_goals first | exact hK.out _ _ rfl (bl_refl _) | exact hK.out _ _ rfl (by assumption) | exact hK.out _ _ (by assumption) (by assumption)
    · cases ho
      have e3 : s 3 = _ := hs 3 (by decide) (by kernel_rfl)
      have e5 : s 5 = _ := hs 5 (by decide) (by kernel_rfl)
      simp only [e3, e5] at hK ⊢
      simp only [Act.put, List.setIfInBounds_toArray, List.set_cons_zero, List.set_cons_succ] at hK
      clear hs
      go_simp
      all_goals (try go_wp2_with (first | (go_at_call 52; refine (vSub_d _ (by with_reducible assumption) (by with_reducible assumption) (by with_reducible assumption) (by with_reducible assumption)).mono ?_; rintro e w1 ⟨rfl, hb1⟩) | (go_at_call 115; refine (vDot_d _ (by with_reducible assumption) (by with_reducible assumption) (by with_reducible assumption) (by with_reducible assumption) (by decide)).mono ?_; rintro e w1 ⟨rfl, hb1⟩)))
      all_goals first | exact hK.out _ _ rfl (bl_refl _) | exact hK.out _ _ rfl (by assumption) | exact hK.out _ _ (by assumption) (by assumption)
    · cases ho
      have e0 : s 0 = _ := hs 0 (by decide) (by kernel_rfl)
      have e6 : s 6 = _ := hs 6 (by decide) (by kernel_rfl)
      simp only [e0, e6] at hK ⊢
      simp only [Act.put, List.setIfInBounds_toArray, List.set_cons_zero, List.set_cons_succ] at hK
      clear hs
      go_simp
      all_goals (try go_wp2_with (first | (go_at_call 52; refine (vSub_d _ (by with_reducible assumption) (by with_reducible assumption) (by with_reducible assumption) (by with_reducible assumption)).mono ?_; rintro e w1 ⟨rfl, hb1⟩) | (go_at_call 115; refine (vDot_d _ (by with_reducible assumption) (by with_reducible assumption) (by with_reducible assumption) (by with_reducible assumption) (by decide)).mono ?_; rintro e w1 ⟨rfl, hb1⟩)))
      all_goals first | exact hK.out _ _ rfl (bl_refl _) | exact hK.out _ _ rfl (by assumption) | exact hK.out _ _ (by assumption) (by assumption)
    · cases ho
      have e7 : s 7 = _ := hs 7 (by decide) (by kernel_rfl)
      simp only [e7] at hK ⊢
      simp only [Act.put, List.setIfInBounds_toArray, List.set_cons_zero, List.set_cons_succ] at hK
      clear hs
      go_simp
      all_goals (try go_wp2_with (first | (go_at_call 52; refine (vSub_d _ (by with_reducible assumption) (by with_reducible assumption) (by with_reducible assumption) (by with_reducible assumption)).mono ?_; rintro e w1 ⟨rfl, hb1⟩) | (go_at_call 115; refine (vDot_d _ (by with_reducible assumption) (by with_reducible assumption) (by with_reducible assumption) (by with_reducible assumption) (by decide)).mono ?_; rintro e w1 ⟨rfl, hb1⟩)))
      all_goals first | exact hK.out _ _ rfl (bl_refl _) | exact hK.out _ _ rfl (by assumption) | exact hK.out _ _ (by assumption) (by assumption)
  case ht_wh =>
    intro s hs W hb hJ
    have e0 : s 0 = _ := hs 0 (by decide)
    have e1 : s 1 = _ := hs 1 (by decide)
    have e2 : s 2 = _ := hs 2 (by decide)
    have e3 : s 3 = _ := hs 3 (by decide)
    have e4 : s 4 = _ := hs 4 (by decide)
    have e5 : s 5 = _ := hs 5 (by decide)
    have e6 : s 6 = _ := hs 6 (by decide)
    have e7 : s 7 = _ := hs 7 (by decide)
    have e8 : s 8 = _ := hs 8 (by decide)
    simp only [e0, e1, e2, e3, e4, e5, e6, e7, e8]
    clear hs
    refine tail_end ?_
    replace hs1 := hs1.bel hb
    replace z0 := keep hb z0
    replace z1 := keep hb z1
    replace t0 := keep hb t0
    replace t1 := keep hb t1
    replace B0 := bl_trans B0 hb
    clear hb hJ
    obtain ⟨m, rfl⟩ : ∃ m, n = m + 1 := ⟨n - 1, by omega⟩
    have hm1 : m + 1 - 1 = m := by omega
    go_wp2
    go_loopw [23, 6] (fun i' l' wr => ∃ k l : Nat, k ≤ m ∧ i' = .int .i64 k ∧ ahK nx ny fx fy xs ys k = l ∧ l' = .float .f64 l ∧ Bel w wr ∧ wr.cell? ⟨w.heap.size, 0, none⟩ = some (.float .f64 fx) ∧ wr.cell? ⟨w.heap.size, 1, none⟩ = some (.float .f64 fy) ∧ wr.cell? ⟨w_1.heap.size, 0, none⟩ = some (.float .f64 nx) ∧ wr.cell? ⟨w_1.heap.size, 1, none⟩ = some (.float .f64 ny)) (fun i' _ _ => m - (intOf i').toNat)
    case atStart => exact ⟨0, _, by omega, rfl, rfl, rfl, B0, z0, z1, t0, t1⟩
    case round =>
      clear z0 z1 t0 t1
      obtain ⟨k, l, hk, rfl, hl, rfl, hB, z0, z1, t0, t1⟩ := hrel
      by_cases hlt : k < m
      · have l1 : (k : Int) < (m : Int) := by omega
        obtain ⟨g1, g2⟩ := g (k + 1) (by omega)
        have m3 : Bd 42 (Dv .sub (xs (k + 1)) fx) := bd_sub g1 b1 (by decide)
        have m4 : Bd 42 (Dv .sub (ys (k + 1)) fy) := bd_sub g2 b2 (by decide)
        have hs2 := hs.bel hB
        obtain ⟨x0, x1⟩ := hs2 (k + 1) (by omega)
        rw [show off + (k + 1) * 2 = off + 2 + k * 2 by omega] at x0 x1
        have hbb := hs2.lt (by omega)
        obtain ⟨c0, c1'⟩ : (wr.alloc (.cells #[.float .f64 (xs (k + 1)), .float .f64 (ys (k + 1))] 36)).cell? ⟨wr.heap.size, 0, none⟩ = some (.float .f64 (xs (k + 1))) ∧ (wr.alloc (.cells #[.float .f64 (xs (k + 1)), .float .f64 (ys (k + 1))] 36)).cell? ⟨wr.heap.size, 1, none⟩ = some (.float .f64 (ys (k + 1))) := cell_own rfl _ _ _
        have u0 := up_alloc (o := .cells #[.float .f64 (xs (k + 1)), .float .f64 (ys (k + 1))] 36) z0
        have u1 := up_alloc (o := .cells #[.float .f64 (xs (k + 1)), .float .f64 (ys (k + 1))] 36) z1
        have u2 := up_alloc (o := .cells #[.float .f64 (xs (k + 1)), .float .f64 (ys (k + 1))] 36) t0
        have u3 := up_alloc (o := .cells #[.float .f64 (xs (k + 1)), .float .f64 (ys (k + 1))] 36) t1
        have BA := bl_alloc hB #[.float .f64 (xs (k + 1)), .float .f64 (ys (k + 1))] 36
        cases hw : ltK .f64 (dN nx ny fx fy (xs (k + 1)) (ys (k + 1))) l
        · go_wp2
          refine wp_region_multiA 7 (fun i v => match i with | 0 => v = .agg #[.float .f64 nx, .float .f64 ny] | 1 => v = .agg #[.float .f64 (xs (k + 1)), .float .f64 (ys (k + 1))] | 2 => v = .pointer (some ⟨w.heap.size, 0, none⟩) | 3 => v = .agg #[.float .f64 fx, .float .f64 fy] | 4 => v = .agg #[.float .f64 (Dv .sub (xs (k + 1)) fx), .float .f64 (Dv .sub (ys (k + 1)) fy)] | 5 => v = .float .f64 (dtK nx ny (Dv .sub (xs (k + 1)) fx) (Dv .sub (ys (k + 1)) fy)) | 6 => v = .float .f64 (dtK nx ny (Dv .sub (xs (k + 1)) fx) (Dv .sub (ys (k + 1)) fy)) | _ => False) (fun i => match i with  | _ => none) ?A_wi (by kernel_rfl) (by kernel_rfl) ?hA_wi ?ha_wi ?hq_wi [] rfl ?ht_wi
          case hA_wi =>
            intro s
            simp only [putL, dstO, Act.put, List.getElem?_toArray, List.getElem?_cons_zero, List.getElem?_cons_succ, Option.bind_some, List.setIfInBounds_toArray, List.set_cons_zero, List.set_cons_succ, if_true]
            all_goals exact rfl
          case ha_wi =>
            intro i o ob hi ho hal
            rcases (show i = 0 ∨ i = 1 ∨ i = 2 ∨ i = 3 ∨ i = 4 ∨ i = 5 ∨ i = 6 by omega) with rfl | rfl | rfl | rfl | rfl | rfl | rfl
            · cases hal
            · cases hal
            · cases hal
            · cases hal
            · cases hal
            · cases hal
            · cases hal
          case hq_wi =>
            intro i o hi ho hal s hs W hb K hK
            have y0 := keep hb u0; have y1 := keep hb u1; have y2 := keep hb u2; have y3 := keep hb u3; have y4 := keep hb c0; have y5 := keep hb c1'
            rcases (show i = 0 ∨ i = 1 ∨ i = 2 ∨ i = 3 ∨ i = 4 ∨ i = 5 ∨ i = 6 by omega) with rfl | rfl | rfl | rfl | rfl | rfl | rfl
            · cases ho
              simp only [Act.put, List.setIfInBounds_toArray, List.set_cons_zero, List.set_cons_succ] at hK
              clear hs
              go_simp
              all_goals (try go_wp2_with (first | (go_at_call 52; refine (vSub_d _ (by with_reducible assumption) (by with_reducible assumption) (by with_reducible assumption) (by with_reducible assumption)).mono ?_; rintro e w1 ⟨rfl, hb1⟩) | (go_at_call 115; refine (vDot_d _ (by with_reducible assumption) (by with_reducible assumption) (by with_reducible assumption) (by with_reducible assumption) (by decide)).mono ?_; rintro e w1 ⟨rfl, hb1⟩)))
              all_goals first | exact hK.out _ _ rfl (bl_refl _) | exact hK.out _ _ rfl (by assumption) | exact hK.out _ _ (by assumption) (by assumption)
            · cases ho
              simp only [Act.put, List.setIfInBounds_toArray, List.set_cons_zero, List.set_cons_succ] at hK
              clear hs
              go_simp
              all_goals (try go_wp2_with (first | (go_at_call 52; refine (vSub_d _ (by with_reducible assumption) (by with_reducible assumption) (by with_reducible assumption) (by with_reducible assumption)).mono ?_; rintro e w1 ⟨rfl, hb1⟩) | (go_at_call 115; refine (vDot_d _ (by with_reducible assumption) (by with_reducible assumption) (by with_reducible assumption) (by with_reducible assumption) (by decide)).mono ?_; rintro e w1 ⟨rfl, hb1⟩)))
              all_goals first | exact hK.out _ _ rfl (bl_refl _) | exact hK.out _ _ rfl (by assumption) | exact hK.out _ _ (by assumption) (by assumption)
            · cases ho
              simp only [Act.put, List.setIfInBounds_toArray, List.set_cons_zero, List.set_cons_succ] at hK
              clear hs
              go_simp
              all_goals (try go_wp2_with (first | (go_at_call 52; refine (vSub_d _ (by with_reducible assumption) (by with_reducible assumption) (by with_reducible assumption) (by with_reducible assumption)).mono ?_; rintro e w1 ⟨rfl, hb1⟩) | (go_at_call 115; refine (vDot_d _ (by with_reducible assumption) (by with_reducible assumption) (by with_reducible assumption) (by with_reducible assumption) (by decide)).mono ?_; rintro e w1 ⟨rfl, hb1⟩)))
              all_goals first | exact hK.out _ _ rfl (bl_refl _) | exact hK.out _ _ rfl (by assumption) | exact hK.out _ _ (by assumption) (by assumption)
            · cases ho
              have e2 : s 2 = _ := hs 2 (by decide) (by kernel_rfl)
              simp only [e2] at hK ⊢
              simp only [Act.put, List.setIfInBounds_toArray, List.set_cons_zero, List.set_cons_succ] at hK
              clear hs
              go_simp
              all_goals (try go_wp2_with (first | (go_at_call 52; refine (vSub_d _ (by with_reducible assumption) (by with_reducible assumption) (by with_reducible assumption) (by with_reducible assumption)).mono ?_; rintro e w1 ⟨rfl, hb1⟩) | (go_at_call 115; refine (vDot_d _ (by with_reducible assumption) (by with_reducible assumption) (by with_reducible assumption) (by with_reducible assumption) (by decide)).mono ?_; rintro e w1 ⟨rfl, hb1⟩)))
              all_goals first | exact hK.out _ _ rfl (bl_refl _) | exact hK.out _ _ rfl (by assumption) | exact hK.out _ _ (by assumption) (by assumption)
            · cases ho
              have e1 : s 1 = _ := hs 1 (by decide) (by kernel_rfl)
              have e3 : s 3 = _ := hs 3 (by decide) (by kernel_rfl)
              simp only [e1, e3] at hK ⊢
              simp only [Act.put, List.setIfInBounds_toArray, List.set_cons_zero, List.set_cons_succ] at hK
              clear hs
              go_simp
              all_goals (try go_wp2_with (first | (go_at_call 52; refine (vSub_d _ (by with_reducible assumption) (by with_reducible assumption) (by with_reducible assumption) (by with_reducible assumption)).mono ?_; rintro e w1 ⟨rfl, hb1⟩) | (go_at_call 115; refine (vDot_d _ (by with_reducible assumption) (by with_reducible assumption) (by with_reducible assumption) (by with_reducible assumption) (by decide)).mono ?_; rintro e w1 ⟨rfl, hb1⟩)))
              all_goals first | exact hK.out _ _ rfl (bl_refl _) | exact hK.out _ _ rfl (by assumption) | exact hK.out _ _ (by assumption) (by assumption)
            · cases ho
              have e0 : s 0 = _ := hs 0 (by decide) (by kernel_rfl)
              have e4 : s 4 = _ := hs 4 (by decide) (by kernel_rfl)
              simp only [e0, e4] at hK ⊢
              simp only [Act.put, List.setIfInBounds_toArray, List.set_cons_zero, List.set_cons_succ] at hK
              clear hs
              go_simp
              all_goals (try go_wp2_with (first | (go_at_call 52; refine (vSub_d _ (by with_reducible assumption) (by with_reducible assumption) (by with_reducible assumption) (by with_reducible assumption)).mono ?_; rintro e w1 ⟨rfl, hb1⟩) | (go_at_call 115; refine (vDot_d _ (by with_reducible assumption) (by with_reducible assumption) (by with_reducible assumption) (by with_reducible assumption) (by decide)).mono ?_; rintro e w1 ⟨rfl, hb1⟩)))
              all_goals first | exact hK.out _ _ rfl (bl_refl _) | exact hK.out _ _ rfl (by assumption) | exact hK.out _ _ (by assumption) (by assumption)
            · cases ho
              have e5 : s 5 = _ := hs 5 (by decide) (by kernel_rfl)
              simp only [e5] at hK ⊢
              simp only [Act.put, List.setIfInBounds_toArray, List.set_cons_zero, List.set_cons_succ] at hK
              clear hs
              go_simp
              all_goals (try go_wp2_with (first | (go_at_call 52; refine (vSub_d _ (by with_reducible assumption) (by with_reducible assumption) (by with_reducible assumption) (by with_reducible assumption)).mono ?_; rintro e w1 ⟨rfl, hb1⟩) | (go_at_call 115; refine (vDot_d _ (by with_reducible assumption) (by with_reducible assumption) (by with_reducible assumption) (by with_reducible assumption) (by decide)).mono ?_; rintro e w1 ⟨rfl, hb1⟩)))
              all_goals first | exact hK.out _ _ rfl (bl_refl _) | exact hK.out _ _ rfl (by assumption) | exact hK.out _ _ (by assumption) (by assumption)
          case ht_wi =>
            intro s hs W hb hJ
            have e0 : s 0 = _ := hs 0 (by decide)
            have e1 : s 1 = _ := hs 1 (by decide)
            have e2 : s 2 = _ := hs 2 (by decide)
            have e3 : s 3 = _ := hs 3 (by decide)
            have e4 : s 4 = _ := hs 4 (by decide)
            have e5 : s 5 = _ := hs 5 (by decide)
            have e6 : s 6 = _ := hs 6 (by decide)
            simp only [e0, e1, e2, e3, e4, e5, e6]
            clear hs
            refine tail_end ?_
            rw [← dN_eq] at hw
            go_wp2
            exact ⟨⟨k + 1, l, by omega, by go_num, ah_go hl hw, rfl, bl_trans BA hb, keep hb u0, keep hb u1, keep hb u2, keep hb u3⟩, by simp [intOf]; omega⟩
        · go_wp2
          refine wp_region_multiA 7 (fun i v => match i with | 0 => v = .agg #[.float .f64 nx, .float .f64 ny] | 1 => v = .agg #[.float .f64 (xs (k + 1)), .float .f64 (ys (k + 1))] | 2 => v = .pointer (some ⟨w.heap.size, 0, none⟩) | 3 => v = .agg #[.float .f64 fx, .float .f64 fy] | 4 => v = .agg #[.float .f64 (Dv .sub (xs (k + 1)) fx), .float .f64 (Dv .sub (ys (k + 1)) fy)] | 5 => v = .float .f64 (dtK nx ny (Dv .sub (xs (k + 1)) fx) (Dv .sub (ys (k + 1)) fy)) | 6 => v = .float .f64 (dtK nx ny (Dv .sub (xs (k + 1)) fx) (Dv .sub (ys (k + 1)) fy)) | _ => False) (fun i => match i with  | _ => none) ?A_wi (by kernel_rfl) (by kernel_rfl) ?hA_wi ?ha_wi ?hq_wi [] rfl ?ht_wi
          case hA_wi =>
            intro s
            simp only [putL, dstO, Act.put, List.getElem?_toArray, List.getElem?_cons_zero, List.getElem?_cons_succ, Option.bind_some, List.setIfInBounds_toArray, List.set_cons_zero, List.set_cons_succ, if_true]
            all_goals exact rfl
          case ha_wi =>
            intro i o ob hi ho hal
            rcases (show i = 0 ∨ i = 1 ∨ i = 2 ∨ i = 3 ∨ i = 4 ∨ i = 5 ∨ i = 6 by omega) with rfl | rfl | rfl | rfl | rfl | rfl | rfl
            · cases hal
            · cases hal
            · cases hal
            · cases hal
            · cases hal
            · cases hal
            · cases hal
          case hq_wi =>
            intro i o hi ho hal s hs W hb K hK
            have y0 := keep hb u0; have y1 := keep hb u1; have y2 := keep hb u2; have y3 := keep hb u3; have y4 := keep hb c0; have y5 := keep hb c1'
            rcases (show i = 0 ∨ i = 1 ∨ i = 2 ∨ i = 3 ∨ i = 4 ∨ i = 5 ∨ i = 6 by omega) with rfl | rfl | rfl | rfl | rfl | rfl | rfl
            · cases ho
              simp only [Act.put, List.setIfInBounds_toArray, List.set_cons_zero, List.set_cons_succ] at hK
              clear hs
              go_simp
              all_goals (try go_wp2_with (first | (go_at_call 52; refine (vSub_d _ (by with_reducible assumption) (by with_reducible assumption) (by with_reducible assumption) (by with_reducible assumption)).mono ?_; rintro e w1 ⟨rfl, hb1⟩) | (go_at_call 115; refine (vDot_d _ (by with_reducible assumption) (by with_reducible assumption) (by with_reducible assumption) (by with_reducible assumption) (by decide)).mono ?_; rintro e w1 ⟨rfl, hb1⟩)))
              all_goals first | exact hK.out _ _ rfl (bl_refl _) | exact hK.out _ _ rfl (by assumption) | exact hK.out _ _ (by assumption) (by assumption)
            · cases ho
              simp only [Act.put, List.setIfInBounds_toArray, List.set_cons_zero, List.set_cons_succ] at hK
              clear hs
              go_simp
              all_goals (try go_wp2_with (first | (go_at_call 52; refine (vSub_d _ (by with_reducible assumption) (by with_reducible assumption) (by with_reducible assumption) (by with_reducible assumption)).mono ?_; rintro e w1 ⟨rfl, hb1⟩) | (go_at_call 115; refine (vDot_d _ (by with_reducible assumption) (by with_reducible assumption) (by with_reducible assumption) (by with_reducible assumption) (by decide)).mono ?_; rintro e w1 ⟨rfl, hb1⟩)))
              all_goals first | exact hK.out _ _ rfl (bl_refl _) | exact hK.out _ _ rfl (by assumption) | exact hK.out _ _ (by assumption) (by assumption)
            · cases ho
              simp only [Act.put, List.setIfInBounds_toArray, List.set_cons_zero, List.set_cons_succ] at hK
              clear hs
              go_simp
              all_goals (try go_wp2_with (first | (go_at_call 52; refine (vSub_d _ (by with_reducible assumption) (by with_reducible assumption) (by with_reducible assumption) (by with_reducible assumption)).mono ?_; rintro e w1 ⟨rfl, hb1⟩) | (go_at_call 115; refine (vDot_d _ (by with_reducible assumption) (by with_reducible assumption) (by with_reducible assumption) (by with_reducible assumption) (by decide)).mono ?_; rintro e w1 ⟨rfl, hb1⟩)))
              all_goals first | exact hK.out _ _ rfl (bl_refl _) | exact hK.out _ _ rfl (by assumption) | exact hK.out _ _ (by assumption) (by assumption)
            · cases ho
              have e2 : s 2 = _ := hs 2 (by decide) (by kernel_rfl)
              simp only [e2] at hK ⊢
              simp only [Act.put, List.setIfInBounds_toArray, List.set_cons_zero, List.set_cons_succ] at hK
              clear hs
              go_simp
              all_goals (try go_wp2_with (first | (go_at_call 52; refine (vSub_d _ (by with_reducible assumption) (by with_reducible assumption) (by with_reducible assumption) (by with_reducible assumption)).mono ?_; rintro e w1 ⟨rfl, hb1⟩) | (go_at_call 115; refine (vDot_d _ (by with_reducible assumption) (by with_reducible assumption) (by with_reducible assumption) (by with_reducible assumption) (by decide)).mono ?_; rintro e w1 ⟨rfl, hb1⟩)))
              all_goals first | exact hK.out _ _ rfl (bl_refl _) | exact hK.out _ _ rfl (by assumption) | exact hK.out _ _ (by assumption) (by assumption)
            · cases ho
              have e1 : s 1 = _ := hs 1 (by decide) (by kernel_rfl)
              have e3 : s 3 = _ := hs 3 (by decide) (by kernel_rfl)
              simp only [e1, e3] at hK ⊢
              simp only [Act.put, List.setIfInBounds_toArray, List.set_cons_zero, List.set_cons_succ] at hK
              clear hs
              go_simp
              all_goals (try go_wp2_with (first | (go_at_call 52; refine (vSub_d _ (by with_reducible assumption) (by with_reducible assumption) (by with_reducible assumption) (by with_reducible assumption)).mono ?_; rintro e w1 ⟨rfl, hb1⟩) | (go_at_call 115; refine (vDot_d _ (by with_reducible assumption) (by with_reducible assumption) (by with_reducible assumption) (by with_reducible assumption) (by decide)).mono ?_; rintro e w1 ⟨rfl, hb1⟩)))
              all_goals first | exact hK.out _ _ rfl (bl_refl _) | exact hK.out _ _ rfl (by assumption) | exact hK.out _ _ (by assumption) (by assumption)
            · cases ho
              have e0 : s 0 = _ := hs 0 (by decide) (by kernel_rfl)
              have e4 : s 4 = _ := hs 4 (by decide) (by kernel_rfl)
              simp only [e0, e4] at hK ⊢
              simp only [Act.put, List.setIfInBounds_toArray, List.set_cons_zero, List.set_cons_succ] at hK
              clear hs
              go_simp
              all_goals (try go_wp2_with (first | (go_at_call 52; refine (vSub_d _ (by with_reducible assumption) (by with_reducible assumption) (by with_reducible assumption) (by with_reducible assumption)).mono ?_; rintro e w1 ⟨rfl, hb1⟩) | (go_at_call 115; refine (vDot_d _ (by with_reducible assumption) (by with_reducible assumption) (by with_reducible assumption) (by with_reducible assumption) (by decide)).mono ?_; rintro e w1 ⟨rfl, hb1⟩)))
              all_goals first | exact hK.out _ _ rfl (bl_refl _) | exact hK.out _ _ rfl (by assumption) | exact hK.out _ _ (by assumption) (by assumption)
            · cases ho
              have e5 : s 5 = _ := hs 5 (by decide) (by kernel_rfl)
              simp only [e5] at hK ⊢
              simp only [Act.put, List.setIfInBounds_toArray, List.set_cons_zero, List.set_cons_succ] at hK
              clear hs
              go_simp
              all_goals (try go_wp2_with (first | (go_at_call 52; refine (vSub_d _ (by with_reducible assumption) (by with_reducible assumption) (by with_reducible assumption) (by with_reducible assumption)).mono ?_; rintro e w1 ⟨rfl, hb1⟩) | (go_at_call 115; refine (vDot_d _ (by with_reducible assumption) (by with_reducible assumption) (by with_reducible assumption) (by with_reducible assumption) (by decide)).mono ?_; rintro e w1 ⟨rfl, hb1⟩)))
              all_goals first | exact hK.out _ _ rfl (bl_refl _) | exact hK.out _ _ rfl (by assumption) | exact hK.out _ _ (by assumption) (by assumption)
          case ht_wi =>
            intro s hs W hb hJ
            have e0 : s 0 = _ := hs 0 (by decide)
            have e1 : s 1 = _ := hs 1 (by decide)
            have e2 : s 2 = _ := hs 2 (by decide)
            have e3 : s 3 = _ := hs 3 (by decide)
            have e4 : s 4 = _ := hs 4 (by decide)
            have e5 : s 5 = _ := hs 5 (by decide)
            have e6 : s 6 = _ := hs 6 (by decide)
            simp only [e0, e1, e2, e3, e4, e5, e6]
            clear hs
            refine tail_end ?_
            rw [← dN_eq] at hw
            go_wp2
            exact ⟨⟨k + 1, _, by omega, by go_num, ah_up hl hw, rfl, bl_trans BA hb, keep hb u0, keep hb u1, keep hb u2, keep hb u3⟩, by simp [intOf]; omega⟩
      · have hkm : k = m := by omega
        subst hkm
        go_wp2
        go_ret
        exact ⟨by rw [hm1, hl]; rfl, hB⟩
def apE (us vs : Nat → Nat) (n : Nat) (xs ys : Nat → Nat) (m : Nat) : Int := if chkE us vs n = 0 then chkE xs ys m else chkE us vs n
def apV (us vs : Nat → Nat) (n : Nat) (xs ys : Nat → Nat) (m : Nat) : Int := if apE us vs n xs ys m = 0 then (apS us vs n xs ys m (n - 1) : Int) else 0
def apW (us vs : Nat → Nat) (n : Nat) (xs ys : Nat → Nat) (m : Nat) : Nat := if apE us vs n xs ys m = 0 then apF us vs n xs ys m (n - 1) else 0
theorem ap_go {us vs xs ys : Nat → Nat} {n m k s f : Nat} (h1 : apS us vs n xs ys m k = s) (h2 : apF us vs n xs ys m k = f) (g : ltK .f64 f (ahS us vs n xs ys m (k + 1)) = false) : apS us vs n xs ys m (k + 1) = s ∧ apF us vs n xs ys m (k + 1) = f := by
  constructor
  · show (if _ then _ else _) = _
    rw [h2, g]; exact h1
  · show (if _ then _ else _) = _
    rw [h2, g]; rfl
theorem ap_up {us vs xs ys : Nat → Nat} {n m k f : Nat} (h2 : apF us vs n xs ys m k = f) (g : ltK .f64 f (ahS us vs n xs ys m (k + 1)) = true) : apS us vs n xs ys m (k + 1) = k + 1 ∧ apF us vs n xs ys m (k + 1) = ahS us vs n xs ys m (k + 1) := by
  constructor
  · show (if _ then _ else _) = _
    rw [h2, g]; rfl
  · show (if _ then _ else _) = _
    rw [h2, g]; rfl
theorem apart_none1 (v : Option Addr) (cap : Nat) (V : Value) (w : World) : Calls Try.prog 31 #[.slice v 0 cap, V] w fun e w' => e = .returned (.tuple #[.int .i64 0, .float .f64 0, .int .i64 60]) ∧ Bel w w' := by
  go_enter Try.func31, Try.ntmps31
  go_wp2_with (first | (go_at_call 33; refine (chk_none _ _ (fun _ => 0) (fun _ => 0) _).mono ?_; rintro e w' ⟨rfl, hb⟩))
  refine bodyPost_ret (v := .tuple #[.int .i64 0, .float .f64 0, .int .i64 60]) (by simp [results, Try.results31, go_sem] <;> (first | exact ⟨⟨rfl, rfl⟩, rfl⟩ | exact ⟨rfl, rfl, rfl, rfl⟩ | exact ⟨rfl, rfl, rfl⟩ | exact ⟨rfl, rfl⟩ | rfl)) rfl ⟨rfl, ?_⟩
  repeat (first | exact bl_refl _ | assumption | apply bl_drewN | apply bl_drew | apply bl_alloc | refine bl_set ?_ (by simp <;> omega) | refine bl_trans ?_ (by assumption))
theorem apart_bad (a of n ca : Nat) (us vs : Nat → Nat) (w : World) (hA : Sl w a of n us vs) (oA : Oks us vs n) (pA : 0 < n) (nA : n ≤ maxLen) (cA : n ≤ ca) (V : Value) (hch : ¬ chkE us vs n = 0) : Calls Try.prog 31 #[.slice (some ⟨a, of, none⟩) n ca, V] w fun e w' => e = .returned (.tuple #[.int .i64 0, .float .f64 0, .int .i64 (chkE us vs n)]) ∧ Bel w w' := by
  obtain ⟨v, hv⟩ : ∃ v, chkE us vs n = v := ⟨_, rfl⟩
  rw [hv] at hch
  go_enter Try.func31, Try.ntmps31
  go_wp2_with (first | (go_at_call 33; refine (chk_some _ _ _ _ _ _ _ hA oA pA nA cA).mono ?_; rintro e w' ⟨rfl, hb⟩; rw [hv]))
  all_goals
    refine bodyPost_ret (v := .tuple #[.int .i64 0, .float .f64 0, .int .i64 v]) (by simp [results, Try.results31, go_sem] <;> (first | exact ⟨⟨rfl, rfl⟩, rfl⟩ | exact ⟨rfl, rfl, rfl, rfl⟩ | exact ⟨rfl, rfl, rfl⟩ | exact ⟨rfl, rfl⟩ | rfl)) rfl ⟨by rw [hv], ?_⟩
    repeat (first | exact bl_refl _ | assumption | apply bl_drewN | apply bl_drew | apply bl_alloc | refine bl_set ?_ (by simp <;> omega) | refine bl_trans ?_ (by assumption))
theorem apart_none2 (a of n ca : Nat) (us vs : Nat → Nat) (w : World) (hA : Sl w a of n us vs) (oA : Oks us vs n) (pA : 0 < n) (nA : n ≤ maxLen) (cA : n ≤ ca) (u : Option Addr) (cb : Nat) (hch : chkE us vs n = 0) : Calls Try.prog 31 #[.slice (some ⟨a, of, none⟩) n ca, .slice u 0 cb] w fun e w' => e = .returned (.tuple #[.int .i64 0, .float .f64 0, .int .i64 60]) ∧ Bel w w' := by
  go_enter Try.func31, Try.ntmps31
  go_wp2_with (first | (have zB := B; clear zB; go_at_call 33; refine (chk_none _ _ (fun _ => 0) (fun _ => 0) _).mono ?_; rintro e w_2 ⟨rfl, hb⟩; have C := bl_trans B hb) | (go_at_call 33; refine (chk_some _ _ _ _ _ _ _ hA oA pA nA cA).mono ?_; rintro e w_1 ⟨rfl, hb⟩; rw [hch]; have B := hb))
  refine bodyPost_ret (v := .tuple #[.int .i64 0, .float .f64 0, .int .i64 60]) (by simp [results, Try.results31, go_sem] <;> (first | exact ⟨⟨rfl, rfl⟩, rfl⟩ | exact ⟨rfl, rfl, rfl, rfl⟩ | exact ⟨rfl, rfl, rfl⟩ | exact ⟨rfl, rfl⟩ | rfl)) rfl ⟨rfl, C⟩
set_option maxHeartbeats 2000000 in
theorem apart_d (a of n ca : Nat) (us vs : Nat → Nat) (b off m cap : Nat) (xs ys : Nat → Nat) (w : World) (hA : Sl w a of n us vs) (oA : Oks us vs n) (pA : 0 < n) (nA : n ≤ maxLen) (cA : n ≤ ca) (hs : Sl w b off m xs ys) (o : Oks xs ys m) (hp : 0 < m) (hn : m ≤ maxLen) (hcap : m ≤ cap) (hch : chkE us vs n = 0) :
    Calls Try.prog 31 #[.slice (some ⟨a, of, none⟩) n ca, .slice (some ⟨b, off, none⟩) m cap] w fun e w' => e = .returned (.tuple #[.int .i64 (apV us vs n xs ys m), .float .f64 (apW us vs n xs ys m), .int .i64 (apE us vs n xs ys m)]) ∧ Bel w w' := by
  obtain ⟨gA, h3A, h64A, outA⟩ := chk_ok oA hch
  have eE : apE us vs n xs ys m = chkE xs ys m := by unfold apE; rw [if_pos hch]
  by_cases hc2 : chkE xs ys m = 0
  · obtain ⟨g, h3, h64, _⟩ := chk_ok o hc2
    have c1 := cmp_gt .f64
    have nb : ∀ i, i < n → Bd 40 (us i) ∧ Bd 40 (vs i) ∧ Bd 42 (wX us n i) ∧ Bd 42 (wX vs n i) ∧ Bd 80 (nX us vs n i) ∧ Bd 80 (nY us vs n i) := fun i hi => by
      obtain ⟨w1, w2⟩ := wX_bd gA hi
      obtain ⟨_, n1, n2⟩ := n_bd w1 w2 (out_len (outA i hi))
      exact ⟨(gA i hi).1, (gA i hi).2, w1, w2, n1, n2⟩
    obtain ⟨r1, r2, r3, r4, r5, r6⟩ := nb 0 pA
    go_enter Try.func31, Try.ntmps31
    go_wp2_with (first | (go_at_call 33; refine (chk_some _ _ _ _ _ _ _ (by first | exact hA | exact hs.bel (by assumption)) (by first | exact oA | exact o) (by assumption) (by assumption) (by assumption)).mono ?_; rintro e w' ⟨rfl, hb⟩; (first | (rw [hch]; have Bc := hb) | (rw [hc2]; replace Bc := bl_trans Bc hb))) | (go_at_call 77; refine (edgeOf_d _ _ _ _ _ _ _ (hA.bel Bc) gA 0 pA nA cA).mono ?_; rintro e w' ⟨rfl, hb⟩; replace Bc := bl_trans Bc hb) | (go_at_call 76; refine (ahead_d _ _ _ _ (nX us vs n 0) (nY us vs n 0) _ _ _ _ _ _ _ (hs.bel Bc) g h3 h64 hcap r1 r2 r3 r4 r5 r6 rfl rfl).mono ?_; rintro e w' ⟨rfl, hb⟩; replace Bc := bl_trans Bc hb))
    have q3 : ∀ i, ahK (nX us vs n i) (nY us vs n i) (us i) (vs i) xs ys (m - 1) = ahS us vs n xs ys m i := fun _ => rfl
    rw [q3]
    go_loopw [9, 4, 5] (fun i' s' f' wr => ∃ j k s f : Nat, k + 1 = j ∧ j ≤ n ∧ i' = .int .i64 j ∧ apS us vs n xs ys m k = s ∧ apF us vs n xs ys m k = f ∧ s' = .int .i64 s ∧ f' = .float .f64 f ∧ Bel w wr) (fun i' _ _ _ => n - (intOf i').toNat)
    case atStart => exact ⟨1, 0, _, _, rfl, by omega, rfl, rfl, rfl, rfl, rfl, Bc⟩
    case round =>
      clear Bc
      obtain ⟨j, k, s, f, hjk, hj, rfl, hS, hF, rfl, rfl, Bc⟩ := hrel
      by_cases hlt : j < n
      · have j1 : (j : Int) < (n : Int) := by omega
        obtain ⟨u1, u2, u3, u4, u5, u6⟩ := nb j hlt
        have hA2 := hA.bel Bc
        have hs2 := hs.bel Bc
        cases hw : ltK .f64 f (ahS us vs n xs ys m j)
        all_goals
          go_wp2_with (first | (go_at_call 77; refine (edgeOf_d _ _ _ _ _ _ _ hA2 gA j hlt nA cA).mono ?_; rintro e w' ⟨rfl, hb⟩; replace Bc := bl_trans Bc hb) | (go_at_call 76; refine (ahead_d _ _ _ _ (nX us vs n j) (nY us vs n j) _ _ _ _ _ _ _ (hs.bel Bc) g h3 h64 hcap u1 u2 u3 u4 u5 u6 rfl rfl).mono ?_; rintro e w' ⟨rfl, hb⟩; replace Bc := bl_trans Bc hb; rw [q3]))
        · refine ⟨⟨j + 1, j, s, f, rfl, by omega, by go_num, ?_, ?_, rfl, rfl, Bc⟩, by simp [intOf]; omega⟩
          · subst hjk; exact (ap_go hS hF hw).1
          · subst hjk; exact (ap_go hS hF hw).2
        · refine ⟨⟨j + 1, j, j, _, rfl, by omega, by go_num, ?_, ?_, rfl, rfl, Bc⟩, by simp [intOf]; omega⟩
          · subst hjk; exact (ap_up hF hw).1
          · subst hjk; exact (ap_up hF hw).2
      · have hjn : n - 1 = k := by omega
        go_wp2
        refine bodyPost_ret (v := .tuple #[.int .i64 s, .float .f64 f, .int .i64 0]) (by simp [results, Try.results31, go_sem] <;> (first | exact ⟨⟨rfl, rfl⟩, rfl⟩ | exact ⟨rfl, rfl, rfl, rfl⟩ | exact ⟨rfl, rfl, rfl⟩ | exact ⟨rfl, rfl⟩ | rfl)) rfl ⟨by rw [eE, hc2]; unfold apV apW; rw [eE, hc2, if_pos rfl, if_pos rfl, hjn, hS, hF], Bc⟩
  · obtain ⟨v, hv⟩ : ∃ v, chkE xs ys m = v := ⟨_, rfl⟩
    rw [hv] at hc2
    go_enter Try.func31, Try.ntmps31
    go_wp2_with (first | (go_at_call 33; refine (chk_some _ _ _ _ _ _ _ (by first | exact hA | exact hs.bel (by assumption)) (by first | exact oA | exact o) (by assumption) (by assumption) (by assumption)).mono ?_; rintro e w' ⟨rfl, hb⟩; (first | (rw [hch]; have Bc := hb) | (rw [hv]; replace Bc := bl_trans Bc hb))))
    refine bodyPost_ret (v := .tuple #[.int .i64 0, .float .f64 0, .int .i64 v]) (by simp [results, Try.results31, go_sem] <;> (first | exact ⟨⟨rfl, rfl⟩, rfl⟩ | exact ⟨rfl, rfl, rfl, rfl⟩ | exact ⟨rfl, rfl, rfl⟩ | exact ⟨rfl, rfl⟩ | rfl)) rfl ⟨by unfold apV apW; rw [eE, hv, if_neg hc2, if_neg hc2], Bc⟩

end Go.Proofs.Ytnbkjkbgfcpcfaa
