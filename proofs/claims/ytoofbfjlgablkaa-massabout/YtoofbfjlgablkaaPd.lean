/-
  What each function of package poly answers, and what the reference of its chapter answers: one contract a function, for every float: the answer stands in the relation of its formula to what was given; of the memory that was there nothing has turned.
-/
import Derived.Test.YtoofbfjlgablkaaVec
import Derived.Test.YtoofbfjlgablkaaPc
import Derived.Test.YtoofbfjlgablkaaGel
import Derived.Below
import Derived.Laws.MakeOwn
import Derived.WalkKit
import Derived.WalkLawsBesides
import Derived.WalkSpells
import Derived.ProofKit
import Derived.OpenShut
import Derived.Deep.RegionHeld3
namespace Go.Proofs.Ytoofbfjlgablkaa
open Go.ChangeShapes Go.WideShapes Go.ChangeAt Go.RowKit
set_option linter.unusedVariables false
set_option linter.unusedSimpArgs false


theorem vAdd_n {ax ay bx b_y : Nat} (w : World) (h1 : finK .f64 ax = true) (h2 : finK .f64 ay = true) (h3 : nanK .f64 bx = false) (h4 : nanK .f64 b_y = false) : Calls Try.prog 60 #[.agg #[.float .f64 ax, .float .f64 ay], .agg #[.float .f64 bx, .float .f64 b_y]] w fun e w' => e = .returned (.agg #[.float .f64 (Dv .add ax bx), .float .f64 (Dv .add ay b_y)]) ∧ Bel w w' :=
  (vAdd_any _ _ _ _ w).mono fun e w' ⟨x, y, h, he, hb⟩ => ⟨by obtain ⟨e1, e2⟩ := addR_n h1 h2 h3 h4 h; rw [he, e1, e2], hb⟩
theorem centre_none (v : Option Addr) (cap : Nat) (w : World) : Calls Try.prog 54 #[.slice v 0 cap] w fun e w' => e = .returned (.tuple #[.agg #[.float .f64 0, .float .f64 0], .int .i64 60]) ∧ Bel w w' := by
  go_enter Try.func54, Try.ntmps54
  go_wp2_with (first | (go_at_call 59; refine (fanOf_none _ _ (fun _ => 0) (fun _ => 0) _).mono ?_; rintro e w' ⟨rfl, hb⟩; obtain ⟨K0, K1⟩ : w'.cell? ⟨w.heap.size, 0, none⟩ = some (.float .f64 0) ∧ w'.cell? ⟨w.heap.size, 1, none⟩ = some (.float .f64 0) := ⟨keep hb (by go_keep), keep hb (by go_keep)⟩; have U0 := up_alloc (o := .cells #[.float .f64 0, .float .f64 0, .float .f64 0] 80) K0; have U1 := up_alloc (o := .cells #[.float .f64 0, .float .f64 0, .float .f64 0] 80) K1; have lq := World.block_lt_of_cell? _ _ U0; simp only at lq; have FQ := fun o => fz_alloc (c := #[.float .f64 0, .float .f64 0, .float .f64 0]) (t := 80) ((hb.2 ⟨w.heap.size, o, none⟩).trans (fz_alloc (fresh_frozen (i := o) (Nat.le_refl _))))))
  obtain ⟨R0, R1⟩ := set2 (p := .float .f64 0) (q := .float .f64 0) U0 U1
  refine bodyPost_ret (v := .tuple #[.agg #[.float .f64 0, .float .f64 0], .int .i64 60]) (by simp [R0, R1, results, Try.results54, go_sem] <;> (first | exact ⟨⟨rfl, rfl⟩, rfl⟩ | exact ⟨rfl, rfl, rfl, rfl⟩ | exact ⟨rfl, rfl, rfl⟩ | exact ⟨rfl, rfl⟩ | rfl)) rfl ⟨rfl, ?_⟩
  repeat (first | exact bl_refl _ | assumption | apply bl_drewN | apply bl_drew | apply bl_alloc | refine bl_set ?_ (by simp <;> omega) | refine bl_trans ?_ (by assumption))
theorem fan_pos {xs ys : Nat → Nat} {n : Nat} (h : fanE xs ys n = 0) : ltK .f64 0 (fanA xs ys n) = true := by
  unfold fanA; rw [if_pos h]
  unfold fanE at h
  split at h
  · split at h
    · assumption
    · cases h
  · contradiction
set_option maxHeartbeats 2000000 in
theorem centre_d (b off n cap : Nat) (xs ys : Nat → Nat) (w : World) (hs : Sl w b off n xs ys) (o : Oks xs ys n) (hp : 0 < n) (hn : n ≤ maxLen) (hcap : n ≤ cap) : Calls Try.prog 54 #[.slice (some ⟨b, off, none⟩) n cap] w fun e w' => e = .returned (.tuple #[.agg #[.float .f64 (cenX xs ys n), .float .f64 (cenY xs ys n)], .int .i64 (fanE xs ys n)]) ∧ Bel w w' := by
  obtain ⟨z0, z1⟩ : (w.alloc (.cells #[.float .f64 0, .float .f64 0] 26)).cell? ⟨w.heap.size, 0, none⟩ = some (.float .f64 0) ∧ (w.alloc (.cells #[.float .f64 0, .float .f64 0] 26)).cell? ⟨w.heap.size, 1, none⟩ = some (.float .f64 0) := cell_own (by simp) _ _ _
  obtain ⟨fb1, fb2, fb3⟩ := fan_bd o
  have n0 : (0 : Int) < (n : Int) := by omega
  have hb0 := hs.lt hp
  by_cases hz : fanE xs ys n = 0
  · obtain ⟨m1, m2⟩ := mul3_ne fb1 (by decide) (pos_mg (fan_pos hz))
    have hc : chkE xs ys n = 0 := by
      unfold fanE at hz
      split at hz
      · assumption
      · exact hz
    obtain ⟨g, h3, h64, _⟩ := chk_ok o hc
    have v1 := (g 0 hp).1.2.1
    have v2 := (g 0 hp).2.2.1
    have v3 := quo_num fb2.2.1 m2.2.1 m1
    have v4 := quo_num fb3.2.1 m2.2.1 m1
    have qm := fun t W => run_mul_dv Try.prog t 4613937818241073152 (fanA xs ys n) W (by decide +kernel) fb1.2.1
    have qx := fun t W => run_quo_dv Try.prog t (fanX xs ys n) (fanB xs ys n) W fb2.2.1 m2.2.1 m1
    have qy := fun t W => run_quo_dv Try.prog t (fanY xs ys n) (fanB xs ys n) W fb3.2.1 m2.2.1 m1
    have eB : Dv .mul 4613937818241073152 (fanA xs ys n) = fanB xs ys n := rfl
    go_enter Try.func54, Try.ntmps54
    go_wp2_with (first | (go_at_call 59; refine (fanOf_d _ _ _ _ _ _ _ (hs.bel (bl_alloc (bl_refl w) _ _)) o hp hn hcap).mono ?_; rintro e w_1 ⟨rfl, hb⟩; rw [hz]; have Bw := hb))
    have BA := bl_alloc (bl_trans (bl_alloc (bl_refl w) _ _) Bw) #[.float .f64 (fanA xs ys n), .float .f64 (fanX xs ys n), .float .f64 (fanY xs ys n)] 80
    replace z0 := up_alloc (o := .cells #[.float .f64 (fanA xs ys n), .float .f64 (fanX xs ys n), .float .f64 (fanY xs ys n)] 80) (keep Bw z0)
    replace z1 := up_alloc (o := .cells #[.float .f64 (fanA xs ys n), .float .f64 (fanX xs ys n), .float .f64 (fanY xs ys n)] 80) (keep Bw z1)
    have lz := World.block_lt_of_cell? _ _ z0
    simp only at lz
    have hs2 := hs.bel BA
    obtain ⟨e0', e1', e2'⟩ : (w_1.alloc (.cells #[.float .f64 (fanA xs ys n), .float .f64 (fanX xs ys n), .float .f64 (fanY xs ys n)] 80)).cell? ⟨w_1.heap.size, 0, none⟩ = some (.float .f64 (fanA xs ys n)) ∧ (w_1.alloc (.cells #[.float .f64 (fanA xs ys n), .float .f64 (fanX xs ys n), .float .f64 (fanY xs ys n)] 80)).cell? ⟨w_1.heap.size, 1, none⟩ = some (.float .f64 (fanX xs ys n)) ∧ (w_1.alloc (.cells #[.float .f64 (fanA xs ys n), .float .f64 (fanX xs ys n), .float .f64 (fanY xs ys n)] 80)).cell? ⟨w_1.heap.size, 2, none⟩ = some (.float .f64 (fanY xs ys n)) := cell_own3 rfl _ _ _ _
    refine wp_region_multiA 15 (fun i v => match i with | 0 => v = .slice (some ⟨b, off, none⟩) n cap | 1 => v = .pointer (some ⟨b, off, none⟩) | 2 => v = .agg #[.float .f64 (xs 0), .float .f64 (ys 0)] | 3 => v = .pointer (some ⟨w_1.heap.size, 1, none⟩) | 4 => v = .pointer (some ⟨w_1.heap.size, 1, none⟩) | 5 => v = .float .f64 (fanX xs ys n) | 6 => v = .float .f64 (fanB xs ys n) | 7 => v = .float .f64 (Dv .quo (fanX xs ys n) (fanB xs ys n)) | 8 => v = .pointer (some ⟨w_1.heap.size, 1, none⟩) | 9 => v = .pointer (some ⟨w_1.heap.size, 2, none⟩) | 10 => v = .float .f64 (fanY xs ys n) | 11 => v = .float .f64 (fanB xs ys n) | 12 => v = .float .f64 (Dv .quo (fanY xs ys n) (fanB xs ys n)) | 13 => v = .agg #[.float .f64 (Dv .quo (fanX xs ys n) (fanB xs ys n)), .float .f64 (Dv .quo (fanY xs ys n) (fanB xs ys n))] | 14 => v = .agg #[.float .f64 (Dv .add (xs 0) (Dv .quo (fanX xs ys n) (fanB xs ys n))), .float .f64 (Dv .add (ys 0) (Dv .quo (fanY xs ys n) (fanB xs ys n)))] | _ => False) (fun i => match i with  | _ => none) ?A_wh (by kernel_rfl) (by kernel_rfl) ?hA_wh ?ha_wh ?hq_wh [15, 16] rfl ?ht_wh
    case hA_wh =>
      intro s
      simp only [putL, dstO, Act.put, List.getElem?_toArray, List.getElem?_cons_zero, List.getElem?_cons_succ, Option.bind_some, List.setIfInBounds_toArray, List.set_cons_zero, List.set_cons_succ, if_true]
      all_goals exact rfl
    case ha_wh =>
      intro i o ob hi ho hal
      rcases (show i = 0 ∨ i = 1 ∨ i = 2 ∨ i = 3 ∨ i = 4 ∨ i = 5 ∨ i = 6 ∨ i = 7 ∨ i = 8 ∨ i = 9 ∨ i = 10 ∨ i = 11 ∨ i = 12 ∨ i = 13 ∨ i = 14 by omega) with rfl | rfl | rfl | rfl | rfl | rfl | rfl | rfl | rfl | rfl | rfl | rfl | rfl | rfl | rfl
      · cases hal
      · cases hal
      · cases hal
      · cases hal
      · cases hal
      · cases hal
      · cases hal
      · cases hal
      · cases hal
      · cases hal
      · cases hal
      · cases hal
      · cases hal
      · cases hal
      · cases hal
    case hq_wh =>
      intro i o hi ho hal s hs W hb K hK
      obtain ⟨y0, y1⟩ := (hs2.bel hb) 0 hp; simp only [Nat.zero_mul, Nat.add_zero] at y0 y1; have y2 := keep hb e1'; have y3 := keep hb e2'
      rcases (show i = 0 ∨ i = 1 ∨ i = 2 ∨ i = 3 ∨ i = 4 ∨ i = 5 ∨ i = 6 ∨ i = 7 ∨ i = 8 ∨ i = 9 ∨ i = 10 ∨ i = 11 ∨ i = 12 ∨ i = 13 ∨ i = 14 by omega) with rfl | rfl | rfl | rfl | rfl | rfl | rfl | rfl | rfl | rfl | rfl | rfl | rfl | rfl | rfl
      · cases ho
        simp only [Act.put, List.setIfInBounds_toArray, List.set_cons_zero, List.set_cons_succ] at hK
        clear hs
        go_simp
        all_goals (try go_wp2_with (first | (go_at_call 60; refine (vAdd_n _ v1 v2 v3 v4).mono ?_; rintro e w1 ⟨rfl, hb1⟩)))
        all_goals first | exact hK.out _ _ rfl (bl_refl _) | exact hK.out _ _ rfl (by assumption) | exact hK.out _ _ (by assumption) (by assumption)
      · cases ho
        have e0 : s 0 = _ := hs 0 (by decide) (by kernel_rfl)
        simp only [e0] at hK ⊢
        simp only [Act.put, List.setIfInBounds_toArray, List.set_cons_zero, List.set_cons_succ] at hK
        clear hs
        go_simp
        all_goals (try go_wp2_with (first | (go_at_call 60; refine (vAdd_n _ v1 v2 v3 v4).mono ?_; rintro e w1 ⟨rfl, hb1⟩)))
        all_goals first | exact hK.out _ _ rfl (bl_refl _) | exact hK.out _ _ rfl (by assumption) | exact hK.out _ _ (by assumption) (by assumption)
      · cases ho
        have e1 : s 1 = _ := hs 1 (by decide) (by kernel_rfl)
        simp only [e1] at hK ⊢
        simp only [Act.put, List.setIfInBounds_toArray, List.set_cons_zero, List.set_cons_succ] at hK
        clear hs
        go_simp
        all_goals (try go_wp2_with (first | (go_at_call 60; refine (vAdd_n _ v1 v2 v3 v4).mono ?_; rintro e w1 ⟨rfl, hb1⟩)))
        all_goals first | exact hK.out _ _ rfl (bl_refl _) | exact hK.out _ _ rfl (by assumption) | exact hK.out _ _ (by assumption) (by assumption)
      · cases ho
        simp only [Act.put, List.setIfInBounds_toArray, List.set_cons_zero, List.set_cons_succ] at hK
        clear hs
        go_simp
        all_goals (try go_wp2_with (first | (go_at_call 60; refine (vAdd_n _ v1 v2 v3 v4).mono ?_; rintro e w1 ⟨rfl, hb1⟩)))
        all_goals first | exact hK.out _ _ rfl (bl_refl _) | exact hK.out _ _ rfl (by assumption) | exact hK.out _ _ (by assumption) (by assumption)
      · cases ho
        have e3 : s 3 = _ := hs 3 (by decide) (by kernel_rfl)
        simp only [e3] at hK ⊢
        simp only [Act.put, List.setIfInBounds_toArray, List.set_cons_zero, List.set_cons_succ] at hK
        clear hs
        go_simp
        all_goals (try go_wp2_with (first | (go_at_call 60; refine (vAdd_n _ v1 v2 v3 v4).mono ?_; rintro e w1 ⟨rfl, hb1⟩)))
        all_goals first | exact hK.out _ _ rfl (bl_refl _) | exact hK.out _ _ rfl (by assumption) | exact hK.out _ _ (by assumption) (by assumption)
      · cases ho
        have e4 : s 4 = _ := hs 4 (by decide) (by kernel_rfl)
        simp only [e4] at hK ⊢
        simp only [Act.put, List.setIfInBounds_toArray, List.set_cons_zero, List.set_cons_succ] at hK
        clear hs
        go_simp
        all_goals (try go_wp2_with (first | (go_at_call 60; refine (vAdd_n _ v1 v2 v3 v4).mono ?_; rintro e w1 ⟨rfl, hb1⟩)))
        all_goals first | exact hK.out _ _ rfl (bl_refl _) | exact hK.out _ _ rfl (by assumption) | exact hK.out _ _ (by assumption) (by assumption)
      · cases ho
        simp only [Act.put, List.setIfInBounds_toArray, List.set_cons_zero, List.set_cons_succ] at hK
        clear hs
        go_simp
        all_goals (try go_wp2_with (first | (go_at_call 60; refine (vAdd_n _ v1 v2 v3 v4).mono ?_; rintro e w1 ⟨rfl, hb1⟩)))
        all_goals first | exact hK.out _ _ rfl (bl_refl _) | exact hK.out _ _ rfl (by assumption) | exact hK.out _ _ (by assumption) (by assumption)
      · cases ho
        have e5 : s 5 = _ := hs 5 (by decide) (by kernel_rfl)
        have e6 : s 6 = _ := hs 6 (by decide) (by kernel_rfl)
        simp only [e5, e6] at hK ⊢
        simp only [Act.put, List.setIfInBounds_toArray, List.set_cons_zero, List.set_cons_succ] at hK
        clear hs
        go_simp
        all_goals (try go_wp2_with (first | (go_at_call 60; refine (vAdd_n _ v1 v2 v3 v4).mono ?_; rintro e w1 ⟨rfl, hb1⟩)))
        all_goals first | exact hK.out _ _ rfl (bl_refl _) | exact hK.out _ _ rfl (by assumption) | exact hK.out _ _ (by assumption) (by assumption)
      · cases ho
        simp only [Act.put, List.setIfInBounds_toArray, List.set_cons_zero, List.set_cons_succ] at hK
        clear hs
        go_simp
        all_goals (try go_wp2_with (first | (go_at_call 60; refine (vAdd_n _ v1 v2 v3 v4).mono ?_; rintro e w1 ⟨rfl, hb1⟩)))
        all_goals first | exact hK.out _ _ rfl (bl_refl _) | exact hK.out _ _ rfl (by assumption) | exact hK.out _ _ (by assumption) (by assumption)
      · cases ho
        have e8 : s 8 = _ := hs 8 (by decide) (by kernel_rfl)
        simp only [e8] at hK ⊢
        simp only [Act.put, List.setIfInBounds_toArray, List.set_cons_zero, List.set_cons_succ] at hK
        clear hs
        go_simp
        all_goals (try go_wp2_with (first | (go_at_call 60; refine (vAdd_n _ v1 v2 v3 v4).mono ?_; rintro e w1 ⟨rfl, hb1⟩)))
        all_goals first | exact hK.out _ _ rfl (bl_refl _) | exact hK.out _ _ rfl (by assumption) | exact hK.out _ _ (by assumption) (by assumption)
      · cases ho
        have e9 : s 9 = _ := hs 9 (by decide) (by kernel_rfl)
        simp only [e9] at hK ⊢
        simp only [Act.put, List.setIfInBounds_toArray, List.set_cons_zero, List.set_cons_succ] at hK
        clear hs
        go_simp
        all_goals (try go_wp2_with (first | (go_at_call 60; refine (vAdd_n _ v1 v2 v3 v4).mono ?_; rintro e w1 ⟨rfl, hb1⟩)))
        all_goals first | exact hK.out _ _ rfl (bl_refl _) | exact hK.out _ _ rfl (by assumption) | exact hK.out _ _ (by assumption) (by assumption)
      · cases ho
        simp only [Act.put, List.setIfInBounds_toArray, List.set_cons_zero, List.set_cons_succ] at hK
        clear hs
        go_simp
        all_goals (try go_wp2_with (first | (go_at_call 60; refine (vAdd_n _ v1 v2 v3 v4).mono ?_; rintro e w1 ⟨rfl, hb1⟩)))
        all_goals first | exact hK.out _ _ rfl (bl_refl _) | exact hK.out _ _ rfl (by assumption) | exact hK.out _ _ (by assumption) (by assumption)
      · cases ho
        have e10 : s 10 = _ := hs 10 (by decide) (by kernel_rfl)
        have e11 : s 11 = _ := hs 11 (by decide) (by kernel_rfl)
        simp only [e10, e11] at hK ⊢
        simp only [Act.put, List.setIfInBounds_toArray, List.set_cons_zero, List.set_cons_succ] at hK
        clear hs
        go_simp
        all_goals (try go_wp2_with (first | (go_at_call 60; refine (vAdd_n _ v1 v2 v3 v4).mono ?_; rintro e w1 ⟨rfl, hb1⟩)))
        all_goals first | exact hK.out _ _ rfl (bl_refl _) | exact hK.out _ _ rfl (by assumption) | exact hK.out _ _ (by assumption) (by assumption)
      · cases ho
        have e7 : s 7 = _ := hs 7 (by decide) (by kernel_rfl)
        have e12 : s 12 = _ := hs 12 (by decide) (by kernel_rfl)
        simp only [e7, e12] at hK ⊢
        simp only [Act.put, List.setIfInBounds_toArray, List.set_cons_zero, List.set_cons_succ] at hK
        clear hs
        go_simp
        all_goals (try go_wp2_with (first | (go_at_call 60; refine (vAdd_n _ v1 v2 v3 v4).mono ?_; rintro e w1 ⟨rfl, hb1⟩)))
        all_goals first | exact hK.out _ _ rfl (bl_refl _) | exact hK.out _ _ rfl (by assumption) | exact hK.out _ _ (by assumption) (by assumption)
      · cases ho
        have e2 : s 2 = _ := hs 2 (by decide) (by kernel_rfl)
        have e13 : s 13 = _ := hs 13 (by decide) (by kernel_rfl)
        simp only [e2, e13] at hK ⊢
        simp only [Act.put, List.setIfInBounds_toArray, List.set_cons_zero, List.set_cons_succ] at hK
        clear hs
        go_simp
        all_goals (try go_wp2_with (first | (go_at_call 60; refine (vAdd_n _ v1 v2 v3 v4).mono ?_; rintro e w1 ⟨rfl, hb1⟩)))
        all_goals first | exact hK.out _ _ rfl (bl_refl _) | exact hK.out _ _ rfl (by assumption) | exact hK.out _ _ (by assumption) (by assumption)
    case ht_wh =>
      intro s hs W hb hJ
      have e0 : s 0 = _ := hs 0 (by decide)
      have e1 : s 1 = _ := hs 1 (by decide)
      have e2 : s 2 = _ := hs 2 (by decide)
      have e3 : s 3 = _ := hs 3 (by decide)
      have e4 : s 4 = _ := hs 4 (by decide)
      have e5 : s 5 = _ := hs 5 (by decide)
      have e6 : s 6 = _ := hs 6 (by decide)
      have e7 : s 7 = _ := hs 7 (by decide)
      have e8 : s 8 = _ := hs 8 (by decide)
      have e9 : s 9 = _ := hs 9 (by decide)
      have e10 : s 10 = _ := hs 10 (by decide)
      have e11 : s 11 = _ := hs 11 (by decide)
      have e12 : s 12 = _ := hs 12 (by decide)
      have e13 : s 13 = _ := hs 13 (by decide)
      have e14 : s 14 = _ := hs 14 (by decide)
      simp only [e0, e1, e2, e3, e4, e5, e6, e7, e8, e9, e10, e11, e12, e13, e14]
      clear hs
      have K0 := keep hb z0; have K1 := keep hb z1; have BB := bl_trans BA hb; have FQ := fun o => (BB.2 ⟨w.heap.size, o, none⟩).trans (fresh_frozen (i := o) (Nat.le_refl _)); have lq := Nat.lt_of_lt_of_le lz hb.size
      refine tail_step rfl (fun K hK => ?_)
      go_simp
      refine hK.out _ _ ?_
      clear hK K
      refine tail_step rfl (fun K hK => ?_)
      go_simp
      refine hK.out _ _ ?_
      clear hK K
      refine tail_end ?_
      go_wp2
      obtain ⟨R0, R1⟩ := set2 (p := .float .f64 (Dv .add (xs 0) (Dv .quo (fanX xs ys n) (fanB xs ys n)))) (q := .float .f64 (Dv .add (ys 0) (Dv .quo (fanY xs ys n) (fanB xs ys n)))) K0 K1
      refine bodyPost_ret (v := .tuple #[.agg #[.float .f64 (Dv .add (xs 0) (Dv .quo (fanX xs ys n) (fanB xs ys n))), .float .f64 (Dv .add (ys 0) (Dv .quo (fanY xs ys n) (fanB xs ys n)))], .int .i64 0]) (by simp [R0, R1, results, Try.results54, go_sem] <;> (first | exact ⟨⟨rfl, rfl⟩, rfl⟩ | exact ⟨rfl, rfl, rfl, rfl⟩ | exact ⟨rfl, rfl, rfl⟩ | exact ⟨rfl, rfl⟩ | rfl)) rfl ⟨by unfold cenX cenY; rw [hz, if_pos rfl, if_pos rfl], ?_⟩
      repeat (first | exact BB | refine bl_set ?_ (by simp))
  · obtain ⟨v, hv⟩ : ∃ v, fanE xs ys n = v := ⟨_, rfl⟩
    rw [hv] at hz
    go_enter Try.func54, Try.ntmps54
    go_wp2_with (first | (go_at_call 59; refine (fanOf_d _ _ _ _ _ _ _ (hs.bel (bl_alloc (bl_refl w) _ _)) o hp hn hcap).mono ?_; rintro e w_1 ⟨rfl, hb⟩; rw [hv]; have K0 := up_alloc (o := .cells #[.float .f64 (fanA xs ys n), .float .f64 (fanX xs ys n), .float .f64 (fanY xs ys n)] 80) (keep hb z0); have K1 := up_alloc (o := .cells #[.float .f64 (fanA xs ys n), .float .f64 (fanX xs ys n), .float .f64 (fanY xs ys n)] 80) (keep hb z1); have lq := World.block_lt_of_cell? _ _ K0; simp only at lq; have FQ := fun o => fz_alloc (c := #[.float .f64 (fanA xs ys n), .float .f64 (fanX xs ys n), .float .f64 (fanY xs ys n)]) (t := 80) ((hb.2 ⟨w.heap.size, o, none⟩).trans (fz_alloc (fresh_frozen (i := o) (Nat.le_refl _))))))
    all_goals
      obtain ⟨R0, R1⟩ := set2 (p := .float .f64 0) (q := .float .f64 0) K0 K1
      refine bodyPost_ret (v := .tuple #[.agg #[.float .f64 0, .float .f64 0], .int .i64 v]) (by simp [R0, R1, results, Try.results54, go_sem] <;> (first | exact ⟨⟨rfl, rfl⟩, rfl⟩ | exact ⟨rfl, rfl, rfl, rfl⟩ | exact ⟨rfl, rfl, rfl⟩ | exact ⟨rfl, rfl⟩ | rfl)) rfl ⟨by unfold cenX cenY; rw [hv, if_neg hz, if_neg hz], ?_⟩
      repeat (first | exact bl_refl _ | assumption | apply bl_drewN | apply bl_drew | apply bl_alloc | refine bl_set ?_ (by simp <;> omega) | refine bl_trans ?_ (by assumption))
theorem cell_apart {W : World} {b o o' : Nat} {v x : Value} (hne : o ≠ o') (h : W.cell? ⟨b, o', none⟩ = some v) : (W.setCell ⟨b, o, none⟩ x).cell? ⟨b, o', none⟩ = some v := (far_off hne).trans h
theorem Sl.set {w : World} {b off n i : Nat} {xs ys : Nat → Nat} (h : Sl w b off n xs ys) (hi : i < n) (x y : Nat) : Sl ((w.setCell ⟨b, off + i * 2, none⟩ (.float .f64 x)).setCell ⟨b, off + i * 2 + 1, none⟩ (.float .f64 y)) b off n (upd xs i x) (upd ys i y) := by
  intro j hj
  by_cases e : j = i
  · subst e
    rw [upd_same, upd_same]
    refine ⟨cell_apart (by omega) (World.cell?_setCell_same _ _ _ (h j hj).1), ?_⟩
    exact World.cell?_setCell_same _ _ _ (cell_apart (by omega) (h j hj).2)
  · rw [upd_other e, upd_other e]
    exact ⟨cell_apart (by omega) (cell_apart (by omega) (h j hj).1), cell_apart (by omega) (cell_apart (by omega) (h j hj).2)⟩
theorem Sl.far {w : World} {b off n c o : Nat} {xs ys : Nat → Nat} {v : Value} (h : Sl w b off n xs ys) (hc : c ≠ b) : Sl (w.setCell ⟨c, o, none⟩ v) b off n xs ys := fun i hi => ⟨up_set2 hc (h i hi).1, up_set2 hc (h i hi).2⟩
theorem Sl.eq {w : World} {b off n : Nat} {xs ys xs' ys' : Nat → Nat} (h : Sl w b off n xs ys) (e1 : ∀ i, i < n → xs i = xs' i) (e2 : ∀ i, i < n → ys i = ys' i) : Sl w b off n xs' ys' := fun i hi => by rw [← e1 i hi, ← e2 i hi]; exact h i hi
theorem made_sl (W : World) (t : TypeId) (n : Nat) : Sl (W.alloc (.cells (madeCells #[.float .f64 0, .float .f64 0] (n * 2)) t)) W.heap.size 0 n (fun _ => 0) (fun _ => 0) := by
  intro i hi
  have h1 : i * 2 < n * 2 := by omega
  have h2 : i * 2 + 1 < n * 2 := by omega
  have m1 : i * 2 % 2 = 0 := by omega
  have m2 : (i * 2 + 1) % 2 = 1 := by omega
  constructor <;> simp [madeCells, h1, h2, m1, m2]
theorem make_vec (n : Nat) (hn : n ≤ 1000) (W : World) : (Instr.makeSlice 42 (.int .i64 n) (.int .i64 n)).run Try.prog W = .ok (.slice (some ⟨W.heap.size, 0, none⟩) n n) (W.alloc (.cells (madeCells #[.float .f64 0, .float .f64 0] (n * 2)) 26)) := by
  have h := run_make (P := Try.prog) W 42 26 Try.t26 (.agg #[.float .f64 0, .float .f64 0]) Try.underlying42 (by kernel_rfl) (by kernel_rfl) .i64 .i64 n n (by omega) (by omega) (by show ((16 : Nat) : Int) * n ≤ _; omega) (by omega)
  exact h

end Go.Proofs.Ytoofbfjlgablkaa
