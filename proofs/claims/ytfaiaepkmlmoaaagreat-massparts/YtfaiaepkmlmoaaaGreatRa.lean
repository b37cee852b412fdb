/-
  What each function of package poly answers, and what the reference of its chapter answers: one contract a function, for every float: the answer stands in the relation of its formula to what was given; of the memory that was there nothing has turned.
-/
import Derived.Test.YtfaiaepkmlmoaaaGreatVec
import Derived.Test.YtfaiaepkmlmoaaaGreatPd
import Derived.Below
import Derived.WalkKit
import Derived.WalkLawsBesides
import Derived.WalkSpells
import Derived.ProofKit
import Derived.OpenShut
import Derived.Deep.RegionHeld3
namespace Go.Proofs.YtfaiaepkmlmoaaaGreat
open Go.ChangeShapes Go.WideShapes Go.ChangeAt Go.RowKit
set_option linter.unusedVariables false
set_option linter.unusedSimpArgs false


theorem lead_d (ax ay bx b_y : Nat) (w : World) (h1 : Bd 40 ax) (h2 : Bd 40 ay) (h3 : Bd 40 bx) (h4 : Bd 40 b_y) : Calls Tryz.prog 83 #[.agg #[.float .f64 ax, .float .f64 ay], .agg #[.float .f64 bx, .float .f64 b_y]] w fun e w' => e = .returned (.agg #[.float .f64 (Dv .sub bx ax), .float .f64 (Dv .sub b_y ay)]) ∧ Bel w w' := by
  go_enter Tryz.func83, Tryz.ntmps83
  go_wp2_with (first | (go_at_call 43; refine (rSub_d _ (by with_reducible assumption) (by with_reducible assumption) (by with_reducible assumption) (by with_reducible assumption)).mono ?_; rintro e w' ⟨rfl, hb⟩; have B := hb; obtain ⟨hc, hf⟩ := bcell B; have hz := B.size; (try simp at hz)))
  refine bodyPost_ret (v := .agg #[.float .f64 _, .float .f64 _]) (by simp [hc, results, Tryz.results83, go_sem] <;> (first | exact ⟨rfl, rfl⟩ | rfl)) rfl ⟨rfl, ?_⟩
  repeat (first | exact bl_refl _ | assumption | apply bl_drewN | apply bl_drew | apply bl_alloc | refine bl_set ?_ (by simp <;> omega) | refine bl_trans ?_ (by assumption))
theorem next_d (b off n cap i : Nat) (hi : i < n) (hn : n ≤ maxLen) (j : Nat) (et : ((i : Int) + 1).tmod (n : Int) = (j : Int)) (w : World) : Calls Tryz.prog 80 #[.slice (some ⟨b, off, none⟩) n cap, .int .i64 i] w fun e w' => e = .returned (.int .i64 (j : Int)) ∧ Bel w w' := by
  unfold maxLen at hn
  have hne : ¬ n = 0 := by omega
  have wi : IntKind.wrap .i64 ((i : Int) + 1) = (i : Int) + 1 := by rw [IntKind.wrap_i64]; omega
  go_enter Tryz.func80, Tryz.ntmps80
  go_wp2
  go_ret
  exact ⟨rfl, bl_refl _⟩
set_option maxHeartbeats 1000000 in
theorem way_d (b off n cap : Nat) (xs ys : Nat → Nat) (w : World) (hs : Sl w b off n xs ys) (g : Gd xs ys n) (ix : Nat) (hix : ix < n) (hn : n ≤ maxLen) (hcap : n ≤ cap) : Calls Tryz.prog 79 #[.slice (some ⟨b, off, none⟩) n cap, .int .i64 ix] w fun e w' => e = .returned (.agg #[.float .f64 (wX xs n ix), .float .f64 (wX ys n ix)]) ∧ Bel w w' := by
  obtain ⟨j, hj, et, ex, ey⟩ := next_of xs ys hix
  obtain ⟨g1, g2⟩ := g ix hix
  obtain ⟨g3, g4⟩ := g j hj
  have i1 : (ix : Int) < (n : Int) := by omega
  have j0 : (0 : Int) ≤ (j : Int) := by omega
  have j1 : (j : Int) < (n : Int) := by omega
  obtain ⟨z0, z1⟩ : (w.alloc (.cells #[.float .f64 0, .float .f64 0] 32)).cell? ⟨w.heap.size, 0, none⟩ = some (.float .f64 0) ∧ (w.alloc (.cells #[.float .f64 0, .float .f64 0] 32)).cell? ⟨w.heap.size, 1, none⟩ = some (.float .f64 0) := cell_own (by simp) _ _ _
  have BA := bl_alloc (bl_refl w) #[.float .f64 0, .float .f64 0] 32
  have hs1 := hs.bel BA
  go_enter Tryz.func79, Tryz.ntmps79
  go_wp2
  refine wp_region_multiA 11 (fun i v => match i with | 0 => v = .slice (some ⟨b, off, none⟩) n cap | 1 => v = .int .i64 (ix : Int) | 2 => v = .pointer (some ⟨b, off + ix * 2, none⟩) | 3 => v = .agg #[.float .f64 (xs ix), .float .f64 (ys ix)] | 4 => v = .slice (some ⟨b, off, none⟩) n cap | 5 => v = .slice (some ⟨b, off, none⟩) n cap | 6 => v = .int .i64 (ix : Int) | 7 => v = .int .i64 (j : Int) | 8 => v = .pointer (some ⟨b, off + j * 2, none⟩) | 9 => v = .agg #[.float .f64 (xs j), .float .f64 (ys j)] | 10 => v = .agg #[.float .f64 (Dv .sub (xs j) (xs ix)), .float .f64 (Dv .sub (ys j) (ys ix))] | _ => False) (fun i => match i with  | _ => none) ?A_wh (by kernel_rfl) (by kernel_rfl) ?hA_wh ?ha_wh ?hq_wh [11] rfl ?ht_wh
  case hA_wh =>
    intro s
    simp only [putL, dstO, Act.put, List.getElem?_toArray, List.getElem?_cons_zero, List.getElem?_cons_succ, Option.bind_some, List.setIfInBounds_toArray, List.set_cons_zero, List.set_cons_succ, if_true]
    all_goals exact rfl
  case ha_wh =>
    intro i o ob hi ho hal
    rcases (show i = 0 ∨ i = 1 ∨ i = 2 ∨ i = 3 ∨ i = 4 ∨ i = 5 ∨ i = 6 ∨ i = 7 ∨ i = 8 ∨ i = 9 ∨ i = 10 by omega) with rfl | rfl | rfl | rfl | rfl | rfl | rfl | rfl | rfl | rfl | rfl
    · cases hal
    · cases hal
    · cases hal
    · cases hal
    · cases hal
    · cases hal
    · cases hal
    · cases hal
    · cases hal
    · cases hal
    · cases hal
  case hq_wh =>
    intro i o hi ho hal s hs W hb K hK
    obtain ⟨y0, y1⟩ := (hs1.bel hb) ix hix; obtain ⟨y2, y3⟩ := (hs1.bel hb) j hj
    rcases (show i = 0 ∨ i = 1 ∨ i = 2 ∨ i = 3 ∨ i = 4 ∨ i = 5 ∨ i = 6 ∨ i = 7 ∨ i = 8 ∨ i = 9 ∨ i = 10 by omega) with rfl | rfl | rfl | rfl | rfl | rfl | rfl | rfl | rfl | rfl | rfl
    · cases ho
      simp only [Act.put, List.setIfInBounds_toArray, List.set_cons_zero, List.set_cons_succ] at hK
      clear hs
      go_simp
      all_goals (try go_wp2_with (first | (go_at_call 83; refine (lead_d _ _ _ _ _ (by with_reducible assumption) (by with_reducible assumption) (by with_reducible assumption) (by with_reducible assumption)).mono ?_; rintro e w1 ⟨rfl, hb1⟩) | (go_at_call 80; refine (next_d b off n cap ix hix hn j et _).mono ?_; rintro e w1 ⟨rfl, hb1⟩)))
      all_goals first | exact hK.out _ _ rfl (bl_refl _) | exact hK.out _ _ rfl (by assumption) | exact hK.out _ _ (by assumption) (by assumption)
    · cases ho
      simp only [Act.put, List.setIfInBounds_toArray, List.set_cons_zero, List.set_cons_succ] at hK
      clear hs
      go_simp
      all_goals (try go_wp2_with (first | (go_at_call 83; refine (lead_d _ _ _ _ _ (by with_reducible assumption) (by with_reducible assumption) (by with_reducible assumption) (by with_reducible assumption)).mono ?_; rintro e w1 ⟨rfl, hb1⟩) | (go_at_call 80; refine (next_d b off n cap ix hix hn j et _).mono ?_; rintro e w1 ⟨rfl, hb1⟩)))
      all_goals first | exact hK.out _ _ rfl (bl_refl _) | exact hK.out _ _ rfl (by assumption) | exact hK.out _ _ (by assumption) (by assumption)
    · cases ho
      have e0 : s 0 = _ := hs 0 (by decide) (by kernel_rfl)
      have e1 : s 1 = _ := hs 1 (by decide) (by kernel_rfl)
      simp only [e0, e1] at hK ⊢
      simp only [Act.put, List.setIfInBounds_toArray, List.set_cons_zero, List.set_cons_succ] at hK
      clear hs
      go_simp
      all_goals (try go_wp2_with (first | (go_at_call 83; refine (lead_d _ _ _ _ _ (by with_reducible assumption) (by with_reducible assumption) (by with_reducible assumption) (by with_reducible assumption)).mono ?_; rintro e w1 ⟨rfl, hb1⟩) | (go_at_call 80; refine (next_d b off n cap ix hix hn j et _).mono ?_; rintro e w1 ⟨rfl, hb1⟩)))
      all_goals first | exact hK.out _ _ rfl (bl_refl _) | exact hK.out _ _ rfl (by assumption) | exact hK.out _ _ (by assumption) (by assumption)
    · cases ho
      have e2 : s 2 = _ := hs 2 (by decide) (by kernel_rfl)
      simp only [e2] at hK ⊢
      simp only [Act.put, List.setIfInBounds_toArray, List.set_cons_zero, List.set_cons_succ] at hK
      clear hs
      go_simp
      all_goals (try go_wp2_with (first | (go_at_call 83; refine (lead_d _ _ _ _ _ (by with_reducible assumption) (by with_reducible assumption) (by with_reducible assumption) (by with_reducible assumption)).mono ?_; rintro e w1 ⟨rfl, hb1⟩) | (go_at_call 80; refine (next_d b off n cap ix hix hn j et _).mono ?_; rintro e w1 ⟨rfl, hb1⟩)))
      all_goals first | exact hK.out _ _ rfl (bl_refl _) | exact hK.out _ _ rfl (by assumption) | exact hK.out _ _ (by assumption) (by assumption)
    · cases ho
      simp only [Act.put, List.setIfInBounds_toArray, List.set_cons_zero, List.set_cons_succ] at hK
      clear hs
      go_simp
      all_goals (try go_wp2_with (first | (go_at_call 83; refine (lead_d _ _ _ _ _ (by with_reducible assumption) (by with_reducible assumption) (by with_reducible assumption) (by with_reducible assumption)).mono ?_; rintro e w1 ⟨rfl, hb1⟩) | (go_at_call 80; refine (next_d b off n cap ix hix hn j et _).mono ?_; rintro e w1 ⟨rfl, hb1⟩)))
      all_goals first | exact hK.out _ _ rfl (bl_refl _) | exact hK.out _ _ rfl (by assumption) | exact hK.out _ _ (by assumption) (by assumption)
    · cases ho
      simp only [Act.put, List.setIfInBounds_toArray, List.set_cons_zero, List.set_cons_succ] at hK
      clear hs
      go_simp
      all_goals (try go_wp2_with (first | (go_at_call 83; refine (lead_d _ _ _ _ _ (by with_reducible assumption) (by with_reducible assumption) (by with_reducible assumption) (by with_reducible assumption)).mono ?_; rintro e w1 ⟨rfl, hb1⟩) | (go_at_call 80; refine (next_d b off n cap ix hix hn j et _).mono ?_; rintro e w1 ⟨rfl, hb1⟩)))
      all_goals first | exact hK.out _ _ rfl (bl_refl _) | exact hK.out _ _ rfl (by assumption) | exact hK.out _ _ (by assumption) (by assumption)
    · cases ho
      simp only [Act.put, List.setIfInBounds_toArray, List.set_cons_zero, List.set_cons_succ] at hK
      clear hs
      go_simp
      all_goals (try go_wp2_with (first | (go_at_call 83; refine (lead_d _ _ _ _ _ (by with_reducible assumption) (by with_reducible assumption) (by with_reducible assumption) (by with_reducible assumption)).mono ?_; rintro e w1 ⟨rfl, hb1⟩) | (go_at_call 80; refine (next_d b off n cap ix hix hn j et _).mono ?_; rintro e w1 ⟨rfl, hb1⟩)))
      all_goals first | exact hK.out _ _ rfl (bl_refl _) | exact hK.out _ _ rfl (by assumption) | exact hK.out _ _ (by assumption) (by assumption)
    · cases ho
      have e5 : s 5 = _ := hs 5 (by decide) (by kernel_rfl)
      have e6 : s 6 = _ := hs 6 (by decide) (by kernel_rfl)
      simp only [e5, e6] at hK ⊢
      simp only [Act.put, List.setIfInBounds_toArray, List.set_cons_zero, List.set_cons_succ] at hK
      clear hs
      go_simp
      all_goals (try go_wp2_with (first | (go_at_call 83; refine (lead_d _ _ _ _ _ (by with_reducible assumption) (by with_reducible assumption) (by with_reducible assumption) (by with_reducible assumption)).mono ?_; rintro e w1 ⟨rfl, hb1⟩) | (go_at_call 80; refine (next_d b off n cap ix hix hn j et _).mono ?_; rintro e w1 ⟨rfl, hb1⟩)))
      all_goals first | exact hK.out _ _ rfl (bl_refl _) | exact hK.out _ _ rfl (by assumption) | exact hK.out _ _ (by assumption) (by assumption)
    · cases ho
      have e4 : s 4 = _ := hs 4 (by decide) (by kernel_rfl)
      have e7 : s 7 = _ := hs 7 (by decide) (by kernel_rfl)
      simp only [e4, e7] at hK ⊢
      simp only [Act.put, List.setIfInBounds_toArray, List.set_cons_zero, List.set_cons_succ] at hK
      clear hs
      go_simp
      all_goals (try go_wp2_with (first | (go_at_call 83; refine (lead_d _ _ _ _ _ (by with_reducible assumption) (by with_reducible assumption) (by with_reducible assumption) (by with_reducible assumption)).mono ?_; rintro e w1 ⟨rfl, hb1⟩) | (go_at_call 80; refine (next_d b off n cap ix hix hn j et _).mono ?_; rintro e w1 ⟨rfl, hb1⟩)))
      all_goals first | exact hK.out _ _ rfl (bl_refl _) | exact hK.out _ _ rfl (by assumption) | exact hK.out _ _ (by assumption) (by assumption)
    · cases ho
      have e8 : s 8 = _ := hs 8 (by decide) (by kernel_rfl)
      simp only [e8] at hK ⊢
      simp only [Act.put, List.setIfInBounds_toArray, List.set_cons_zero, List.set_cons_succ] at hK
      clear hs
      go_simp
      all_goals (try go_wp2_with (first | (go_at_call 83; refine (lead_d _ _ _ _ _ (by with_reducible assumption) (by with_reducible assumption) (by with_reducible assumption) (by with_reducible assumption)).mono ?_; rintro e w1 ⟨rfl, hb1⟩) | (go_at_call 80; refine (next_d b off n cap ix hix hn j et _).mono ?_; rintro e w1 ⟨rfl, hb1⟩)))
      all_goals first | exact hK.out _ _ rfl (bl_refl _) | exact hK.out _ _ rfl (by assumption) | exact hK.out _ _ (by assumption) (by assumption)
    · cases ho
      have e3 : s 3 = _ := hs 3 (by decide) (by kernel_rfl)
      have e9 : s 9 = _ := hs 9 (by decide) (by kernel_rfl)
      simp only [e3, e9] at hK ⊢
      simp only [Act.put, List.setIfInBounds_toArray, List.set_cons_zero, List.set_cons_succ] at hK
      clear hs
      go_simp
      all_goals (try go_wp2_with (first | (go_at_call 83; refine (lead_d _ _ _ _ _ (by with_reducible assumption) (by with_reducible assumption) (by with_reducible assumption) (by with_reducible assumption)).mono ?_; rintro e w1 ⟨rfl, hb1⟩) | (go_at_call 80; refine (next_d b off n cap ix hix hn j et _).mono ?_; rintro e w1 ⟨rfl, hb1⟩)))
      all_goals first | exact hK.out _ _ rfl (bl_refl _) | exact hK.out _ _ rfl (by assumption) | exact hK.out _ _ (by assumption) (by assumption)
  case ht_wh =>
    intro s hs W hb hJ
    have e0 : s 0 = _ := hs 0 (by decide)
    have e1 : s 1 = _ := hs 1 (by decide)
    have e2 : s 2 = _ := hs 2 (by decide)
    have e3 : s 3 = _ := hs 3 (by decide)
    have e4 : s 4 = _ := hs 4 (by decide)
    have e5 : s 5 = _ := hs 5 (by decide)
    have e6 : s 6 = _ := hs 6 (by decide)
    have e7 : s 7 = _ := hs 7 (by decide)
    have e8 : s 8 = _ := hs 8 (by decide)
    have e9 : s 9 = _ := hs 9 (by decide)
    have e10 : s 10 = _ := hs 10 (by decide)
    simp only [e0, e1, e2, e3, e4, e5, e6, e7, e8, e9, e10]
    clear hs
    have K0 := keep hb z0; have K1 := keep hb z1; have BB := bl_trans BA hb; have FQ := fun o => (BB.2 ⟨w.heap.size, o, none⟩).trans (fresh_frozen (i := o) (Nat.le_refl _)); have lq := World.block_lt_of_cell? _ _ K0; simp only at lq
    refine tail_step rfl (fun K hK => ?_)
    go_simp
    refine hK.out _ _ ?_
    clear hK K
    refine tail_end ?_
    go_wp2
    obtain ⟨R0, R1⟩ := set2 (p := .float .f64 (Dv .sub (xs j) (xs ix))) (q := .float .f64 (Dv .sub (ys j) (ys ix))) K0 K1
    refine bodyPost_ret (v := .agg #[.float .f64 _, .float .f64 _]) (by simp [R0, R1, results, Tryz.results79, go_sem] <;> (first | exact ⟨rfl, rfl⟩ | rfl)) rfl ⟨by first | rfl | rw [ex, ey], ?_⟩
    repeat (first | exact BB | refine bl_set ?_ (by simp))
set_option maxHeartbeats 1000000 in
theorem left_d (b off n cap : Nat) (xs ys : Nat → Nat) (w : World) (hs : Sl w b off n xs ys) (g : Gd xs ys n) (ix : Nat) (hix : ix < n) (hn : n ≤ maxLen) (hcap : n ≤ cap) (p q : Nat) (b1 : Bd 40 p) (b2 : Bd 40 q) : Calls Tryz.prog 81 #[.slice (some ⟨b, off, none⟩) n cap, .int .i64 ix, .agg #[.float .f64 p, .float .f64 q]] w fun e w' => e = .returned (.float .f64 (lnS xs ys n ix p q)) ∧ Bel w w' := by
  obtain ⟨g1, g2⟩ := g ix hix
  obtain ⟨g3, g4⟩ := wX_bd g hix
  have m1 : Bd 42 (Dv .sub p (xs ix)) := bd_sub b1 g1 (by decide)
  have m2 : Bd 42 (Dv .sub q (ys ix)) := bd_sub b2 g2 (by decide)
  have i1 : (ix : Int) < (n : Int) := by omega
  obtain ⟨z0, z1⟩ : (w.alloc (.cells #[.float .f64 p, .float .f64 q] 32)).cell? ⟨w.heap.size, 0, none⟩ = some (.float .f64 p) ∧ (w.alloc (.cells #[.float .f64 p, .float .f64 q] 32)).cell? ⟨w.heap.size, 1, none⟩ = some (.float .f64 q) := cell_own (by simp) _ _ _
  have BA := bl_alloc (bl_refl w) #[.float .f64 p, .float .f64 q] 32
  have hs1 := hs.bel BA
  go_enter Tryz.func81, Tryz.ntmps81
  go_wp2
  refine wp_region_multiA 11 (fun i v => match i with | 0 => v = .slice (some ⟨b, off, none⟩) n cap | 1 => v = .int .i64 (ix : Int) | 2 => v = .agg #[.float .f64 (wX xs n ix), .float .f64 (wX ys n ix)] | 3 => v = .slice (some ⟨b, off, none⟩) n cap | 4 => v = .int .i64 (ix : Int) | 5 => v = .pointer (some ⟨b, off + ix * 2, none⟩) | 6 => v = .agg #[.float .f64 (xs ix), .float .f64 (ys ix)] | 7 => v = .agg #[.float .f64 p, .float .f64 q] | 8 => v = .agg #[.float .f64 (Dv .sub p (xs ix)), .float .f64 (Dv .sub q (ys ix))] | 9 => v = .float .f64 (lnS xs ys n ix p q) | 10 => v = .float .f64 (lnS xs ys n ix p q) | _ => False) (fun i => match i with  | _ => none) ?A_wh (by kernel_rfl) (by kernel_rfl) ?hA_wh ?ha_wh ?hq_wh [] rfl ?ht_wh
  case hA_wh =>
    intro s
    simp only [putL, dstO, Act.put, List.getElem?_toArray, List.getElem?_cons_zero, List.getElem?_cons_succ, Option.bind_some, List.setIfInBounds_toArray, List.set_cons_zero, List.set_cons_succ, if_true]
    all_goals exact rfl
  case ha_wh =>
    intro i o ob hi ho hal
    rcases (show i = 0 ∨ i = 1 ∨ i = 2 ∨ i = 3 ∨ i = 4 ∨ i = 5 ∨ i = 6 ∨ i = 7 ∨ i = 8 ∨ i = 9 ∨ i = 10 by omega) with rfl | rfl | rfl | rfl | rfl | rfl | rfl | rfl | rfl | rfl | rfl
    · cases hal
    · cases hal
    · cases hal
    · cases hal
    · cases hal
    · cases hal
    · cases hal
    · cases hal
    · cases hal
    · cases hal
    · cases hal
  case hq_wh =>
    intro i o hi ho hal s hs W hb K hK
    obtain ⟨y0, y1⟩ := (hs1.bel hb) ix hix; have y2 := keep hb z0; have y3 := keep hb z1
    rcases (show i = 0 ∨ i = 1 ∨ i = 2 ∨ i = 3 ∨ i = 4 ∨ i = 5 ∨ i = 6 ∨ i = 7 ∨ i = 8 ∨ i = 9 ∨ i = 10 by omega) with rfl | rfl | rfl | rfl | rfl | rfl | rfl | rfl | rfl | rfl | rfl
    · cases ho
      simp only [Act.put, List.setIfInBounds_toArray, List.set_cons_zero, List.set_cons_succ] at hK
      clear hs
      go_simp
      all_goals (try go_wp2_with (first | (go_at_call 79; refine (way_d b off n cap xs ys _ (hs1.bel hb) g ix hix hn hcap).mono ?_; rintro e w1 ⟨rfl, hb1⟩) | (go_at_call 83; refine (lead_d _ _ _ _ _ (by with_reducible assumption) (by with_reducible assumption) (by with_reducible assumption) (by with_reducible assumption)).mono ?_; rintro e w1 ⟨rfl, hb1⟩) | (go_at_call 65; refine (rCross_d _ (by with_reducible assumption) (by with_reducible assumption) (by with_reducible assumption) (by with_reducible assumption) (by decide)).mono ?_; rintro e w1 ⟨rfl, hb1⟩)))
      all_goals first | exact hK.out _ _ rfl (bl_refl _) | exact hK.out _ _ rfl (by assumption) | exact hK.out _ _ (by assumption) (by assumption)
    · cases ho
      simp only [Act.put, List.setIfInBounds_toArray, List.set_cons_zero, List.set_cons_succ] at hK
      clear hs
      go_simp
      all_goals (try go_wp2_with (first | (go_at_call 79; refine (way_d b off n cap xs ys _ (hs1.bel hb) g ix hix hn hcap).mono ?_; rintro e w1 ⟨rfl, hb1⟩) | (go_at_call 83; refine (lead_d _ _ _ _ _ (by with_reducible assumption) (by with_reducible assumption) (by with_reducible assumption) (by with_reducible assumption)).mono ?_; rintro e w1 ⟨rfl, hb1⟩) | (go_at_call 65; refine (rCross_d _ (by with_reducible assumption) (by with_reducible assumption) (by with_reducible assumption) (by with_reducible assumption) (by decide)).mono ?_; rintro e w1 ⟨rfl, hb1⟩)))
      all_goals first | exact hK.out _ _ rfl (bl_refl _) | exact hK.out _ _ rfl (by assumption) | exact hK.out _ _ (by assumption) (by assumption)
    · cases ho
      have e0 : s 0 = _ := hs 0 (by decide) (by kernel_rfl)
      have e1 : s 1 = _ := hs 1 (by decide) (by kernel_rfl)
      simp only [e0, e1] at hK ⊢
      simp only [Act.put, List.setIfInBounds_toArray, List.set_cons_zero, List.set_cons_succ] at hK
      clear hs
      go_simp
      all_goals (try go_wp2_with (first | (go_at_call 79; refine (way_d b off n cap xs ys _ (hs1.bel hb) g ix hix hn hcap).mono ?_; rintro e w1 ⟨rfl, hb1⟩) | (go_at_call 83; refine (lead_d _ _ _ _ _ (by with_reducible assumption) (by with_reducible assumption) (by with_reducible assumption) (by with_reducible assumption)).mono ?_; rintro e w1 ⟨rfl, hb1⟩) | (go_at_call 65; refine (rCross_d _ (by with_reducible assumption) (by with_reducible assumption) (by with_reducible assumption) (by with_reducible assumption) (by decide)).mono ?_; rintro e w1 ⟨rfl, hb1⟩)))
      all_goals first | exact hK.out _ _ rfl (bl_refl _) | exact hK.out _ _ rfl (by assumption) | exact hK.out _ _ (by assumption) (by assumption)
    · cases ho
      simp only [Act.put, List.setIfInBounds_toArray, List.set_cons_zero, List.set_cons_succ] at hK
      clear hs
      go_simp
      all_goals (try go_wp2_with (first | (go_at_call 79; refine (way_d b off n cap xs ys _ (hs1.bel hb) g ix hix hn hcap).mono ?_; rintro e w1 ⟨rfl, hb1⟩) | (go_at_call 83; refine (lead_d _ _ _ _ _ (by with_reducible assumption) (by with_reducible assumption) (by with_reducible assumption) (by with_reducible assumption)).mono ?_; rintro e w1 ⟨rfl, hb1⟩) | (go_at_call 65; refine (rCross_d _ (by with_reducible assumption) (by with_reducible assumption) (by with_reducible assumption) (by with_reducible assumption) (by decide)).mono ?_; rintro e w1 ⟨rfl, hb1⟩)))
      all_goals first | exact hK.out _ _ rfl (bl_refl _) | exact hK.out _ _ rfl (by assumption) | exact hK.out _ _ (by assumption) (by assumption)
    · cases ho
      simp only [Act.put, List.setIfInBounds_toArray, List.set_cons_zero, List.set_cons_succ] at hK
      clear hs
      go_simp
      all_goals (try go_wp2_with (first | (go_at_call 79; refine (way_d b off n cap xs ys _ (hs1.bel hb) g ix hix hn hcap).mono ?_; rintro e w1 ⟨rfl, hb1⟩) | (go_at_call 83; refine (lead_d _ _ _ _ _ (by with_reducible assumption) (by with_reducible assumption) (by with_reducible assumption) (by with_reducible assumption)).mono ?_; rintro e w1 ⟨rfl, hb1⟩) | (go_at_call 65; refine (rCross_d _ (by with_reducible assumption) (by with_reducible assumption) (by with_reducible assumption) (by with_reducible assumption) (by decide)).mono ?_; rintro e w1 ⟨rfl, hb1⟩)))
      all_goals first | exact hK.out _ _ rfl (bl_refl _) | exact hK.out _ _ rfl (by assumption) | exact hK.out _ _ (by assumption) (by assumption)
    · cases ho
      have e3 : s 3 = _ := hs 3 (by decide) (by kernel_rfl)
      have e4 : s 4 = _ := hs 4 (by decide) (by kernel_rfl)
      simp only [e3, e4] at hK ⊢
      simp only [Act.put, List.setIfInBounds_toArray, List.set_cons_zero, List.set_cons_succ] at hK
      clear hs
      go_simp
      all_goals (try go_wp2_with (first | (go_at_call 79; refine (way_d b off n cap xs ys _ (hs1.bel hb) g ix hix hn hcap).mono ?_; rintro e w1 ⟨rfl, hb1⟩) | (go_at_call 83; refine (lead_d _ _ _ _ _ (by with_reducible assumption) (by with_reducible assumption) (by with_reducible assumption) (by with_reducible assumption)).mono ?_; rintro e w1 ⟨rfl, hb1⟩) | (go_at_call 65; refine (rCross_d _ (by with_reducible assumption) (by with_reducible assumption) (by with_reducible assumption) (by with_reducible assumption) (by decide)).mono ?_; rintro e w1 ⟨rfl, hb1⟩)))
      all_goals first | exact hK.out _ _ rfl (bl_refl _) | exact hK.out _ _ rfl (by assumption) | exact hK.out _ _ (by assumption) (by assumption)
    · cases ho
      have e5 : s 5 = _ := hs 5 (by decide) (by kernel_rfl)
      simp only [e5] at hK ⊢
      simp only [Act.put, List.setIfInBounds_toArray, List.set_cons_zero, List.set_cons_succ] at hK
      clear hs
      go_simp
      all_goals (try go_wp2_with (first | (go_at_call 79; refine (way_d b off n cap xs ys _ (hs1.bel hb) g ix hix hn hcap).mono ?_; rintro e w1 ⟨rfl, hb1⟩) | (go_at_call 83; refine (lead_d _ _ _ _ _ (by with_reducible assumption) (by with_reducible assumption) (by with_reducible assumption) (by with_reducible assumption)).mono ?_; rintro e w1 ⟨rfl, hb1⟩) | (go_at_call 65; refine (rCross_d _ (by with_reducible assumption) (by with_reducible assumption) (by with_reducible assumption) (by with_reducible assumption) (by decide)).mono ?_; rintro e w1 ⟨rfl, hb1⟩)))
      all_goals first | exact hK.out _ _ rfl (bl_refl _) | exact hK.out _ _ rfl (by assumption) | exact hK.out _ _ (by assumption) (by assumption)
    · cases ho
      simp only [Act.put, List.setIfInBounds_toArray, List.set_cons_zero, List.set_cons_succ] at hK
      clear hs
      go_simp
      all_goals (try go_wp2_with (first | (go_at_call 79; refine (way_d b off n cap xs ys _ (hs1.bel hb) g ix hix hn hcap).mono ?_; rintro e w1 ⟨rfl, hb1⟩) | (go_at_call 83; refine (lead_d _ _ _ _ _ (by with_reducible assumption) (by with_reducible assumption) (by with_reducible assumption) (by with_reducible assumption)).mono ?_; rintro e w1 ⟨rfl, hb1⟩) | (go_at_call 65; refine (rCross_d _ (by with_reducible assumption) (by with_reducible assumption) (by with_reducible assumption) (by with_reducible assumption) (by decide)).mono ?_; rintro e w1 ⟨rfl, hb1⟩)))
      all_goals first | exact hK.out _ _ rfl (bl_refl _) | exact hK.out _ _ rfl (by assumption) | exact hK.out _ _ (by assumption) (by assumption)
    · cases ho
      have e6 : s 6 = _ := hs 6 (by decide) (by kernel_rfl)
      have e7 : s 7 = _ := hs 7 (by decide) (by kernel_rfl)
      simp only [e6, e7] at hK ⊢
      simp only [Act.put, List.setIfInBounds_toArray, List.set_cons_zero, List.set_cons_succ] at hK
      clear hs
      go_simp
      all_goals (try go_wp2_with (first | (go_at_call 79; refine (way_d b off n cap xs ys _ (hs1.bel hb) g ix hix hn hcap).mono ?_; rintro e w1 ⟨rfl, hb1⟩) | (go_at_call 83; refine (lead_d _ _ _ _ _ (by with_reducible assumption) (by with_reducible assumption) (by with_reducible assumption) (by with_reducible assumption)).mono ?_; rintro e w1 ⟨rfl, hb1⟩) | (go_at_call 65; refine (rCross_d _ (by with_reducible assumption) (by with_reducible assumption) (by with_reducible assumption) (by with_reducible assumption) (by decide)).mono ?_; rintro e w1 ⟨rfl, hb1⟩)))
      all_goals first | exact hK.out _ _ rfl (bl_refl _) | exact hK.out _ _ rfl (by assumption) | exact hK.out _ _ (by assumption) (by assumption)
    · cases ho
      have e2 : s 2 = _ := hs 2 (by decide) (by kernel_rfl)
      have e8 : s 8 = _ := hs 8 (by decide) (by kernel_rfl)
      simp only [e2, e8] at hK ⊢
      simp only [Act.put, List.setIfInBounds_toArray, List.set_cons_zero, List.set_cons_succ] at hK
      clear hs
      go_simp
      all_goals (try go_wp2_with (first | (go_at_call 79; refine (way_d b off n cap xs ys _ (hs1.bel hb) g ix hix hn hcap).mono ?_; rintro e w1 ⟨rfl, hb1⟩) | (go_at_call 83; refine (lead_d _ _ _ _ _ (by with_reducible assumption) (by with_reducible assumption) (by with_reducible assumption) (by with_reducible assumption)).mono ?_; rintro e w1 ⟨rfl, hb1⟩) | (go_at_call 65; refine (rCross_d _ (by with_reducible assumption) (by with_reducible assumption) (by with_reducible assumption) (by with_reducible assumption) (by decide)).mono ?_; rintro e w1 ⟨rfl, hb1⟩)))
      all_goals first | exact hK.out _ _ rfl (bl_refl _) | exact hK.out _ _ rfl (by assumption) | exact hK.out _ _ (by assumption) (by assumption)
    · cases ho
      have e9 : s 9 = _ := hs 9 (by decide) (by kernel_rfl)
      simp only [e9] at hK ⊢
      simp only [Act.put, List.setIfInBounds_toArray, List.set_cons_zero, List.set_cons_succ] at hK
      clear hs
      go_simp
      all_goals (try go_wp2_with (first | (go_at_call 79; refine (way_d b off n cap xs ys _ (hs1.bel hb) g ix hix hn hcap).mono ?_; rintro e w1 ⟨rfl, hb1⟩) | (go_at_call 83; refine (lead_d _ _ _ _ _ (by with_reducible assumption) (by with_reducible assumption) (by with_reducible assumption) (by with_reducible assumption)).mono ?_; rintro e w1 ⟨rfl, hb1⟩) | (go_at_call 65; refine (rCross_d _ (by with_reducible assumption) (by with_reducible assumption) (by with_reducible assumption) (by with_reducible assumption) (by decide)).mono ?_; rintro e w1 ⟨rfl, hb1⟩)))
      all_goals first | exact hK.out _ _ rfl (bl_refl _) | exact hK.out _ _ rfl (by assumption) | exact hK.out _ _ (by assumption) (by assumption)
  case ht_wh =>
    intro s hs W hb hJ
    have e0 : s 0 = _ := hs 0 (by decide)
    have e1 : s 1 = _ := hs 1 (by decide)
    have e2 : s 2 = _ := hs 2 (by decide)
    have e3 : s 3 = _ := hs 3 (by decide)
    have e4 : s 4 = _ := hs 4 (by decide)
    have e5 : s 5 = _ := hs 5 (by decide)
    have e6 : s 6 = _ := hs 6 (by decide)
    have e7 : s 7 = _ := hs 7 (by decide)
    have e8 : s 8 = _ := hs 8 (by decide)
    have e9 : s 9 = _ := hs 9 (by decide)
    have e10 : s 10 = _ := hs 10 (by decide)
    simp only [e0, e1, e2, e3, e4, e5, e6, e7, e8, e9, e10]
    clear hs
    refine tail_end ?_
    go_wp2
    go_ret
    exact ⟨rfl, bl_trans BA hb⟩
theorem reals_none (v : Option Addr) (cap : Nat) (w : World) : Calls Tryz.prog 78 #[.slice v 0 cap] w fun e w' => e = .returned (.int .i64 0) ∧ Bel w w' := by
  go_enter Tryz.func78, Tryz.ntmps78
  go_wp2
  refine wp_loop_rounds 1 ?_
  rw [rounds_succ]
  go_wp2
  go_ret
  exact ⟨rfl, bl_refl _⟩
set_option maxHeartbeats 1000000 in
theorem reals_some (b off n cap : Nat) (xs ys : Nat → Nat) (w : World) (hs : Sl w b off n xs ys) (hp : 0 < n) (hn : n ≤ maxLen) (hcap : n ≤ cap) (o : Oks xs ys n) : Calls Tryz.prog 78 #[.slice (some ⟨b, off, none⟩) n cap] w fun e w' => e = .returned (.int .i64 (plcE xs ys n)) ∧ Bel w w' := by
  unfold maxLen at hn
  have hb0 := hs.lt hp
  have om : okK .f64 4787326403894837248 := by rw [okK64]; decide
  by_cases hm : 64 < n
  · have hmI : (64 : Int) < (n : Int) := by omega
    go_enter Tryz.func78, Tryz.ntmps78
    go_wp2
    go_ret
    exact ⟨by rw [plc_many hm]; rfl, bl_refl _⟩
  · have hmI : ¬ (64 : Int) < (n : Int) := by omega
    go_enter Tryz.func78, Tryz.ntmps78
    go_wp2
    go_loopw [3] (fun i wr => ∃ k : Nat, k ≤ n ∧ i = .int .i64 k ∧ Bel w wr ∧ ∀ q, q < k → (withinK .f64 (xs q) 4787326403894837248 && withinK .f64 (ys q) 4787326403894837248) = true) (fun i _ => n - (intOf i).toNat)
    case atStart => exact ⟨0, by omega, rfl, bl_refl _, fun q hq => by omega⟩
    case round =>
      obtain ⟨k, hk, rfl, hB, hq⟩ := hrel
      by_cases hlt : k < n
      · obtain ⟨x0, x1⟩ := (hs.bel hB) k hlt
        obtain ⟨o1, o2⟩ := o k hlt
        have hbb : b < wr.heap.size := Nat.lt_of_lt_of_le hb0 hB.size
        have k1 : (k : Int) < (n : Int) := by omega
        cases hw : (withinK .f64 (xs k) 4787326403894837248 && withinK .f64 (ys k) 4787326403894837248)
        all_goals go_wp2_with (first | (go_at_call 68; refine (rWithin_any _ _ _ o1 o2 om _).mono ?_; rintro e w' ⟨rfl, hb⟩; rw [hw]; have B := hb))
        · go_ret
          exact ⟨by rw [plc_bad hm hlt hw]; rfl, bl_trans hB B⟩
        · refine ⟨⟨k + 1, by omega, by go_num, bl_trans hB B, fun q h => ?_⟩, by simp [intOf]; omega⟩
          rcases Nat.lt_or_ge q k with g | g
          · exact hq q g
          · rw [show q = k by omega]; exact hw
      · have hkn : k = n := by omega
        subst hkn
        go_wp2
        go_ret
        exact ⟨by rw [plc_good hm hq]; rfl, hB⟩
theorem ln_num {n ax ay : Nat} (h1 : Bd n ax) (h2 : Bd n ay) (hn : n ≤ 400) : nanK .f64 (lnK ax ay) = false := by
  obtain ⟨f, g⟩ := sq_ng h1 h2 hn
  have q := sq_res (sqr_some f g)
  by_cases hz : mg (dtK ax ay ax ay) = 0
  · have e := sqr_zero f g hz q
    unfold lnK; rw [e]; decide +kernel
  · exact fin_num (root_fin f g hz q).1
theorem ge_min {x m : Nat} (h1 : nanK .f64 x = false) (h2 : nanK .f64 m = false) : leK .f64 m x = !ltK .f64 x m := by
  unfold leK ltK
  rw [h1, h2]
  simp
  rw [Bool.eq_iff_iff]
  simp
theorem idx1 {n i k : Nat} (hi : i < n) (h2 : 2 ≤ k) (hk : k < n) : (i + k) % n ≠ i ∧ (i + k) % n ≠ (i + 1) % n := by
  have e1 : (i + k) % n = if i + k < n then i + k else i + k - n := by
    split
    · exact Nat.mod_eq_of_lt (by assumption)
    · rw [Nat.mod_eq_sub_mod (by omega), Nat.mod_eq_of_lt (by omega)]
  have e2 : (i + 1) % n = if i + 1 < n then i + 1 else i + 1 - n := by
    split
    · exact Nat.mod_eq_of_lt (by assumption)
    · rw [Nat.mod_eq_sub_mod (by omega), Nat.mod_eq_of_lt (by omega)]
  rw [e1, e2]
  split <;> split <;> omega
theorem idx2 {n i k : Nat} (hi : i < n) (hk : k < n) (h1 : k ≠ i) (h2 : k ≠ (i + 1) % n) : ∃ q, 2 ≤ q ∧ q < n ∧ (i + q) % n = k := by
  have e2 : (i + 1) % n = if i + 1 < n then i + 1 else i + 1 - n := by
    split
    · exact Nat.mod_eq_of_lt (by assumption)
    · rw [Nat.mod_eq_sub_mod (by omega), Nat.mod_eq_of_lt (by omega)]
  rw [e2] at h2
  by_cases h : i < k
  · refine ⟨k - i, ?_, by omega, ?_⟩
    · split at h2 <;> omega
    · rw [show i + (k - i) = k by omega]; exact Nat.mod_eq_of_lt hk
  · refine ⟨n + k - i, ?_, by omega, ?_⟩
    · split at h2 <;> omega
    · rw [show i + (n + k - i) = k + n by omega, Nat.add_mod_right]; exact Nat.mod_eq_of_lt hk
theorem out_all {xs ys : Nat → Nat} {n i : Nat} (hi : i < n) (h : ltK .f64 (lnK (wX xs n i) (wX ys n i)) 4472074429978902528 = false) (g : ∀ k, k < n → k ≠ i → k ≠ (i + 1) % n → ltK .f64 0 (lnS xs ys n i (xs k) (ys k)) = true) : outB xs ys n i = true :=
  out_yes h fun k h2 hk => g _ (Nat.mod_lt _ (by omega)) (idx1 hi h2 hk).1 (idx1 hi h2 hk).2
theorem out_one {xs ys : Nat → Nat} {n i k : Nat} (hi : i < n) (hk : k < n) (h1 : k ≠ i) (h2 : k ≠ (i + 1) % n) (h : ltK .f64 0 (lnS xs ys n i (xs k) (ys k)) = false) : outB xs ys n i = false := by
  obtain ⟨q, hq2, hqn, e⟩ := idx2 hi hk h1 h2
  exact out_no hq2 hqn (by rw [e]; exact h)
theorem rchk_none (v : Option Addr) (cap : Nat) (w : World) : Calls Tryz.prog 59 #[.slice v 0 cap] w fun e w' => e = .returned (.int .i64 60) ∧ Bel w w' := by
  go_enter Tryz.func59, Tryz.ntmps59
  go_wp2_with (first | (go_at_call 78; refine (reals_none _ _ _).mono ?_; rintro e w' ⟨rfl, hb⟩))
  go_ret
  exact ⟨rfl, by assumption⟩
set_option maxHeartbeats 4000000 in
theorem rchk_some (b off n cap : Nat) (xs ys : Nat → Nat) (w : World) (hs : Sl w b off n xs ys) (o : Oks xs ys n) (hp : 0 < n) (hn : n ≤ maxLen) (hcap : n ≤ cap) : Calls Tryz.prog 59 #[.slice (some ⟨b, off, none⟩) n cap] w fun e w' => e = .returned (.int .i64 (chkE xs ys n)) ∧ Bel w w' := by
  have REAL := reals_some b off n cap xs ys w hs hp hn hcap o
  by_cases hz : plcE xs ys n = 0
  · obtain ⟨g, h64⟩ := gd_plc o hz
    rw [hz] at REAL
    by_cases h3 : n < 3
    · have h3I : (n : Int) < 3 := by omega
      go_enter Tryz.func59, Tryz.ntmps59
      go_wp2_with (first | (go_at_call 78; refine REAL.mono ?_; rintro e w_1 ⟨rfl, hb⟩))
      go_ret
      exact ⟨by rw [chk_few hz h3]; rfl, by assumption⟩
    · have h3I : ¬ (n : Int) < 3 := by omega
      have c1 := cmp_eq .f64
      have c2 := cmp_gt .f64
      have c3 := cmp_ge2 .f64
      go_enter Tryz.func59, Tryz.ntmps59
      go_wp2_with (first | (go_at_call 78; refine REAL.mono ?_; rintro e w_1 ⟨rfl, B1⟩))
      clear REAL
      go_loopw [4] (fun i' wr => ∃ k : Nat, k ≤ n ∧ i' = .int .i64 k ∧ Bel w wr ∧ ∀ q, q < k → outB xs ys n q = true) (fun i' _ => n - (intOf i').toNat)
      case atStart => exact ⟨0, by omega, rfl, B1, fun q h => by omega⟩
      case round =>
        obtain ⟨ix, hk, rfl, hB, hq⟩ := hrel
        by_cases hlt : ix < n
        · have k1 : (ix : Int) < (n : Int) := by omega
          obtain ⟨d1, d2⟩ := wX_bd g hlt
          have hge := ge_min (ln_num d1 d2 (by decide)) (show nanK .f64 4472074429978902528 = false by decide +kernel)
          cases hl : ltK .f64 (lnK (wX xs n ix) (wX ys n ix)) 4472074429978902528
          all_goals
            rw [hl] at hge
            go_wp2_with (first | (go_at_call 79; refine (way_d b off n cap xs ys _ (hs.bel hB) g ix hlt hn hcap).mono ?_; rintro e w_2 ⟨rfl, hb⟩; have Bc := bl_trans hB hb) | (go_at_call 60; refine (rLength_d _ (by with_reducible assumption) (by with_reducible assumption) (by decide)).mono ?_; rintro e w_3 ⟨rfl, hb⟩; replace Bc := bl_trans Bc hb))
          · obtain ⟨j, hjd⟩ : ∃ j, (ix + 1) % n = j := ⟨_, rfl⟩
            have et : ((ix : Int) + 1).tmod (n : Int) = (j : Int) := by rw [← hjd]; exact tmod_nat ix n
            obtain ⟨g1, g2⟩ := g ix hlt
            go_loopw [5] (fun k' wr => ∃ k : Nat, k ≤ n ∧ k' = .int .i64 k ∧ Bel w wr ∧ ∀ q, q < k → q ≠ ix → q ≠ j → ltK .f64 0 (lnS xs ys n ix (xs q) (ys q)) = true) (fun k' _ => n - (intOf k').toNat)
            case atStart => exact ⟨0, by omega, rfl, Bc, fun q h => by omega⟩
            case round =>
              clear Bc
              obtain ⟨k, hk2, rfl, Bc, hall⟩ := hrel
              by_cases hlt2 : k < n
              · have k2 : (k : Int) < (n : Int) := by omega
                have step : (k = ix ∨ k = j ∨ ltK .f64 0 (lnS xs ys n ix (xs k) (ys k)) = true) → ∀ q, q < k + 1 → q ≠ ix → q ≠ j → ltK .f64 0 (lnS xs ys n ix (xs q) (ys q)) = true := fun h q h1 h2 h3 => by
                  rcases Nat.lt_or_ge q k with h' | h'
                  · exact hall q h' h2 h3
                  · have e : q = k := by omega
                    subst e
                    rcases h with h | h | h
                    · exact absurd h h2
                    · exact absurd h h3
                    · exact h
                by_cases e1 : k = ix
                · subst e1
                  go_wp2
                  exact ⟨⟨k + 1, by omega, by go_num, Bc, step (.inl rfl)⟩, by simp [intOf]; omega⟩
                · have n1 : ¬ (k : Int) = (ix : Int) := by omega
                  have n1b : ((k : Int) == (ix : Int)) = false := by simp; omega
                  have n1c : ((k : Int) != (ix : Int)) = true := by simp; omega
                  have NX := next_d b off n cap ix hlt hn j et
                  by_cases e2 : k = j
                  · have n2 : ((k : Int) == (j : Int)) = true := by simp; omega
                    have n2b : (k : Int) = (j : Int) := by omega
                    go_wp2_with (first | (go_at_call 80; refine (NX _).mono ?_; rintro e w_4 ⟨rfl, hb⟩; replace Bc := bl_trans Bc hb))
                    exact ⟨⟨k + 1, by omega, by go_num, Bc, step (.inr (.inl e2))⟩, by simp [intOf]; omega⟩
                  · have n2 : ((k : Int) == (j : Int)) = false := by simp; omega
                    have n2c : ((k : Int) != (j : Int)) = true := by simp; omega
                    have n2b : ¬ (k : Int) = (j : Int) := by omega
                    obtain ⟨g3, g4⟩ := g k hlt2
                    obtain ⟨x0, x1⟩ := (hs.bel Bc) k hlt2
                    cases hw : ltK .f64 0 (lnS xs ys n ix (xs k) (ys k))
                    all_goals
                      go_wp2_with (first | (go_at_call 80; refine (NX _).mono ?_; rintro e w_4 ⟨rfl, hb⟩; replace Bc := bl_trans Bc hb; replace x0 := keep hb x0; replace x1 := keep hb x1) | (go_at_call 81; refine (left_d b off n cap xs ys _ (hs.bel Bc) g ix hlt hn hcap _ _ g3 g4).mono ?_; rintro e w_5 ⟨rfl, hb⟩; replace Bc := bl_trans Bc hb))
                    all_goals first
                      | exact ⟨⟨k + 1, by omega, by go_num, Bc, step (.inr (.inr hw))⟩, by simp [intOf]; omega⟩
                      | (go_ret; exact ⟨by rw [chk_no hz hlt (out_one hlt hlt2 e1 (by rw [hjd]; exact e2) hw)]; rfl, Bc⟩)
              · have hkn : k = n := by omega
                subst hkn
                go_wp2
                refine ⟨⟨ix + 1, by omega, by go_num, Bc, fun q h => ?_⟩, by simp [intOf]; omega⟩
                rcases Nat.lt_or_ge q ix with h' | h'
                · exact hq q h'
                · rw [show q = ix by omega]; exact out_all hlt hl (by rw [hjd]; exact hall)
          · go_ret
            exact ⟨by rw [chk_no hz hlt (out_short hl)]; rfl, Bc⟩
        · have hkn : ix = n := by omega
          subst hkn
          go_wp2
          go_ret
          exact ⟨by rw [chk_yes hz h3 hq]; rfl, hB⟩
  · obtain ⟨v, hv⟩ : ∃ v, plcE xs ys n = v := ⟨_, rfl⟩
    rw [hv] at hz REAL
    go_enter Tryz.func59, Tryz.ntmps59
    go_wp2_with (first | (go_at_call 78; refine REAL.mono ?_; rintro e w_1 ⟨rfl, hb⟩))
    all_goals
      go_ret
      exact ⟨by rw [chk_bad (by rw [hv]; exact hz), hv]; rfl, by assumption⟩

end Go.Proofs.YtfaiaepkmlmoaaaGreat
