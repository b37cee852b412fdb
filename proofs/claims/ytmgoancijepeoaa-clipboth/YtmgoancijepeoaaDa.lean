/-
  What each function of package poly answers, and what the reference of its chapter answers: one contract a function, for every float: the answer stands in the relation of its formula to what was given; of the memory that was there nothing has turned.
-/
import Derived.Test.YtmgoancijepeoaaVec
import Derived.Test.YtmgoancijepeoaaCj
import Derived.Test.YtmgoancijepeoaaOnc5
import Derived.Below
import Derived.LoopN
import Derived.WalkKit
import Derived.WalkLawsBesides
import Derived.WalkSpells
import Derived.ProofKit
import Derived.OpenShut
import Derived.Deep.RegionHeld3
namespace Go.Proofs.Ytmgoancijepeoaa
open Go.ChangeShapes Go.WideShapes Go.ChangeAt Go.RowKit
set_option linter.unusedVariables false
set_option linter.unusedSimpArgs false


def rlE (x y : Nat) : Int := if (withinK .f64 x 4787326403894837248 && withinK .f64 y 4787326403894837248) = true then 0 else 5
theorem rlE_reab {x y : Nat} : reaB (px [(x, y)]) (py [(x, y)]) 1 = (withinK .f64 x 4787326403894837248 && withinK .f64 y 4787326403894837248) := by
  unfold reaB allB
  simp [px, py, pt]
theorem far_first (p : Pn) (x y : Nat) : (if pE p = 0 then rlE x y else pE p) = farE p [(x, y)] := by
  unfold farE cwE pE rlE
  rw [show [(x, y)].length = 1 from rfl, rlE_reab]
  cases pnB p <;> simp
theorem rea2 {a b c d : Nat} : reaB (px [(a, b), (c, d)]) (py [(a, b), (c, d)]) 2 = (withinK .f64 a 4787326403894837248 && withinK .f64 b 4787326403894837248 && (withinK .f64 c 4787326403894837248 && withinK .f64 d 4787326403894837248)) := by
  unfold reaB allB
  simp [px, py, pt, List.range_succ]
theorem seg_first (p : Pn) (a b c d : Nat) : (if pE p = 0 then (if rlE a b = 0 then rlE c d else rlE a b) else pE p) = farE p [(a, b), (c, d)] := by
  unfold farE cwE pE rlE
  rw [show [(a, b), (c, d)].length = 2 from rfl, rea2]
  cases pnB p <;> cases (withinK .f64 a 4787326403894837248 && withinK .f64 b 4787326403894837248) <;> cases (withinK .f64 c 4787326403894837248 && withinK .f64 d 4787326403894837248) <;> simp
theorem first2 (g : Nat) (a b : Int) (w : World) (h0 : w.cell? ⟨g, 0, none⟩ = some (.int .i64 a)) (h1 : w.cell? ⟨g, 1, none⟩ = some (.int .i64 b)) : Calls Try.prog 43 #[.slice (some ⟨g, 0, none⟩) 2 2] w fun e w' => e = .returned (.int .i64 (if a = 0 then b else a)) ∧ w' = w := by
  by_cases e0 : a = 0
  · subst e0
    by_cases e1 : b = 0
    · subst e1
      go_enter Try.func43, Try.ntmps43
      go_wp2
      refine wp_loop_rounds 3 ?_
      rw [rounds_succ]; go_wp2; rw [rounds_succ]; go_wp2; rw [rounds_succ]; go_wp2
      go_ret
      exact ⟨rfl, rfl⟩
    · go_enter Try.func43, Try.ntmps43
      go_wp2
      refine wp_loop_rounds 3 ?_
      rw [rounds_succ]; go_wp2; rw [rounds_succ]; go_wp2
      go_ret
      exact ⟨rfl, rfl⟩
  · go_enter Try.func43, Try.ntmps43
    go_wp2
    refine wp_loop_rounds 3 ?_
    rw [rounds_succ]; go_wp2
    go_ret
    exact ⟨by first | rfl | (rw [if_neg e0]; rfl), rfl⟩
theorem first3 (g : Nat) (a b c : Int) (w : World) (h0 : w.cell? ⟨g, 0, none⟩ = some (.int .i64 a)) (h1 : w.cell? ⟨g, 1, none⟩ = some (.int .i64 b)) (h2 : w.cell? ⟨g, 2, none⟩ = some (.int .i64 c)) : Calls Try.prog 43 #[.slice (some ⟨g, 0, none⟩) 3 3] w fun e w' => e = .returned (.int .i64 (if a = 0 then (if b = 0 then c else b) else a)) ∧ w' = w := by
  by_cases e0 : a = 0
  · subst e0
    by_cases e1 : b = 0
    · subst e1
      by_cases e2 : c = 0
      · subst e2
        go_enter Try.func43, Try.ntmps43
        go_wp2
        refine wp_loop_rounds 4 ?_
        rw [rounds_succ]; go_wp2; rw [rounds_succ]; go_wp2; rw [rounds_succ]; go_wp2; rw [rounds_succ]; go_wp2
        go_ret
        exact ⟨rfl, rfl⟩
      · go_enter Try.func43, Try.ntmps43
        go_wp2
        refine wp_loop_rounds 4 ?_
        rw [rounds_succ]; go_wp2; rw [rounds_succ]; go_wp2; rw [rounds_succ]; go_wp2
        go_ret
        exact ⟨rfl, rfl⟩
    · go_enter Try.func43, Try.ntmps43
      go_wp2
      refine wp_loop_rounds 4 ?_
      rw [rounds_succ]; go_wp2; rw [rounds_succ]; go_wp2
      go_ret
      exact ⟨by first | rfl | (rw [if_pos rfl, if_neg e1]; rfl), rfl⟩
  · go_enter Try.func43, Try.ntmps43
    go_wp2
    refine wp_loop_rounds 4 ?_
    rw [rounds_succ]; go_wp2
    go_ret
    exact ⟨by first | rfl | (rw [if_neg e0]; rfl), rfl⟩
theorem real_d (x y : Nat) (w : World) (ox : okK .f64 x) (oy : okK .f64 y) : Calls Try.prog 44 #[.agg #[.float .f64 x, .float .f64 y]] w fun e w' => e = .returned (.int .i64 (rlE x y)) ∧ Bel w w' := by
  have om : okK .f64 4787326403894837248 := by rw [okK64]; decide
  unfold rlE
  cases h : (withinK .f64 x 4787326403894837248 && withinK .f64 y 4787326403894837248)
  all_goals
    go_enter Try.func44, Try.ntmps44
    go_wp2_with (first | (go_at_call 53; refine (rWithin_any _ _ _ ox oy om _).mono ?_; rintro e w' ⟨rfl, hb⟩; rw [h]; have B := hb; obtain ⟨hc, hf⟩ := bcell B; have hz := B.size; (try simp at hz)))
    go_ret
    refine ⟨rfl, ?_⟩
    repeat (first | exact bl_refl _ | assumption | apply bl_drewN | apply bl_drew | apply bl_alloc | refine bl_set ?_ (by simp <;> omega) | refine bl_trans ?_ (by assumption))
set_option maxRecDepth 100000 in
theorem beyond_d {k nx ny fd x y : Nat} (w : World) (hp : PnB (nx, ny, fd)) (ha : PtB k (x, y)) (hk : k ≤ 600) : Calls Try.prog 45 #[.agg #[.float .f64 nx, .float .f64 ny, .float .f64 fd], .agg #[.float .f64 x, .float .f64 y]] w fun e w' => e = .returned (.float .f64 (frK (nx, ny, fd) (x, y))) ∧ Bel w w' := by
  have bd := fr_dt hp ha hk
  obtain ⟨p1, p2, p3⟩ := hp
  obtain ⟨a1, a2⟩ := ha
  simp only at p1 p2 p3 a1 a2 bd
  have q1 := fun t W => run_sub_dv Try.prog t (dtK nx ny x y) fd W bd.2.1 p3.2.1 p3.1
  have z0_0 : (w.alloc (.cells #[.float .f64 nx, .float .f64 ny, .float .f64 fd] 26)).cell? ⟨w.heap.size, 0, none⟩ = some (.float .f64 nx) := by rw [World.cell?_alloc_new]; rfl
  replace z0_0 := up_alloc (o := .cells #[.float .f64 x, .float .f64 y] 24) z0_0
  have z0_1 : (w.alloc (.cells #[.float .f64 nx, .float .f64 ny, .float .f64 fd] 26)).cell? ⟨w.heap.size, 1, none⟩ = some (.float .f64 ny) := by rw [World.cell?_alloc_new]; rfl
  replace z0_1 := up_alloc (o := .cells #[.float .f64 x, .float .f64 y] 24) z0_1
  have z0_2 : (w.alloc (.cells #[.float .f64 nx, .float .f64 ny, .float .f64 fd] 26)).cell? ⟨w.heap.size, 2, none⟩ = some (.float .f64 fd) := by rw [World.cell?_alloc_new]; rfl
  replace z0_2 := up_alloc (o := .cells #[.float .f64 x, .float .f64 y] 24) z0_2
  have z1_0 : ((w.alloc (.cells #[.float .f64 nx, .float .f64 ny, .float .f64 fd] 26)).alloc (.cells #[.float .f64 x, .float .f64 y] 24)).cell? ⟨w.heap.size + 1, 0, none⟩ = some (.float .f64 x) := by rw [← (show (w.alloc (.cells #[.float .f64 nx, .float .f64 ny, .float .f64 fd] 26)).heap.size = w.heap.size + 1 by simp only [World.size_alloc]), World.cell?_alloc_new]; rfl
  have z1_1 : ((w.alloc (.cells #[.float .f64 nx, .float .f64 ny, .float .f64 fd] 26)).alloc (.cells #[.float .f64 x, .float .f64 y] 24)).cell? ⟨w.heap.size + 1, 1, none⟩ = some (.float .f64 y) := by rw [← (show (w.alloc (.cells #[.float .f64 nx, .float .f64 ny, .float .f64 fd] 26)).heap.size = w.heap.size + 1 by simp only [World.size_alloc]), World.cell?_alloc_new]; rfl
  have B0 : Bel w ((w.alloc (.cells #[.float .f64 nx, .float .f64 ny, .float .f64 fd] 26)).alloc (.cells #[.float .f64 x, .float .f64 y] 24)) := bl_alloc (bl_alloc (bl_refl w) _ _) _ _
  go_enter Try.func45, Try.ntmps45
  go_wp2
  refine wp_region_mono 8 rfl (fun i W v => match i with | 0 => v = .pointer (some ⟨w.heap.size, 0, none⟩) | 1 => v = .agg #[.float .f64 nx, .float .f64 ny] | 2 => v = .agg #[.float .f64 x, .float .f64 y] | 3 => v = .float .f64 (dtK nx ny x y) | 4 => v = .pointer (some ⟨w.heap.size, 2, none⟩) | 5 => v = .float .f64 fd | 6 => v = .float .f64 (frK (nx, ny, fd) (x, y)) | 7 => v = .float .f64 (frK (nx, ny, fd) (x, y)) | _ => False) ?A_wm (by kernel_rfl) (by kernel_rfl) ?hA_wm ?hmo_wm ?hq_wm ?ht_wm
  case hA_wm =>
    intro s
    simp only [putL, dstO, Act.put, List.getElem?_toArray, List.getElem?_cons_zero, List.getElem?_cons_succ, Option.bind_some, List.setIfInBounds_toArray, List.set_cons_zero, List.set_cons_succ, if_true]
    all_goals exact rfl
  case hmo_wm =>
    intro i W W' v hi hb h
    rcases (show i = 0 ∨ i = 1 ∨ i = 2 ∨ i = 3 ∨ i = 4 ∨ i = 5 ∨ i = 6 ∨ i = 7 by omega) with rfl | rfl | rfl | rfl | rfl | rfl | rfl | rfl
    all_goals first | exact h
  case hq_wm =>
    intro i o hi ho s W hs hb K hK
    have uz0_0 := keep hb z0_0; have uz0_1 := keep hb z0_1; have uz0_2 := keep hb z0_2; have uz1_0 := keep hb z1_0; have uz1_1 := keep hb z1_1
    rcases (show i = 0 ∨ i = 1 ∨ i = 2 ∨ i = 3 ∨ i = 4 ∨ i = 5 ∨ i = 6 ∨ i = 7 by omega) with rfl | rfl | rfl | rfl | rfl | rfl | rfl | rfl
    · cases ho
      simp only [Act.put, List.setIfInBounds_toArray, List.set_cons_zero, List.set_cons_succ] at hK
      clear hs
      go_simp
      all_goals (try go_wp2_with (first | (go_at_call 61; refine (rDot_d _ (by with_reducible assumption) (by with_reducible assumption) (by with_reducible assumption) (by with_reducible assumption) (by omega)).mono ?_; rintro e w' ⟨rfl, hb1⟩)))
      all_goals first | exact hK.out _ _ rfl (bl_refl _) | exact hK.out _ _ rfl (by assumption) | exact hK.out _ _ (by assumption) (by assumption)
    · cases ho
      have e0 : s 0 = _ := hs 0 (by decide) (by kernel_rfl)
      simp only [e0] at hK ⊢
      simp only [Act.put, List.setIfInBounds_toArray, List.set_cons_zero, List.set_cons_succ] at hK
      clear hs
      go_simp
      all_goals (try go_wp2_with (first | (go_at_call 61; refine (rDot_d _ (by with_reducible assumption) (by with_reducible assumption) (by with_reducible assumption) (by with_reducible assumption) (by omega)).mono ?_; rintro e w' ⟨rfl, hb1⟩)))
      all_goals first | exact hK.out _ _ rfl (bl_refl _) | exact hK.out _ _ rfl (by assumption) | exact hK.out _ _ (by assumption) (by assumption)
    · cases ho
      simp only [Act.put, List.setIfInBounds_toArray, List.set_cons_zero, List.set_cons_succ] at hK
      clear hs
      go_simp
      all_goals (try go_wp2_with (first | (go_at_call 61; refine (rDot_d _ (by with_reducible assumption) (by with_reducible assumption) (by with_reducible assumption) (by with_reducible assumption) (by omega)).mono ?_; rintro e w' ⟨rfl, hb1⟩)))
      all_goals first | exact hK.out _ _ rfl (bl_refl _) | exact hK.out _ _ rfl (by assumption) | exact hK.out _ _ (by assumption) (by assumption)
    · cases ho
      have e1 : s 1 = _ := hs 1 (by decide) (by kernel_rfl)
      have e2 : s 2 = _ := hs 2 (by decide) (by kernel_rfl)
      simp only [e1, e2] at hK ⊢
      simp only [Act.put, List.setIfInBounds_toArray, List.set_cons_zero, List.set_cons_succ] at hK
      clear hs
      go_simp
      all_goals (try go_wp2_with (first | (go_at_call 61; refine (rDot_d _ (by with_reducible assumption) (by with_reducible assumption) (by with_reducible assumption) (by with_reducible assumption) (by omega)).mono ?_; rintro e w' ⟨rfl, hb1⟩)))
      all_goals first | exact hK.out _ _ rfl (bl_refl _) | exact hK.out _ _ rfl (by assumption) | exact hK.out _ _ (by assumption) (by assumption)
    · cases ho
      simp only [Act.put, List.setIfInBounds_toArray, List.set_cons_zero, List.set_cons_succ] at hK
      clear hs
      go_simp
      all_goals (try go_wp2_with (first | (go_at_call 61; refine (rDot_d _ (by with_reducible assumption) (by with_reducible assumption) (by with_reducible assumption) (by with_reducible assumption) (by omega)).mono ?_; rintro e w' ⟨rfl, hb1⟩)))
      all_goals first | exact hK.out _ _ rfl (bl_refl _) | exact hK.out _ _ rfl (by assumption) | exact hK.out _ _ (by assumption) (by assumption)
    · cases ho
      have e4 : s 4 = _ := hs 4 (by decide) (by kernel_rfl)
      simp only [e4] at hK ⊢
      simp only [Act.put, List.setIfInBounds_toArray, List.set_cons_zero, List.set_cons_succ] at hK
      clear hs
      go_simp
      all_goals (try go_wp2_with (first | (go_at_call 61; refine (rDot_d _ (by with_reducible assumption) (by with_reducible assumption) (by with_reducible assumption) (by with_reducible assumption) (by omega)).mono ?_; rintro e w' ⟨rfl, hb1⟩)))
      all_goals first | exact hK.out _ _ rfl (bl_refl _) | exact hK.out _ _ rfl (by assumption) | exact hK.out _ _ (by assumption) (by assumption)
    · cases ho
      have e3 : s 3 = _ := hs 3 (by decide) (by kernel_rfl)
      have e5 : s 5 = _ := hs 5 (by decide) (by kernel_rfl)
      simp only [e3, e5] at hK ⊢
      simp only [Act.put, List.setIfInBounds_toArray, List.set_cons_zero, List.set_cons_succ] at hK
      clear hs
      go_simp
      all_goals (try go_wp2_with (first | (go_at_call 61; refine (rDot_d _ (by with_reducible assumption) (by with_reducible assumption) (by with_reducible assumption) (by with_reducible assumption) (by omega)).mono ?_; rintro e w' ⟨rfl, hb1⟩)))
      all_goals first | exact hK.out _ _ rfl (bl_refl _) | exact hK.out _ _ rfl (by assumption) | exact hK.out _ _ (by assumption) (by assumption)
    · cases ho
      have e6 : s 6 = _ := hs 6 (by decide) (by kernel_rfl)
      simp only [e6] at hK ⊢
      simp only [Act.put, List.setIfInBounds_toArray, List.set_cons_zero, List.set_cons_succ] at hK
      clear hs
      go_simp
      all_goals (try go_wp2_with (first | (go_at_call 61; refine (rDot_d _ (by with_reducible assumption) (by with_reducible assumption) (by with_reducible assumption) (by with_reducible assumption) (by omega)).mono ?_; rintro e w' ⟨rfl, hb1⟩)))
      all_goals first | exact hK.out _ _ rfl (bl_refl _) | exact hK.out _ _ rfl (by assumption) | exact hK.out _ _ (by assumption) (by assumption)
  case ht_wm =>
    intro s W hs hb
    have e0 : s 0 = _ := hs 0 (by decide)
    have e1 : s 1 = _ := hs 1 (by decide)
    have e2 : s 2 = _ := hs 2 (by decide)
    have e3 : s 3 = _ := hs 3 (by decide)
    have e4 : s 4 = _ := hs 4 (by decide)
    have e5 : s 5 = _ := hs 5 (by decide)
    have e6 : s 6 = _ := hs 6 (by decide)
    have e7 : s 7 = _ := hs 7 (by decide)
    simp only [e0, e1, e2, e3, e4, e5, e6, e7]
    clear hs e0 e1 e2 e3 e4 e5 e6 e7
    go_wp2
    go_ret
    exact ⟨rfl, bl_trans B0 hb⟩
theorem rwithin_d {k nx ny fd x y : Nat} (w : World) (hp : PnB (nx, ny, fd)) (ha : PtB k (x, y)) (hk : k ≤ 600) : Calls Try.prog 48 #[.agg #[.float .f64 nx, .float .f64 ny, .float .f64 fd], .agg #[.float .f64 x, .float .f64 y]] w fun e w' => e = .returned (.bool (wiB (nx, ny, fd) (x, y))) ∧ Bel w w' := by
  have c1 := cmp_le .f64
  go_enter Try.func48, Try.ntmps48
  go_wp2_with (first | (go_at_call 45; refine (beyond_d _ hp ha hk).mono ?_; rintro e w' ⟨rfl, hb⟩; have B := hb; obtain ⟨hc, hf⟩ := bcell B; have hz := B.size; (try simp at hz)))
  go_ret
  refine ⟨rfl, ?_⟩
  repeat (first | exact bl_refl _ | assumption | apply bl_drewN | apply bl_drew | apply bl_alloc | refine bl_set ?_ (by simp <;> omega) | refine bl_trans ?_ (by assumption))
set_option maxRecDepth 100000 in
set_option maxHeartbeats 2000000 in
theorem rcut_d {k nx ny fd ax ay bx b_y : Nat} (w : World) (hp : PnB (nx, ny, fd)) (ha : PtB k (ax, ay)) (hb : PtB k (bx, b_y)) (hk : k ≤ 600) (hne : wiB (nx, ny, fd) (ax, ay) ≠ wiB (nx, ny, fd) (bx, b_y)) : Calls Try.prog 49 #[.agg #[.float .f64 nx, .float .f64 ny, .float .f64 fd], .agg #[.float .f64 ax, .float .f64 ay], .agg #[.float .f64 bx, .float .f64 b_y]] w fun e w' => e = .returned (.agg #[.float .f64 (cuX (nx, ny, fd) (ax, ay) (bx, b_y)), .float .f64 (cuY (nx, ny, fd) (ax, ay) (bx, b_y))]) ∧ Bel w w' := by
  obtain ⟨nz, bD, bt, _⟩ := cuT_bd hp ha hb hk hne
  have fa := fr_bd hp ha hk
  have fb := fr_bd hp hb hk
  have hb_ := hb
  obtain ⟨a1, a2⟩ := id ha
  obtain ⟨b1, b2⟩ := hb
  simp only at a1 a2 b1 b2
  have s1 := bd_sub b1 a1 (by omega)
  have s2 := bd_sub b2 a2 (by omega)
  have q1 := fun t W => run_sub_dv Try.prog t (frK (nx, ny, fd) (ax, ay)) (frK (nx, ny, fd) (bx, b_y)) W fa.2.1 fb.2.1 fb.1
  have q2 : ∀ t W, (binOp .quo t (.float .f64 (frK (nx, ny, fd) (ax, ay))) (.float .f64 (Dv .sub (frK (nx, ny, fd) (ax, ay)) (frK (nx, ny, fd) (bx, b_y))))).run Try.prog W = .ok (.float .f64 (cuT (nx, ny, fd) (ax, ay) (bx, b_y))) W := fun t W => run_quo_dv Try.prog t (frK (nx, ny, fd) (ax, ay)) (Dv .sub (frK (nx, ny, fd) (ax, ay)) (frK (nx, ny, fd) (bx, b_y))) W fa.2.1 bD.2.1 nz
  clear hne
  have z0_0 : (w.alloc (.cells #[.float .f64 nx, .float .f64 ny, .float .f64 fd] 26)).cell? ⟨w.heap.size, 0, none⟩ = some (.float .f64 nx) := by rw [World.cell?_alloc_new]; rfl
  replace z0_0 := up_alloc (o := .cells #[.float .f64 ax, .float .f64 ay] 24) z0_0
  replace z0_0 := up_alloc (o := .cells #[.float .f64 bx, .float .f64 b_y] 24) z0_0
  replace z0_0 := up_alloc (o := .cells #[.float .f64 0, .float .f64 0] 24) z0_0
  have z0_1 : (w.alloc (.cells #[.float .f64 nx, .float .f64 ny, .float .f64 fd] 26)).cell? ⟨w.heap.size, 1, none⟩ = some (.float .f64 ny) := by rw [World.cell?_alloc_new]; rfl
  replace z0_1 := up_alloc (o := .cells #[.float .f64 ax, .float .f64 ay] 24) z0_1
  replace z0_1 := up_alloc (o := .cells #[.float .f64 bx, .float .f64 b_y] 24) z0_1
  replace z0_1 := up_alloc (o := .cells #[.float .f64 0, .float .f64 0] 24) z0_1
  have z0_2 : (w.alloc (.cells #[.float .f64 nx, .float .f64 ny, .float .f64 fd] 26)).cell? ⟨w.heap.size, 2, none⟩ = some (.float .f64 fd) := by rw [World.cell?_alloc_new]; rfl
  replace z0_2 := up_alloc (o := .cells #[.float .f64 ax, .float .f64 ay] 24) z0_2
  replace z0_2 := up_alloc (o := .cells #[.float .f64 bx, .float .f64 b_y] 24) z0_2
  replace z0_2 := up_alloc (o := .cells #[.float .f64 0, .float .f64 0] 24) z0_2
  have z1_0 : ((w.alloc (.cells #[.float .f64 nx, .float .f64 ny, .float .f64 fd] 26)).alloc (.cells #[.float .f64 ax, .float .f64 ay] 24)).cell? ⟨w.heap.size + 1, 0, none⟩ = some (.float .f64 ax) := by rw [← (show (w.alloc (.cells #[.float .f64 nx, .float .f64 ny, .float .f64 fd] 26)).heap.size = w.heap.size + 1 by simp only [World.size_alloc]), World.cell?_alloc_new]; rfl
  replace z1_0 := up_alloc (o := .cells #[.float .f64 bx, .float .f64 b_y] 24) z1_0
  replace z1_0 := up_alloc (o := .cells #[.float .f64 0, .float .f64 0] 24) z1_0
  have z1_1 : ((w.alloc (.cells #[.float .f64 nx, .float .f64 ny, .float .f64 fd] 26)).alloc (.cells #[.float .f64 ax, .float .f64 ay] 24)).cell? ⟨w.heap.size + 1, 1, none⟩ = some (.float .f64 ay) := by rw [← (show (w.alloc (.cells #[.float .f64 nx, .float .f64 ny, .float .f64 fd] 26)).heap.size = w.heap.size + 1 by simp only [World.size_alloc]), World.cell?_alloc_new]; rfl
  replace z1_1 := up_alloc (o := .cells #[.float .f64 bx, .float .f64 b_y] 24) z1_1
  replace z1_1 := up_alloc (o := .cells #[.float .f64 0, .float .f64 0] 24) z1_1
  have z2_0 : (((w.alloc (.cells #[.float .f64 nx, .float .f64 ny, .float .f64 fd] 26)).alloc (.cells #[.float .f64 ax, .float .f64 ay] 24)).alloc (.cells #[.float .f64 bx, .float .f64 b_y] 24)).cell? ⟨w.heap.size + 1 + 1, 0, none⟩ = some (.float .f64 bx) := by rw [← (show ((w.alloc (.cells #[.float .f64 nx, .float .f64 ny, .float .f64 fd] 26)).alloc (.cells #[.float .f64 ax, .float .f64 ay] 24)).heap.size = w.heap.size + 1 + 1 by simp only [World.size_alloc]), World.cell?_alloc_new]; rfl
  replace z2_0 := up_alloc (o := .cells #[.float .f64 0, .float .f64 0] 24) z2_0
  have z2_1 : (((w.alloc (.cells #[.float .f64 nx, .float .f64 ny, .float .f64 fd] 26)).alloc (.cells #[.float .f64 ax, .float .f64 ay] 24)).alloc (.cells #[.float .f64 bx, .float .f64 b_y] 24)).cell? ⟨w.heap.size + 1 + 1, 1, none⟩ = some (.float .f64 b_y) := by rw [← (show ((w.alloc (.cells #[.float .f64 nx, .float .f64 ny, .float .f64 fd] 26)).alloc (.cells #[.float .f64 ax, .float .f64 ay] 24)).heap.size = w.heap.size + 1 + 1 by simp only [World.size_alloc]), World.cell?_alloc_new]; rfl
  replace z2_1 := up_alloc (o := .cells #[.float .f64 0, .float .f64 0] 24) z2_1
  have z3_0 : ((((w.alloc (.cells #[.float .f64 nx, .float .f64 ny, .float .f64 fd] 26)).alloc (.cells #[.float .f64 ax, .float .f64 ay] 24)).alloc (.cells #[.float .f64 bx, .float .f64 b_y] 24)).alloc (.cells #[.float .f64 0, .float .f64 0] 24)).cell? ⟨w.heap.size + 1 + 1 + 1, 0, none⟩ = some (.float .f64 0) := by rw [← (show (((w.alloc (.cells #[.float .f64 nx, .float .f64 ny, .float .f64 fd] 26)).alloc (.cells #[.float .f64 ax, .float .f64 ay] 24)).alloc (.cells #[.float .f64 bx, .float .f64 b_y] 24)).heap.size = w.heap.size + 1 + 1 + 1 by simp only [World.size_alloc]), World.cell?_alloc_new]; rfl
  have z3_1 : ((((w.alloc (.cells #[.float .f64 nx, .float .f64 ny, .float .f64 fd] 26)).alloc (.cells #[.float .f64 ax, .float .f64 ay] 24)).alloc (.cells #[.float .f64 bx, .float .f64 b_y] 24)).alloc (.cells #[.float .f64 0, .float .f64 0] 24)).cell? ⟨w.heap.size + 1 + 1 + 1, 1, none⟩ = some (.float .f64 0) := by rw [← (show (((w.alloc (.cells #[.float .f64 nx, .float .f64 ny, .float .f64 fd] 26)).alloc (.cells #[.float .f64 ax, .float .f64 ay] 24)).alloc (.cells #[.float .f64 bx, .float .f64 b_y] 24)).heap.size = w.heap.size + 1 + 1 + 1 by simp only [World.size_alloc]), World.cell?_alloc_new]; rfl
  have B0 : Bel w ((((w.alloc (.cells #[.float .f64 nx, .float .f64 ny, .float .f64 fd] 26)).alloc (.cells #[.float .f64 ax, .float .f64 ay] 24)).alloc (.cells #[.float .f64 bx, .float .f64 b_y] 24)).alloc (.cells #[.float .f64 0, .float .f64 0] 24)) := bl_alloc (bl_alloc (bl_alloc (bl_alloc (bl_refl w) _ _) _ _) _ _) _ _
  go_enter Try.func49, Try.ntmps49
  go_wp2_with (first | (go_at_call 45; (first | with_reducible refine (beyond_d _ hp ha hk).mono ?_ | with_reducible refine (beyond_d _ hp hb_ hk).mono ?_); rintro e w' ⟨rfl, hb⟩; replace z0_0 := keep hb z0_0; replace z0_1 := keep hb z0_1; replace z0_2 := keep hb z0_2; replace z1_0 := keep hb z1_0; replace z1_1 := keep hb z1_1; replace z2_0 := keep hb z2_0; replace z2_1 := keep hb z2_1; replace z3_0 := keep hb z3_0; replace z3_1 := keep hb z3_1; have B0 := bl_trans B0 hb; clear hb))
  have fR : ∀ o, w'.frozen? ⟨w.heap.size + 1 + 1 + 1, o, none⟩ = false := fun o => (B0.2 _).trans (fresh_frozen (by omega))
  refine wp_region_ret 7 6 5 rfl (fun i v => match i with | 0 => v = .agg #[.float .f64 ax, .float .f64 ay] | 1 => v = .float .f64 (cuT (nx, ny, fd) (ax, ay) (bx, b_y)) | 2 => v = .agg #[.float .f64 bx, .float .f64 b_y] | 3 => v = .agg #[.float .f64 ax, .float .f64 ay] | 4 => v = .agg #[.float .f64 (Dv .sub bx ax), .float .f64 (Dv .sub b_y ay)] | 5 => v = .agg #[.float .f64 (cuX (nx, ny, fd) (ax, ay) (bx, b_y)), .float .f64 (cuY (nx, ny, fd) (ax, ay) (bx, b_y))] | _ => False) (putN (w.heap.size + 1 + 1 + 1) 2) ?A_wo (by kernel_rfl) (by kernel_rfl) (by kernel_rfl) (by decide) (by decide) ?hA_wo ?hst_wo ?hq_wo ?ht_wo
  case hA_wo =>
    intro s
    simp only [putL, dstO, Act.put, List.getElem?_toArray, List.getElem?_cons_zero, List.getElem?_cons_succ, Option.bind_some, List.setIfInBounds_toArray, List.set_cons_zero, List.set_cons_succ, if_true]
    all_goals exact rfl
  case hst_wo =>
    intro o ho s hs W hb K hK
    cases ho
    have u0 := keep hb z3_0; have u1 := keep hb z3_1; have u9 := fun o => (hb.2 ⟨w.heap.size + 1 + 1 + 1, o, none⟩).trans (fR o)
    have e5 : s 5 = _ := hs 5 (by decide) (by kernel_rfl)
    simp only [e5] at hK ⊢
    clear hs
    go_simp
    exact hK.out
  case hq_wo =>
    intro i o hi hne ho s hs W hb K hK
    have uz0_0 := once_keepN hb z0_0 (by simp only; omega); have uz0_1 := once_keepN hb z0_1 (by simp only; omega); have uz0_2 := once_keepN hb z0_2 (by simp only; omega); have uz1_0 := once_keepN hb z1_0 (by simp only; omega); have uz1_1 := once_keepN hb z1_1 (by simp only; omega); have uz2_0 := once_keepN hb z2_0 (by simp only; omega); have uz2_1 := once_keepN hb z2_1 (by simp only; omega)
    rcases (show i = 0 ∨ i = 1 ∨ i = 2 ∨ i = 3 ∨ i = 4 ∨ i = 5 ∨ i = 6 by omega) with rfl | rfl | rfl | rfl | rfl | rfl | rfl
    · cases ho
      simp only [Act.put, List.setIfInBounds_toArray, List.set_cons_zero, List.set_cons_succ] at hK
      clear hs hne
      go_simp
      all_goals (try go_wp2_with (first | (go_at_call 82; refine (rSub_d _ (by with_reducible assumption) (by with_reducible assumption) (by with_reducible assumption) (by with_reducible assumption)).mono ?_; rintro e w' ⟨rfl, hb1⟩) | (go_at_call 81; refine (rMore_d _ (by with_reducible assumption) (by with_reducible assumption) bt (by with_reducible assumption) (by with_reducible assumption) (by omega)).mono ?_; rintro e w' ⟨rfl, hb1⟩)))
      all_goals first | exact hK.out _ _ rfl (bl_refl _) | exact hK.out _ _ rfl (by assumption) | exact hK.out _ _ (by assumption) (by assumption)
    · cases ho
      simp only [Act.put, List.setIfInBounds_toArray, List.set_cons_zero, List.set_cons_succ] at hK
      clear hs hne
      go_simp
      all_goals (try go_wp2_with (first | (go_at_call 82; refine (rSub_d _ (by with_reducible assumption) (by with_reducible assumption) (by with_reducible assumption) (by with_reducible assumption)).mono ?_; rintro e w' ⟨rfl, hb1⟩) | (go_at_call 81; refine (rMore_d _ (by with_reducible assumption) (by with_reducible assumption) bt (by with_reducible assumption) (by with_reducible assumption) (by omega)).mono ?_; rintro e w' ⟨rfl, hb1⟩)))
      all_goals first | exact hK.out _ _ rfl (bl_refl _) | exact hK.out _ _ rfl (by assumption) | exact hK.out _ _ (by assumption) (by assumption)
    · cases ho
      simp only [Act.put, List.setIfInBounds_toArray, List.set_cons_zero, List.set_cons_succ] at hK
      clear hs hne
      go_simp
      all_goals (try go_wp2_with (first | (go_at_call 82; refine (rSub_d _ (by with_reducible assumption) (by with_reducible assumption) (by with_reducible assumption) (by with_reducible assumption)).mono ?_; rintro e w' ⟨rfl, hb1⟩) | (go_at_call 81; refine (rMore_d _ (by with_reducible assumption) (by with_reducible assumption) bt (by with_reducible assumption) (by with_reducible assumption) (by omega)).mono ?_; rintro e w' ⟨rfl, hb1⟩)))
      all_goals first | exact hK.out _ _ rfl (bl_refl _) | exact hK.out _ _ rfl (by assumption) | exact hK.out _ _ (by assumption) (by assumption)
    · cases ho
      simp only [Act.put, List.setIfInBounds_toArray, List.set_cons_zero, List.set_cons_succ] at hK
      clear hs hne
      go_simp
      all_goals (try go_wp2_with (first | (go_at_call 82; refine (rSub_d _ (by with_reducible assumption) (by with_reducible assumption) (by with_reducible assumption) (by with_reducible assumption)).mono ?_; rintro e w' ⟨rfl, hb1⟩) | (go_at_call 81; refine (rMore_d _ (by with_reducible assumption) (by with_reducible assumption) bt (by with_reducible assumption) (by with_reducible assumption) (by omega)).mono ?_; rintro e w' ⟨rfl, hb1⟩)))
      all_goals first | exact hK.out _ _ rfl (bl_refl _) | exact hK.out _ _ rfl (by assumption) | exact hK.out _ _ (by assumption) (by assumption)
    · cases ho
      have e2 : s 2 = _ := hs 2 (by decide) (by decide) (by kernel_rfl)
      have e3 : s 3 = _ := hs 3 (by decide) (by decide) (by kernel_rfl)
      simp only [e2, e3] at hK ⊢
      simp only [Act.put, List.setIfInBounds_toArray, List.set_cons_zero, List.set_cons_succ] at hK
      clear hs hne
      go_simp
      all_goals (try go_wp2_with (first | (go_at_call 82; refine (rSub_d _ (by with_reducible assumption) (by with_reducible assumption) (by with_reducible assumption) (by with_reducible assumption)).mono ?_; rintro e w' ⟨rfl, hb1⟩) | (go_at_call 81; refine (rMore_d _ (by with_reducible assumption) (by with_reducible assumption) bt (by with_reducible assumption) (by with_reducible assumption) (by omega)).mono ?_; rintro e w' ⟨rfl, hb1⟩)))
      all_goals first | exact hK.out _ _ rfl (bl_refl _) | exact hK.out _ _ rfl (by assumption) | exact hK.out _ _ (by assumption) (by assumption)
    · cases ho
      have e0 : s 0 = _ := hs 0 (by decide) (by decide) (by kernel_rfl)
      have e1 : s 1 = _ := hs 1 (by decide) (by decide) (by kernel_rfl)
      have e4 : s 4 = _ := hs 4 (by decide) (by decide) (by kernel_rfl)
      simp only [e0, e1, e4] at hK ⊢
      simp only [Act.put, List.setIfInBounds_toArray, List.set_cons_zero, List.set_cons_succ] at hK
      clear hs hne
      go_simp
      all_goals (try go_wp2_with (first | (go_at_call 82; refine (rSub_d _ (by with_reducible assumption) (by with_reducible assumption) (by with_reducible assumption) (by with_reducible assumption)).mono ?_; rintro e w' ⟨rfl, hb1⟩) | (go_at_call 81; refine (rMore_d _ (by with_reducible assumption) (by with_reducible assumption) bt (by with_reducible assumption) (by with_reducible assumption) (by omega)).mono ?_; rintro e w' ⟨rfl, hb1⟩)))
      all_goals first | exact hK.out _ _ rfl (bl_refl _) | exact hK.out _ _ rfl (by assumption) | exact hK.out _ _ (by assumption) (by assumption)
    · exact absurd rfl hne
  case ht_wo =>
    intro s hs W0 W hb0 hb
    have e0 : s 0 = _ := hs 0 (by decide) (by decide)
    have e1 : s 1 = _ := hs 1 (by decide) (by decide)
    have e2 : s 2 = _ := hs 2 (by decide) (by decide)
    have e3 : s 3 = _ := hs 3 (by decide) (by decide)
    have e4 : s 4 = _ := hs 4 (by decide) (by decide)
    have e5 : s 5 = _ := hs 5 (by decide) (by decide)
    simp only [e0, e1, e2, e3, e4, e5]
    rw [e5] at hb
    clear hs e0 e1 e2 e3 e4 e5
    have RA := putN_at (R := w.heap.size + 1 + 1 + 1) (W := W0) (v := .agg #[.float .f64 (cuX (nx, ny, fd) (ax, ay) (bx, b_y)), .float .f64 (cuY (nx, ny, fd) (ax, ay) (bx, b_y))]) 2 (fun i hi => by rcases (show i = 0 ∨ i = 1 by omega) with rfl | rfl <;> first | (rw [keep hb0 z3_0]; rfl) | (rw [keep hb0 z3_1]; rfl))
    have R0 := keep hb (RA 0 (by decide)); have R1 := keep hb (RA 1 (by decide))
    simp only [cellAt] at R0 R1
    have BF := bl_trans (putN_bel (bl_trans B0 hb0) (show w.heap.size ≤ w.heap.size + 1 + 1 + 1 by omega) 2) hb
    go_wp2
    refine bodyPost_ret (v := .agg #[.float .f64 (cuX (nx, ny, fd) (ax, ay) (bx, b_y)), .float .f64 (cuY (nx, ny, fd) (ax, ay) (bx, b_y))]) (by simp [R0, R1, results, Try.results49, go_sem] <;> (first | exact ⟨rfl, rfl⟩ | rfl)) rfl ⟨rfl, BF⟩
set_option maxRecDepth 100000 in
set_option maxHeartbeats 2000000 in
theorem rcfar_d (nx ny fd x y : Nat) (w : World) (o1 : okK .f64 nx) (o2 : okK .f64 ny) (o3 : okK .f64 fd) (ox : okK .f64 x) (oy : okK .f64 y) : Calls Try.prog 11 #[.agg #[.float .f64 nx, .float .f64 ny, .float .f64 fd], .agg #[.float .f64 x, .float .f64 y]] w fun e w' => e = .returned (.tuple #[.float .f64 (plV (nx, ny, fd) (x, y)), .int .i64 (farE (nx, ny, fd) [(x, y)])]) ∧ Bel w w' := by
  have z0_0 : (w.alloc (.cells #[.float .f64 nx, .float .f64 ny, .float .f64 fd] 26)).cell? ⟨w.heap.size, 0, none⟩ = some (.float .f64 nx) := by rw [World.cell?_alloc_new]; rfl
  replace z0_0 := up_alloc (o := .cells #[.float .f64 x, .float .f64 y] 24) z0_0
  have z0_1 : (w.alloc (.cells #[.float .f64 nx, .float .f64 ny, .float .f64 fd] 26)).cell? ⟨w.heap.size, 1, none⟩ = some (.float .f64 ny) := by rw [World.cell?_alloc_new]; rfl
  replace z0_1 := up_alloc (o := .cells #[.float .f64 x, .float .f64 y] 24) z0_1
  have z0_2 : (w.alloc (.cells #[.float .f64 nx, .float .f64 ny, .float .f64 fd] 26)).cell? ⟨w.heap.size, 2, none⟩ = some (.float .f64 fd) := by rw [World.cell?_alloc_new]; rfl
  replace z0_2 := up_alloc (o := .cells #[.float .f64 x, .float .f64 y] 24) z0_2
  have z1_0 : ((w.alloc (.cells #[.float .f64 nx, .float .f64 ny, .float .f64 fd] 26)).alloc (.cells #[.float .f64 x, .float .f64 y] 24)).cell? ⟨w.heap.size + 1, 0, none⟩ = some (.float .f64 x) := by rw [← (show (w.alloc (.cells #[.float .f64 nx, .float .f64 ny, .float .f64 fd] 26)).heap.size = w.heap.size + 1 by simp only [World.size_alloc]), World.cell?_alloc_new]; rfl
  have z1_1 : ((w.alloc (.cells #[.float .f64 nx, .float .f64 ny, .float .f64 fd] 26)).alloc (.cells #[.float .f64 x, .float .f64 y] 24)).cell? ⟨w.heap.size + 1, 1, none⟩ = some (.float .f64 y) := by rw [← (show (w.alloc (.cells #[.float .f64 nx, .float .f64 ny, .float .f64 fd] 26)).heap.size = w.heap.size + 1 by simp only [World.size_alloc]), World.cell?_alloc_new]; rfl
  have B0 : Bel w ((w.alloc (.cells #[.float .f64 nx, .float .f64 ny, .float .f64 fd] 26)).alloc (.cells #[.float .f64 x, .float .f64 y] 24)) := bl_alloc (bl_alloc (bl_refl w) _ _) _ _
  unfold plV
  by_cases h0 : farE (nx, ny, fd) [(x, y)] = 0
  · obtain ⟨hp, hl⟩ := farE_bd h0 o1 o2 o3 (by intro q hq; simp at hq; rw [hq]; exact ⟨ox, oy⟩)
    have ha := hl (x, y) (by simp)
    rw [if_pos h0, h0]
    go_enter Try.func11, Try.ntmps11
    go_wp2
    refine wp_region_mono 7 rfl (fun i W v => match i with | 0 => v = .agg #[.float .f64 nx, .float .f64 ny, .float .f64 fd] | 1 => v = .int .i64 (pE (nx, ny, fd)) | 2 => v = .agg #[.float .f64 x, .float .f64 y] | 3 => v = .int .i64 (rlE x y) | 4 => ∃ g, v = .slice (some ⟨g, 0, none⟩) 2 2 ∧ W.cell? ⟨g, 0, none⟩ = some (.int .i64 (pE (nx, ny, fd))) ∧ W.cell? ⟨g, 1, none⟩ = some (.int .i64 (rlE x y)) | 5 => v = .int .i64 0 | 6 => v = .int .i64 0 | _ => False) ?A_wm (by kernel_rfl) (by kernel_rfl) ?hA_wm ?hmo_wm ?hq_wm ?ht_wm
    case hA_wm =>
      intro s
      simp only [putL, dstO, Act.put, List.getElem?_toArray, List.getElem?_cons_zero, List.getElem?_cons_succ, Option.bind_some, List.setIfInBounds_toArray, List.set_cons_zero, List.set_cons_succ, if_true]
      all_goals exact rfl
    case hmo_wm =>
      intro i W W' v hi hb h
      rcases (show i = 0 ∨ i = 1 ∨ i = 2 ∨ i = 3 ∨ i = 4 ∨ i = 5 ∨ i = 6 by omega) with rfl | rfl | rfl | rfl | rfl | rfl | rfl
      all_goals first | exact h | (obtain ⟨g, e4, hg0, hg1⟩ := h; exact ⟨g, e4, keep hb hg0, keep hb hg1⟩)
    case hq_wm =>
      intro i o hi ho s W hs hb K hK
      have uz0_0 := keep hb z0_0; have uz0_1 := keep hb z0_1; have uz0_2 := keep hb z0_2; have uz1_0 := keep hb z1_0; have uz1_1 := keep hb z1_1
      rcases (show i = 0 ∨ i = 1 ∨ i = 2 ∨ i = 3 ∨ i = 4 ∨ i = 5 ∨ i = 6 by omega) with rfl | rfl | rfl | rfl | rfl | rfl | rfl
      · cases ho
        simp only [Act.put, List.setIfInBounds_toArray, List.set_cons_zero, List.set_cons_succ] at hK
        clear hs
        go_simp
        all_goals (try go_wp2_with (first | (go_at_call 17; refine (rcchk_any _ _ _ _ o1 o2 o3).mono ?_; rintro e w' ⟨rfl, hb1⟩) | (go_at_call 44; refine (real_d _ _ _ ox oy).mono ?_; rintro e w' ⟨rfl, hb1⟩) | (go_at_call 43; refine (first2 _ _ _ _ hg0 hg1).mono ?_; rintro e w' ⟨rfl, rfl⟩; rw [far_first, h0])))
        all_goals first | exact hK.out _ _ ⟨_, rfl, by rw [World.cell?_alloc_new]; rfl, by rw [World.cell?_alloc_new]; rfl⟩ (bl_alloc (bl_refl _) _ _) | exact hK.out _ _ rfl (bl_refl _) | exact hK.out _ _ rfl (by assumption) | exact hK.out _ _ (by assumption) (by assumption)
      · cases ho
        have e0 : s 0 = _ := hs 0 (by decide) (by kernel_rfl)
        simp only [e0] at hK ⊢
        simp only [Act.put, List.setIfInBounds_toArray, List.set_cons_zero, List.set_cons_succ] at hK
        clear hs
        go_simp
        all_goals (try go_wp2_with (first | (go_at_call 17; refine (rcchk_any _ _ _ _ o1 o2 o3).mono ?_; rintro e w' ⟨rfl, hb1⟩) | (go_at_call 44; refine (real_d _ _ _ ox oy).mono ?_; rintro e w' ⟨rfl, hb1⟩) | (go_at_call 43; refine (first2 _ _ _ _ hg0 hg1).mono ?_; rintro e w' ⟨rfl, rfl⟩; rw [far_first, h0])))
        all_goals first | exact hK.out _ _ ⟨_, rfl, by rw [World.cell?_alloc_new]; rfl, by rw [World.cell?_alloc_new]; rfl⟩ (bl_alloc (bl_refl _) _ _) | exact hK.out _ _ rfl (bl_refl _) | exact hK.out _ _ rfl (by assumption) | exact hK.out _ _ (by assumption) (by assumption)
      · cases ho
        simp only [Act.put, List.setIfInBounds_toArray, List.set_cons_zero, List.set_cons_succ] at hK
        clear hs
        go_simp
        all_goals (try go_wp2_with (first | (go_at_call 17; refine (rcchk_any _ _ _ _ o1 o2 o3).mono ?_; rintro e w' ⟨rfl, hb1⟩) | (go_at_call 44; refine (real_d _ _ _ ox oy).mono ?_; rintro e w' ⟨rfl, hb1⟩) | (go_at_call 43; refine (first2 _ _ _ _ hg0 hg1).mono ?_; rintro e w' ⟨rfl, rfl⟩; rw [far_first, h0])))
        all_goals first | exact hK.out _ _ ⟨_, rfl, by rw [World.cell?_alloc_new]; rfl, by rw [World.cell?_alloc_new]; rfl⟩ (bl_alloc (bl_refl _) _ _) | exact hK.out _ _ rfl (bl_refl _) | exact hK.out _ _ rfl (by assumption) | exact hK.out _ _ (by assumption) (by assumption)
      · cases ho
        have e2 : s 2 = _ := hs 2 (by decide) (by kernel_rfl)
        simp only [e2] at hK ⊢
        simp only [Act.put, List.setIfInBounds_toArray, List.set_cons_zero, List.set_cons_succ] at hK
        clear hs
        go_simp
        all_goals (try go_wp2_with (first | (go_at_call 17; refine (rcchk_any _ _ _ _ o1 o2 o3).mono ?_; rintro e w' ⟨rfl, hb1⟩) | (go_at_call 44; refine (real_d _ _ _ ox oy).mono ?_; rintro e w' ⟨rfl, hb1⟩) | (go_at_call 43; refine (first2 _ _ _ _ hg0 hg1).mono ?_; rintro e w' ⟨rfl, rfl⟩; rw [far_first, h0])))
        all_goals first | exact hK.out _ _ ⟨_, rfl, by rw [World.cell?_alloc_new]; rfl, by rw [World.cell?_alloc_new]; rfl⟩ (bl_alloc (bl_refl _) _ _) | exact hK.out _ _ rfl (bl_refl _) | exact hK.out _ _ rfl (by assumption) | exact hK.out _ _ (by assumption) (by assumption)
      · cases ho
        have e1 : s 1 = _ := hs 1 (by decide) (by kernel_rfl)
        have e3 : s 3 = _ := hs 3 (by decide) (by kernel_rfl)
        simp only [e1, e3] at hK ⊢
        simp only [Act.put, List.setIfInBounds_toArray, List.set_cons_zero, List.set_cons_succ] at hK
        clear hs
        go_simp
        all_goals (try go_wp2_with (first | (go_at_call 17; refine (rcchk_any _ _ _ _ o1 o2 o3).mono ?_; rintro e w' ⟨rfl, hb1⟩) | (go_at_call 44; refine (real_d _ _ _ ox oy).mono ?_; rintro e w' ⟨rfl, hb1⟩) | (go_at_call 43; refine (first2 _ _ _ _ hg0 hg1).mono ?_; rintro e w' ⟨rfl, rfl⟩; rw [far_first, h0])))
        all_goals first | exact hK.out _ _ ⟨_, rfl, by rw [World.cell?_alloc_new]; rfl, by rw [World.cell?_alloc_new]; rfl⟩ (bl_alloc (bl_refl _) _ _) | exact hK.out _ _ rfl (bl_refl _) | exact hK.out _ _ rfl (by assumption) | exact hK.out _ _ (by assumption) (by assumption)
      · cases ho
        obtain ⟨g, e4, hg0, hg1⟩ := hs 4 (by decide) (by kernel_rfl)
        simp only [e4] at hK ⊢
        simp only [Act.put, List.setIfInBounds_toArray, List.set_cons_zero, List.set_cons_succ] at hK
        clear hs
        go_simp
        all_goals (try go_wp2_with (first | (go_at_call 17; refine (rcchk_any _ _ _ _ o1 o2 o3).mono ?_; rintro e w' ⟨rfl, hb1⟩) | (go_at_call 44; refine (real_d _ _ _ ox oy).mono ?_; rintro e w' ⟨rfl, hb1⟩) | (go_at_call 43; refine (first2 _ _ _ _ hg0 hg1).mono ?_; rintro e w' ⟨rfl, rfl⟩; rw [far_first, h0])))
        all_goals first | exact hK.out _ _ ⟨_, rfl, by rw [World.cell?_alloc_new]; rfl, by rw [World.cell?_alloc_new]; rfl⟩ (bl_alloc (bl_refl _) _ _) | exact hK.out _ _ rfl (bl_refl _) | exact hK.out _ _ rfl (by assumption) | exact hK.out _ _ (by assumption) (by assumption)
      · cases ho
        have e5 : s 5 = _ := hs 5 (by decide) (by kernel_rfl)
        simp only [e5] at hK ⊢
        simp only [Act.put, List.setIfInBounds_toArray, List.set_cons_zero, List.set_cons_succ] at hK
        clear hs
        go_simp
        all_goals (try go_wp2_with (first | (go_at_call 17; refine (rcchk_any _ _ _ _ o1 o2 o3).mono ?_; rintro e w' ⟨rfl, hb1⟩) | (go_at_call 44; refine (real_d _ _ _ ox oy).mono ?_; rintro e w' ⟨rfl, hb1⟩) | (go_at_call 43; refine (first2 _ _ _ _ hg0 hg1).mono ?_; rintro e w' ⟨rfl, rfl⟩; rw [far_first, h0])))
        all_goals first | exact hK.out _ _ ⟨_, rfl, by rw [World.cell?_alloc_new]; rfl, by rw [World.cell?_alloc_new]; rfl⟩ (bl_alloc (bl_refl _) _ _) | exact hK.out _ _ rfl (bl_refl _) | exact hK.out _ _ rfl (by assumption) | exact hK.out _ _ (by assumption) (by assumption)
    case ht_wm =>
      intro s W hs hb
      have e0 : s 0 = _ := hs 0 (by decide)
      have e1 : s 1 = _ := hs 1 (by decide)
      have e2 : s 2 = _ := hs 2 (by decide)
      have e3 : s 3 = _ := hs 3 (by decide)
      obtain ⟨g, e4, hg0, hg1⟩ := hs 4 (by decide)
      have e5 : s 5 = _ := hs 5 (by decide)
      have e6 : s 6 = _ := hs 6 (by decide)
      simp only [e0, e1, e2, e3, e4, e5, e6]
      clear hs e0 e1 e2 e3 e4 e5 e6
      have B1 := bl_trans B0 hb
      replace z0_0 := keep hb z0_0
      replace z0_1 := keep hb z0_1
      replace z0_2 := keep hb z0_2
      replace z1_0 := keep hb z1_0
      replace z1_1 := keep hb z1_1
      go_wp2_with (first | (go_at_call 45; refine (beyond_d _ hp ha (by decide)).mono ?_; rintro e w' ⟨rfl, hb2⟩))
      refine bodyPost_ret (v := .tuple #[.float .f64 (frK (nx, ny, fd) (x, y)), .int .i64 0]) (by simp [results, Try.results11, go_sem] <;> (first | exact ⟨⟨rfl, rfl⟩, rfl⟩ | exact ⟨rfl, rfl, rfl, rfl⟩ | exact ⟨rfl, rfl, rfl⟩ | exact ⟨rfl, rfl⟩ | rfl)) rfl ⟨rfl, bl_trans B1 hb2⟩
  · have h0' : ¬ (farE (nx, ny, fd) [(x, y)] == 0) = true := by simpa using h0
    go_enter Try.func11, Try.ntmps11
    go_wp2
    refine wp_region_mono 7 rfl (fun i W v => match i with | 0 => v = .agg #[.float .f64 nx, .float .f64 ny, .float .f64 fd] | 1 => v = .int .i64 (pE (nx, ny, fd)) | 2 => v = .agg #[.float .f64 x, .float .f64 y] | 3 => v = .int .i64 (rlE x y) | 4 => ∃ g, v = .slice (some ⟨g, 0, none⟩) 2 2 ∧ W.cell? ⟨g, 0, none⟩ = some (.int .i64 (pE (nx, ny, fd))) ∧ W.cell? ⟨g, 1, none⟩ = some (.int .i64 (rlE x y)) | 5 => v = .int .i64 (farE (nx, ny, fd) [(x, y)]) | 6 => v = .int .i64 (farE (nx, ny, fd) [(x, y)]) | _ => False) ?A_wm (by kernel_rfl) (by kernel_rfl) ?hA_wm ?hmo_wm ?hq_wm ?ht_wm
    case hA_wm =>
      intro s
      simp only [putL, dstO, Act.put, List.getElem?_toArray, List.getElem?_cons_zero, List.getElem?_cons_succ, Option.bind_some, List.setIfInBounds_toArray, List.set_cons_zero, List.set_cons_succ, if_true]
      all_goals exact rfl
    case hmo_wm =>
      intro i W W' v hi hb h
      rcases (show i = 0 ∨ i = 1 ∨ i = 2 ∨ i = 3 ∨ i = 4 ∨ i = 5 ∨ i = 6 by omega) with rfl | rfl | rfl | rfl | rfl | rfl | rfl
      all_goals first | exact h | (obtain ⟨g, e4, hg0, hg1⟩ := h; exact ⟨g, e4, keep hb hg0, keep hb hg1⟩)
    case hq_wm =>
      intro i o hi ho s W hs hb K hK
      have uz0_0 := keep hb z0_0; have uz0_1 := keep hb z0_1; have uz0_2 := keep hb z0_2; have uz1_0 := keep hb z1_0; have uz1_1 := keep hb z1_1
      rcases (show i = 0 ∨ i = 1 ∨ i = 2 ∨ i = 3 ∨ i = 4 ∨ i = 5 ∨ i = 6 by omega) with rfl | rfl | rfl | rfl | rfl | rfl | rfl
      · cases ho
        simp only [Act.put, List.setIfInBounds_toArray, List.set_cons_zero, List.set_cons_succ] at hK
        clear hs
        go_simp
        all_goals (try go_wp2_with (first | (go_at_call 17; refine (rcchk_any _ _ _ _ o1 o2 o3).mono ?_; rintro e w' ⟨rfl, hb1⟩) | (go_at_call 44; refine (real_d _ _ _ ox oy).mono ?_; rintro e w' ⟨rfl, hb1⟩) | (go_at_call 43; refine (first2 _ _ _ _ hg0 hg1).mono ?_; rintro e w' ⟨rfl, rfl⟩; rw [far_first])))
        all_goals first | exact hK.out _ _ ⟨_, rfl, by rw [World.cell?_alloc_new]; rfl, by rw [World.cell?_alloc_new]; rfl⟩ (bl_alloc (bl_refl _) _ _) | exact hK.out _ _ rfl (bl_refl _) | exact hK.out _ _ rfl (by assumption) | exact hK.out _ _ (by assumption) (by assumption)
      · cases ho
        have e0 : s 0 = _ := hs 0 (by decide) (by kernel_rfl)
        simp only [e0] at hK ⊢
        simp only [Act.put, List.setIfInBounds_toArray, List.set_cons_zero, List.set_cons_succ] at hK
        clear hs
        go_simp
        all_goals (try go_wp2_with (first | (go_at_call 17; refine (rcchk_any _ _ _ _ o1 o2 o3).mono ?_; rintro e w' ⟨rfl, hb1⟩) | (go_at_call 44; refine (real_d _ _ _ ox oy).mono ?_; rintro e w' ⟨rfl, hb1⟩) | (go_at_call 43; refine (first2 _ _ _ _ hg0 hg1).mono ?_; rintro e w' ⟨rfl, rfl⟩; rw [far_first])))
        all_goals first | exact hK.out _ _ ⟨_, rfl, by rw [World.cell?_alloc_new]; rfl, by rw [World.cell?_alloc_new]; rfl⟩ (bl_alloc (bl_refl _) _ _) | exact hK.out _ _ rfl (bl_refl _) | exact hK.out _ _ rfl (by assumption) | exact hK.out _ _ (by assumption) (by assumption)
      · cases ho
        simp only [Act.put, List.setIfInBounds_toArray, List.set_cons_zero, List.set_cons_succ] at hK
        clear hs
        go_simp
        all_goals (try go_wp2_with (first | (go_at_call 17; refine (rcchk_any _ _ _ _ o1 o2 o3).mono ?_; rintro e w' ⟨rfl, hb1⟩) | (go_at_call 44; refine (real_d _ _ _ ox oy).mono ?_; rintro e w' ⟨rfl, hb1⟩) | (go_at_call 43; refine (first2 _ _ _ _ hg0 hg1).mono ?_; rintro e w' ⟨rfl, rfl⟩; rw [far_first])))
        all_goals first | exact hK.out _ _ ⟨_, rfl, by rw [World.cell?_alloc_new]; rfl, by rw [World.cell?_alloc_new]; rfl⟩ (bl_alloc (bl_refl _) _ _) | exact hK.out _ _ rfl (bl_refl _) | exact hK.out _ _ rfl (by assumption) | exact hK.out _ _ (by assumption) (by assumption)
      · cases ho
        have e2 : s 2 = _ := hs 2 (by decide) (by kernel_rfl)
        simp only [e2] at hK ⊢
        simp only [Act.put, List.setIfInBounds_toArray, List.set_cons_zero, List.set_cons_succ] at hK
        clear hs
        go_simp
        all_goals (try go_wp2_with (first | (go_at_call 17; refine (rcchk_any _ _ _ _ o1 o2 o3).mono ?_; rintro e w' ⟨rfl, hb1⟩) | (go_at_call 44; refine (real_d _ _ _ ox oy).mono ?_; rintro e w' ⟨rfl, hb1⟩) | (go_at_call 43; refine (first2 _ _ _ _ hg0 hg1).mono ?_; rintro e w' ⟨rfl, rfl⟩; rw [far_first])))
        all_goals first | exact hK.out _ _ ⟨_, rfl, by rw [World.cell?_alloc_new]; rfl, by rw [World.cell?_alloc_new]; rfl⟩ (bl_alloc (bl_refl _) _ _) | exact hK.out _ _ rfl (bl_refl _) | exact hK.out _ _ rfl (by assumption) | exact hK.out _ _ (by assumption) (by assumption)
      · cases ho
        have e1 : s 1 = _ := hs 1 (by decide) (by kernel_rfl)
        have e3 : s 3 = _ := hs 3 (by decide) (by kernel_rfl)
        simp only [e1, e3] at hK ⊢
        simp only [Act.put, List.setIfInBounds_toArray, List.set_cons_zero, List.set_cons_succ] at hK
        clear hs
        go_simp
        all_goals (try go_wp2_with (first | (go_at_call 17; refine (rcchk_any _ _ _ _ o1 o2 o3).mono ?_; rintro e w' ⟨rfl, hb1⟩) | (go_at_call 44; refine (real_d _ _ _ ox oy).mono ?_; rintro e w' ⟨rfl, hb1⟩) | (go_at_call 43; refine (first2 _ _ _ _ hg0 hg1).mono ?_; rintro e w' ⟨rfl, rfl⟩; rw [far_first])))
        all_goals first | exact hK.out _ _ ⟨_, rfl, by rw [World.cell?_alloc_new]; rfl, by rw [World.cell?_alloc_new]; rfl⟩ (bl_alloc (bl_refl _) _ _) | exact hK.out _ _ rfl (bl_refl _) | exact hK.out _ _ rfl (by assumption) | exact hK.out _ _ (by assumption) (by assumption)
      · cases ho
        obtain ⟨g, e4, hg0, hg1⟩ := hs 4 (by decide) (by kernel_rfl)
        simp only [e4] at hK ⊢
        simp only [Act.put, List.setIfInBounds_toArray, List.set_cons_zero, List.set_cons_succ] at hK
        clear hs
        go_simp
        all_goals (try go_wp2_with (first | (go_at_call 17; refine (rcchk_any _ _ _ _ o1 o2 o3).mono ?_; rintro e w' ⟨rfl, hb1⟩) | (go_at_call 44; refine (real_d _ _ _ ox oy).mono ?_; rintro e w' ⟨rfl, hb1⟩) | (go_at_call 43; refine (first2 _ _ _ _ hg0 hg1).mono ?_; rintro e w' ⟨rfl, rfl⟩; rw [far_first])))
        all_goals first | exact hK.out _ _ ⟨_, rfl, by rw [World.cell?_alloc_new]; rfl, by rw [World.cell?_alloc_new]; rfl⟩ (bl_alloc (bl_refl _) _ _) | exact hK.out _ _ rfl (bl_refl _) | exact hK.out _ _ rfl (by assumption) | exact hK.out _ _ (by assumption) (by assumption)
      · cases ho
        have e5 : s 5 = _ := hs 5 (by decide) (by kernel_rfl)
        simp only [e5] at hK ⊢
        simp only [Act.put, List.setIfInBounds_toArray, List.set_cons_zero, List.set_cons_succ] at hK
        clear hs
        go_simp
        all_goals (try go_wp2_with (first | (go_at_call 17; refine (rcchk_any _ _ _ _ o1 o2 o3).mono ?_; rintro e w' ⟨rfl, hb1⟩) | (go_at_call 44; refine (real_d _ _ _ ox oy).mono ?_; rintro e w' ⟨rfl, hb1⟩) | (go_at_call 43; refine (first2 _ _ _ _ hg0 hg1).mono ?_; rintro e w' ⟨rfl, rfl⟩; rw [far_first])))
        all_goals first | exact hK.out _ _ ⟨_, rfl, by rw [World.cell?_alloc_new]; rfl, by rw [World.cell?_alloc_new]; rfl⟩ (bl_alloc (bl_refl _) _ _) | exact hK.out _ _ rfl (bl_refl _) | exact hK.out _ _ rfl (by assumption) | exact hK.out _ _ (by assumption) (by assumption)
    case ht_wm =>
      intro s W hs hb
      have e0 : s 0 = _ := hs 0 (by decide)
      have e1 : s 1 = _ := hs 1 (by decide)
      have e2 : s 2 = _ := hs 2 (by decide)
      have e3 : s 3 = _ := hs 3 (by decide)
      obtain ⟨g, e4, hg0, hg1⟩ := hs 4 (by decide)
      have e5 : s 5 = _ := hs 5 (by decide)
      have e6 : s 6 = _ := hs 6 (by decide)
      simp only [e0, e1, e2, e3, e4, e5, e6]
      clear hs e0 e1 e2 e3 e4 e5 e6
      have B1 := bl_trans B0 hb
      go_wp2
      refine bodyPost_ret (v := .tuple #[.float .f64 0, .int .i64 (farE (nx, ny, fd) [(x, y)])]) (by simp [results, Try.results11, go_sem] <;> (first | exact ⟨⟨rfl, rfl⟩, rfl⟩ | exact ⟨rfl, rfl, rfl, rfl⟩ | exact ⟨rfl, rfl, rfl⟩ | exact ⟨rfl, rfl⟩ | rfl)) rfl ⟨by simp [h0], B1⟩

end Go.Proofs.Ytmgoancijepeoaa
