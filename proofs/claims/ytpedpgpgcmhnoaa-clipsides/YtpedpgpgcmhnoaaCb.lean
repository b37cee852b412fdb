/-
  What each function of package poly answers, and what the reference of its chapter answers: one contract a function, for every float: the answer stands in the relation of its formula to what was given; of the memory that was there nothing has turned.
-/
import Derived.Test.YtpedpgpgcmhnoaaVec
import Derived.Test.YtpedpgpgcmhnoaaRx
import Derived.Test.YtpedpgpgcmhnoaaClp
import Derived.Test.YtpedpgpgcmhnoaaOnc3
import Derived.Below
import Derived.WalkKit
import Derived.WalkLawsBesides
import Derived.WalkSpells
import Derived.ProofKit
import Derived.OpenShut
import Derived.Deep.RegionHeld3
namespace Go.Proofs.Ytpedpgpgcmhnoaa
open Go.ChangeShapes Go.WideShapes Go.ChangeAt Go.RowKit
set_option linter.unusedVariables false
set_option linter.unusedSimpArgs false


theorem moreR9_d {n m l ax ay q bx b_y x y : Nat} (h1 : Bd n ax) (h2 : Bd n ay) (h3 : Bd m q) (h4 : Bd l bx) (h5 : Bd l b_y) (hl : m + l ≤ 800) (h : MoreR ax ay q bx b_y x y) : x = Dv .add ax (Dv .mul q bx) ∧ y = Dv .add ay (Dv .mul q b_y) := by
  obtain ⟨p, r, e1, e2, e3, e4⟩ := h
  have q1 := res_dv e1 (some_mul h3.2.1 h4.2.1)
  have q2 := res_dv e2 (some_mul h3.2.1 h5.2.1)
  have m1 := bd_mul h3 h4 (by omega)
  have m2 := bd_mul h3 h5 (by omega)
  subst q1 q2
  exact ⟨res_dv e3 (some_add h1.2.1 m1.2.1), res_dv e4 (some_add h2.2.1 m2.2.1)⟩

theorem vMore_d {n m l ax ay q bx b_y : Nat} (w : World) (h1 : Bd n ax) (h2 : Bd n ay) (h3 : Bd m q) (h4 : Bd l bx) (h5 : Bd l b_y) (hl : m + l ≤ 800) : Calls Try.prog 109 #[.agg #[.float .f64 ax, .float .f64 ay], .float .f64 q, .agg #[.float .f64 bx, .float .f64 b_y]] w fun e w' => e = .returned (.agg #[.float .f64 (Dv .add ax (Dv .mul q bx)), .float .f64 (Dv .add ay (Dv .mul q b_y))]) ∧ Bel w w' :=
  (vMore_any _ _ _ _ _ w).mono fun e w' ⟨x, y, h, he, hb⟩ => ⟨by obtain ⟨e1, e2⟩ := moreR9_d h1 h2 h3 h4 h5 hl h; rw [he, e1, e2], hb⟩

set_option maxRecDepth 100000 in
set_option maxHeartbeats 1000000 in
theorem endOf_d {k nx ny fd x y : Nat} (w : World) (hp : PnB (nx, ny, fd)) (ha : PtB k (x, y)) (hk : k ≤ 600) : Calls Try.prog 50 #[.agg #[.float .f64 nx, .float .f64 ny, .float .f64 fd], .agg #[.float .f64 x, .float .f64 y]] w fun e w' => e = .returned (.agg #[.float .f64 x, .float .f64 y, .float .f64 (frK (nx, ny, fd) (x, y))]) ∧ Bel w w' := by
  have bd := fr_dt hp ha hk
  obtain ⟨p1, p2, p3⟩ := hp
  obtain ⟨a1, a2⟩ := ha
  simp only at p1 p2 p3 a1 a2 bd
  have q1 := fun t W => run_sub_dv Try.prog t (dtK nx ny x y) fd W bd.2.1 p3.2.1 p3.1
  have z0_0 : (w.alloc (.cells #[.float .f64 nx, .float .f64 ny, .float .f64 fd] 26)).cell? ⟨w.heap.size, 0, none⟩ = some (.float .f64 nx) := by rw [World.cell?_alloc_new]; rfl
  replace z0_0 := up_alloc (o := .cells #[.float .f64 x, .float .f64 y] 24) z0_0
  replace z0_0 := up_alloc (o := .cells #[.float .f64 0, .float .f64 0, .float .f64 0] 83) z0_0
  have z0_1 : (w.alloc (.cells #[.float .f64 nx, .float .f64 ny, .float .f64 fd] 26)).cell? ⟨w.heap.size, 1, none⟩ = some (.float .f64 ny) := by rw [World.cell?_alloc_new]; rfl
  replace z0_1 := up_alloc (o := .cells #[.float .f64 x, .float .f64 y] 24) z0_1
  replace z0_1 := up_alloc (o := .cells #[.float .f64 0, .float .f64 0, .float .f64 0] 83) z0_1
  have z0_2 : (w.alloc (.cells #[.float .f64 nx, .float .f64 ny, .float .f64 fd] 26)).cell? ⟨w.heap.size, 2, none⟩ = some (.float .f64 fd) := by rw [World.cell?_alloc_new]; rfl
  replace z0_2 := up_alloc (o := .cells #[.float .f64 x, .float .f64 y] 24) z0_2
  replace z0_2 := up_alloc (o := .cells #[.float .f64 0, .float .f64 0, .float .f64 0] 83) z0_2
  have z1_0 : ((w.alloc (.cells #[.float .f64 nx, .float .f64 ny, .float .f64 fd] 26)).alloc (.cells #[.float .f64 x, .float .f64 y] 24)).cell? ⟨w.heap.size + 1, 0, none⟩ = some (.float .f64 x) := by rw [← (show (w.alloc (.cells #[.float .f64 nx, .float .f64 ny, .float .f64 fd] 26)).heap.size = w.heap.size + 1 by simp only [World.size_alloc]), World.cell?_alloc_new]; rfl
  replace z1_0 := up_alloc (o := .cells #[.float .f64 0, .float .f64 0, .float .f64 0] 83) z1_0
  have z1_1 : ((w.alloc (.cells #[.float .f64 nx, .float .f64 ny, .float .f64 fd] 26)).alloc (.cells #[.float .f64 x, .float .f64 y] 24)).cell? ⟨w.heap.size + 1, 1, none⟩ = some (.float .f64 y) := by rw [← (show (w.alloc (.cells #[.float .f64 nx, .float .f64 ny, .float .f64 fd] 26)).heap.size = w.heap.size + 1 by simp only [World.size_alloc]), World.cell?_alloc_new]; rfl
  replace z1_1 := up_alloc (o := .cells #[.float .f64 0, .float .f64 0, .float .f64 0] 83) z1_1
  have z2_0 : (((w.alloc (.cells #[.float .f64 nx, .float .f64 ny, .float .f64 fd] 26)).alloc (.cells #[.float .f64 x, .float .f64 y] 24)).alloc (.cells #[.float .f64 0, .float .f64 0, .float .f64 0] 83)).cell? ⟨w.heap.size + 1 + 1, 0, none⟩ = some (.float .f64 0) := by rw [← (show ((w.alloc (.cells #[.float .f64 nx, .float .f64 ny, .float .f64 fd] 26)).alloc (.cells #[.float .f64 x, .float .f64 y] 24)).heap.size = w.heap.size + 1 + 1 by simp only [World.size_alloc]), World.cell?_alloc_new]; rfl
  have z2_1 : (((w.alloc (.cells #[.float .f64 nx, .float .f64 ny, .float .f64 fd] 26)).alloc (.cells #[.float .f64 x, .float .f64 y] 24)).alloc (.cells #[.float .f64 0, .float .f64 0, .float .f64 0] 83)).cell? ⟨w.heap.size + 1 + 1, 1, none⟩ = some (.float .f64 0) := by rw [← (show ((w.alloc (.cells #[.float .f64 nx, .float .f64 ny, .float .f64 fd] 26)).alloc (.cells #[.float .f64 x, .float .f64 y] 24)).heap.size = w.heap.size + 1 + 1 by simp only [World.size_alloc]), World.cell?_alloc_new]; rfl
  have z2_2 : (((w.alloc (.cells #[.float .f64 nx, .float .f64 ny, .float .f64 fd] 26)).alloc (.cells #[.float .f64 x, .float .f64 y] 24)).alloc (.cells #[.float .f64 0, .float .f64 0, .float .f64 0] 83)).cell? ⟨w.heap.size + 1 + 1, 2, none⟩ = some (.float .f64 0) := by rw [← (show ((w.alloc (.cells #[.float .f64 nx, .float .f64 ny, .float .f64 fd] 26)).alloc (.cells #[.float .f64 x, .float .f64 y] 24)).heap.size = w.heap.size + 1 + 1 by simp only [World.size_alloc]), World.cell?_alloc_new]; rfl
  have B0 : Bel w (((w.alloc (.cells #[.float .f64 nx, .float .f64 ny, .float .f64 fd] 26)).alloc (.cells #[.float .f64 x, .float .f64 y] 24)).alloc (.cells #[.float .f64 0, .float .f64 0, .float .f64 0] 83)) := bl_alloc (bl_alloc (bl_alloc (bl_refl w) _ _) _ _) _ _
  have fR : ∀ o, (((w.alloc (.cells #[.float .f64 nx, .float .f64 ny, .float .f64 fd] 26)).alloc (.cells #[.float .f64 x, .float .f64 y] 24)).alloc (.cells #[.float .f64 0, .float .f64 0, .float .f64 0] 83)).frozen? ⟨w.heap.size + 1 + 1, o, none⟩ = false := fun o => ((show Bel ((w.alloc (.cells #[.float .f64 nx, .float .f64 ny, .float .f64 fd] 26)).alloc (.cells #[.float .f64 x, .float .f64 y] 24)) (((w.alloc (.cells #[.float .f64 nx, .float .f64 ny, .float .f64 fd] 26)).alloc (.cells #[.float .f64 x, .float .f64 y] 24)).alloc (.cells #[.float .f64 0, .float .f64 0, .float .f64 0] 83)) by exact bl_alloc (bl_refl _) _ _).2 _).trans (fresh_frozen (by simp only [World.size_alloc]; exact Nat.le_refl _))
  go_enter Try.func50, Try.ntmps50
  go_wp2
  refine wp_region_ret 10 9 8 rfl (fun i v => match i with | 0 => v = .agg #[.float .f64 x, .float .f64 y] | 1 => v = .pointer (some ⟨w.heap.size, 0, none⟩) | 2 => v = .agg #[.float .f64 nx, .float .f64 ny] | 3 => v = .agg #[.float .f64 x, .float .f64 y] | 4 => v = .float .f64 (dtK nx ny x y) | 5 => v = .pointer (some ⟨w.heap.size, 2, none⟩) | 6 => v = .float .f64 fd | 7 => v = .float .f64 (frK (nx, ny, fd) (x, y)) | 8 => v = .agg #[.float .f64 x, .float .f64 y, .float .f64 (frK (nx, ny, fd) (x, y))] | _ => False) (putN (w.heap.size + 1 + 1) 3) ?A_wo (by kernel_rfl) (by kernel_rfl) (by kernel_rfl) (by decide) (by decide) ?hA_wo ?hst_wo ?hq_wo ?ht_wo
  case hA_wo =>
    intro s
    simp only [putL, dstO, Act.put, List.getElem?_toArray, List.getElem?_cons_zero, List.getElem?_cons_succ, Option.bind_some, List.setIfInBounds_toArray, List.set_cons_zero, List.set_cons_succ, if_true]
    all_goals exact rfl
  case hst_wo =>
    intro o ho s hs W hb K hK
    cases ho
    have u0 := keep hb z2_0; have u1 := keep hb z2_1; have u2 := keep hb z2_2; have u9 := fun o => (hb.2 ⟨w.heap.size + 1 + 1, o, none⟩).trans (fR o)
    have e8 : s 8 = _ := hs 8 (by decide) (by kernel_rfl)
    simp only [e8] at hK ⊢
    clear hs
    go_simp
    exact hK.out
  case hq_wo =>
    intro i o hi hne ho s hs W hb K hK
    have uz0_0 := once_keepN hb z0_0 (by simp only; omega); have uz0_1 := once_keepN hb z0_1 (by simp only; omega); have uz0_2 := once_keepN hb z0_2 (by simp only; omega); have uz1_0 := once_keepN hb z1_0 (by simp only; omega); have uz1_1 := once_keepN hb z1_1 (by simp only; omega)
    rcases (show i = 0 ∨ i = 1 ∨ i = 2 ∨ i = 3 ∨ i = 4 ∨ i = 5 ∨ i = 6 ∨ i = 7 ∨ i = 8 ∨ i = 9 by omega) with rfl | rfl | rfl | rfl | rfl | rfl | rfl | rfl | rfl | rfl
    · cases ho
      simp only [Act.put, List.setIfInBounds_toArray, List.set_cons_zero, List.set_cons_succ] at hK
      clear hs hne
      go_simp
      all_goals (try go_wp2_with (first | (go_at_call 27; refine (vDot_d _ (by with_reducible assumption) (by with_reducible assumption) (by with_reducible assumption) (by with_reducible assumption) (by omega)).mono ?_; rintro e w' ⟨rfl, hb1⟩)))
      all_goals first | exact hK.out _ _ rfl (bl_refl _) | exact hK.out _ _ rfl (by assumption) | exact hK.out _ _ (by assumption) (by assumption)
    · cases ho
      simp only [Act.put, List.setIfInBounds_toArray, List.set_cons_zero, List.set_cons_succ] at hK
      clear hs hne
      go_simp
      all_goals (try go_wp2_with (first | (go_at_call 27; refine (vDot_d _ (by with_reducible assumption) (by with_reducible assumption) (by with_reducible assumption) (by with_reducible assumption) (by omega)).mono ?_; rintro e w' ⟨rfl, hb1⟩)))
      all_goals first | exact hK.out _ _ rfl (bl_refl _) | exact hK.out _ _ rfl (by assumption) | exact hK.out _ _ (by assumption) (by assumption)
    · cases ho
      have e1 : s 1 = _ := hs 1 (by decide) (by decide) (by kernel_rfl)
      simp only [e1] at hK ⊢
      simp only [Act.put, List.setIfInBounds_toArray, List.set_cons_zero, List.set_cons_succ] at hK
      clear hs hne
      go_simp
      all_goals (try go_wp2_with (first | (go_at_call 27; refine (vDot_d _ (by with_reducible assumption) (by with_reducible assumption) (by with_reducible assumption) (by with_reducible assumption) (by omega)).mono ?_; rintro e w' ⟨rfl, hb1⟩)))
      all_goals first | exact hK.out _ _ rfl (bl_refl _) | exact hK.out _ _ rfl (by assumption) | exact hK.out _ _ (by assumption) (by assumption)
    · cases ho
      simp only [Act.put, List.setIfInBounds_toArray, List.set_cons_zero, List.set_cons_succ] at hK
      clear hs hne
      go_simp
      all_goals (try go_wp2_with (first | (go_at_call 27; refine (vDot_d _ (by with_reducible assumption) (by with_reducible assumption) (by with_reducible assumption) (by with_reducible assumption) (by omega)).mono ?_; rintro e w' ⟨rfl, hb1⟩)))
      all_goals first | exact hK.out _ _ rfl (bl_refl _) | exact hK.out _ _ rfl (by assumption) | exact hK.out _ _ (by assumption) (by assumption)
    · cases ho
      have e2 : s 2 = _ := hs 2 (by decide) (by decide) (by kernel_rfl)
      have e3 : s 3 = _ := hs 3 (by decide) (by decide) (by kernel_rfl)
      simp only [e2, e3] at hK ⊢
      simp only [Act.put, List.setIfInBounds_toArray, List.set_cons_zero, List.set_cons_succ] at hK
      clear hs hne
      go_simp
      all_goals (try go_wp2_with (first | (go_at_call 27; refine (vDot_d _ (by with_reducible assumption) (by with_reducible assumption) (by with_reducible assumption) (by with_reducible assumption) (by omega)).mono ?_; rintro e w' ⟨rfl, hb1⟩)))
      all_goals first | exact hK.out _ _ rfl (bl_refl _) | exact hK.out _ _ rfl (by assumption) | exact hK.out _ _ (by assumption) (by assumption)
    · cases ho
      simp only [Act.put, List.setIfInBounds_toArray, List.set_cons_zero, List.set_cons_succ] at hK
      clear hs hne
      go_simp
      all_goals (try go_wp2_with (first | (go_at_call 27; refine (vDot_d _ (by with_reducible assumption) (by with_reducible assumption) (by with_reducible assumption) (by with_reducible assumption) (by omega)).mono ?_; rintro e w' ⟨rfl, hb1⟩)))
      all_goals first | exact hK.out _ _ rfl (bl_refl _) | exact hK.out _ _ rfl (by assumption) | exact hK.out _ _ (by assumption) (by assumption)
    · cases ho
      have e5 : s 5 = _ := hs 5 (by decide) (by decide) (by kernel_rfl)
      simp only [e5] at hK ⊢
      simp only [Act.put, List.setIfInBounds_toArray, List.set_cons_zero, List.set_cons_succ] at hK
      clear hs hne
      go_simp
      all_goals (try go_wp2_with (first | (go_at_call 27; refine (vDot_d _ (by with_reducible assumption) (by with_reducible assumption) (by with_reducible assumption) (by with_reducible assumption) (by omega)).mono ?_; rintro e w' ⟨rfl, hb1⟩)))
      all_goals first | exact hK.out _ _ rfl (bl_refl _) | exact hK.out _ _ rfl (by assumption) | exact hK.out _ _ (by assumption) (by assumption)
    · cases ho
      have e4 : s 4 = _ := hs 4 (by decide) (by decide) (by kernel_rfl)
      have e6 : s 6 = _ := hs 6 (by decide) (by decide) (by kernel_rfl)
      simp only [e4, e6] at hK ⊢
      simp only [Act.put, List.setIfInBounds_toArray, List.set_cons_zero, List.set_cons_succ] at hK
      clear hs hne
      go_simp
      all_goals (try go_wp2_with (first | (go_at_call 27; refine (vDot_d _ (by with_reducible assumption) (by with_reducible assumption) (by with_reducible assumption) (by with_reducible assumption) (by omega)).mono ?_; rintro e w' ⟨rfl, hb1⟩)))
      all_goals first | exact hK.out _ _ rfl (bl_refl _) | exact hK.out _ _ rfl (by assumption) | exact hK.out _ _ (by assumption) (by assumption)
    · cases ho
      have e0 : s 0 = _ := hs 0 (by decide) (by decide) (by kernel_rfl)
      have e7 : s 7 = _ := hs 7 (by decide) (by decide) (by kernel_rfl)
      simp only [e0, e7] at hK ⊢
      simp only [Act.put, List.setIfInBounds_toArray, List.set_cons_zero, List.set_cons_succ] at hK
      clear hs hne
      go_simp
      all_goals (try go_wp2_with (first | (go_at_call 27; refine (vDot_d _ (by with_reducible assumption) (by with_reducible assumption) (by with_reducible assumption) (by with_reducible assumption) (by omega)).mono ?_; rintro e w' ⟨rfl, hb1⟩)))
      all_goals first | exact hK.out _ _ rfl (bl_refl _) | exact hK.out _ _ rfl (by assumption) | exact hK.out _ _ (by assumption) (by assumption)
    · exact absurd rfl hne
  case ht_wo =>
    intro s hs W0 W hb0 hb
    have e0 : s 0 = _ := hs 0 (by decide) (by decide)
    have e1 : s 1 = _ := hs 1 (by decide) (by decide)
    have e2 : s 2 = _ := hs 2 (by decide) (by decide)
    have e3 : s 3 = _ := hs 3 (by decide) (by decide)
    have e4 : s 4 = _ := hs 4 (by decide) (by decide)
    have e5 : s 5 = _ := hs 5 (by decide) (by decide)
    have e6 : s 6 = _ := hs 6 (by decide) (by decide)
    have e7 : s 7 = _ := hs 7 (by decide) (by decide)
    have e8 : s 8 = _ := hs 8 (by decide) (by decide)
    simp only [e0, e1, e2, e3, e4, e5, e6, e7, e8]
    rw [e8] at hb
    clear hs e0 e1 e2 e3 e4 e5 e6 e7 e8
    have RA := putN_at (R := w.heap.size + 1 + 1) (W := W0) (v := .agg #[.float .f64 x, .float .f64 y, .float .f64 (frK (nx, ny, fd) (x, y))]) 3 (fun i hi => by rcases (show i = 0 ∨ i = 1 ∨ i = 2 by omega) with rfl | rfl | rfl <;> first | (rw [keep hb0 z2_0]; rfl) | (rw [keep hb0 z2_1]; rfl) | (rw [keep hb0 z2_2]; rfl))
    have R0 := keep hb (RA 0 (by decide)); have R1 := keep hb (RA 1 (by decide)); have R2 := keep hb (RA 2 (by decide))
    simp only [cellAt] at R0 R1 R2
    have BF := bl_trans (putN_bel (bl_trans B0 hb0) (show w.heap.size ≤ w.heap.size + 1 + 1 by omega) 3) hb
    go_wp2
    refine bodyPost_ret (v := .agg #[.float .f64 x, .float .f64 y, .float .f64 (frK (nx, ny, fd) (x, y))]) (by simp [R0, R1, R2, results, Try.results50, go_sem] <;> (first | exact ⟨rfl, rfl, rfl⟩ | exact ⟨rfl, rfl⟩ | rfl)) rfl ⟨rfl, BF⟩
theorem ewithin_d (x y f : Nat) (w : World) : Calls Try.prog 78 #[.agg #[.float .f64 x, .float .f64 y, .float .f64 f]] w fun e w' => e = .returned (.bool (leK .f64 f 0)) ∧ Bel w w' := by
  have c1 := cmp_le .f64
  go_enter Try.func78, Try.ntmps78
  go_wp2
  go_ret
  refine ⟨rfl, ?_⟩
  repeat (first | exact bl_refl _ | assumption | apply bl_drewN | apply bl_drew | apply bl_alloc | refine bl_set ?_ (by simp <;> omega) | refine bl_trans ?_ (by assumption))

set_option maxRecDepth 100000 in
set_option maxHeartbeats 2000000 in
theorem cut_d {k nx ny fd ax ay bx b_y : Nat} (w : World) (hp : PnB (nx, ny, fd)) (ha : PtB k (ax, ay)) (hb : PtB k (bx, b_y)) (hk : k ≤ 600) (hne : wiB (nx, ny, fd) (ax, ay) ≠ wiB (nx, ny, fd) (bx, b_y)) : Calls Try.prog 79 #[.agg #[.float .f64 ax, .float .f64 ay, .float .f64 (frK (nx, ny, fd) (ax, ay))], .agg #[.float .f64 bx, .float .f64 b_y, .float .f64 (frK (nx, ny, fd) (bx, b_y))]] w fun e w' => e = .returned (.agg #[.float .f64 (cuX (nx, ny, fd) (ax, ay) (bx, b_y)), .float .f64 (cuY (nx, ny, fd) (ax, ay) (bx, b_y))]) ∧ Bel w w' := by
  obtain ⟨nz, bD, bt, _⟩ := cuT_bd hp ha hb hk hne
  have fa := fr_bd hp ha hk
  have fb := fr_bd hp hb hk
  obtain ⟨a1, a2⟩ := ha
  obtain ⟨b1, b2⟩ := hb
  simp only at a1 a2 b1 b2
  have s1 := bd_sub b1 a1 (by omega)
  have s2 := bd_sub b2 a2 (by omega)
  have q1 := fun t W => run_sub_dv Try.prog t (frK (nx, ny, fd) (ax, ay)) (frK (nx, ny, fd) (bx, b_y)) W fa.2.1 fb.2.1 fb.1
  have q2 : ∀ t W, (binOp .quo t (.float .f64 (frK (nx, ny, fd) (ax, ay))) (.float .f64 (Dv .sub (frK (nx, ny, fd) (ax, ay)) (frK (nx, ny, fd) (bx, b_y))))).run Try.prog W = .ok (.float .f64 (cuT (nx, ny, fd) (ax, ay) (bx, b_y))) W := fun t W => run_quo_dv Try.prog t (frK (nx, ny, fd) (ax, ay)) (Dv .sub (frK (nx, ny, fd) (ax, ay)) (frK (nx, ny, fd) (bx, b_y))) W fa.2.1 bD.2.1 nz
  clear hne
  have z0_0 : (w.alloc (.cells #[.float .f64 ax, .float .f64 ay, .float .f64 (frK (nx, ny, fd) (ax, ay))] 83)).cell? ⟨w.heap.size, 0, none⟩ = some (.float .f64 ax) := by rw [World.cell?_alloc_new]; rfl
  replace z0_0 := up_alloc (o := .cells #[.float .f64 bx, .float .f64 b_y, .float .f64 (frK (nx, ny, fd) (bx, b_y))] 83) z0_0
  replace z0_0 := up_alloc (o := .cells #[.float .f64 0, .float .f64 0] 24) z0_0
  have z0_1 : (w.alloc (.cells #[.float .f64 ax, .float .f64 ay, .float .f64 (frK (nx, ny, fd) (ax, ay))] 83)).cell? ⟨w.heap.size, 1, none⟩ = some (.float .f64 ay) := by rw [World.cell?_alloc_new]; rfl
  replace z0_1 := up_alloc (o := .cells #[.float .f64 bx, .float .f64 b_y, .float .f64 (frK (nx, ny, fd) (bx, b_y))] 83) z0_1
  replace z0_1 := up_alloc (o := .cells #[.float .f64 0, .float .f64 0] 24) z0_1
  have z0_2 : (w.alloc (.cells #[.float .f64 ax, .float .f64 ay, .float .f64 (frK (nx, ny, fd) (ax, ay))] 83)).cell? ⟨w.heap.size, 2, none⟩ = some (.float .f64 (frK (nx, ny, fd) (ax, ay))) := by rw [World.cell?_alloc_new]; rfl
  replace z0_2 := up_alloc (o := .cells #[.float .f64 bx, .float .f64 b_y, .float .f64 (frK (nx, ny, fd) (bx, b_y))] 83) z0_2
  replace z0_2 := up_alloc (o := .cells #[.float .f64 0, .float .f64 0] 24) z0_2
  have z1_0 : ((w.alloc (.cells #[.float .f64 ax, .float .f64 ay, .float .f64 (frK (nx, ny, fd) (ax, ay))] 83)).alloc (.cells #[.float .f64 bx, .float .f64 b_y, .float .f64 (frK (nx, ny, fd) (bx, b_y))] 83)).cell? ⟨w.heap.size + 1, 0, none⟩ = some (.float .f64 bx) := by rw [← (show (w.alloc (.cells #[.float .f64 ax, .float .f64 ay, .float .f64 (frK (nx, ny, fd) (ax, ay))] 83)).heap.size = w.heap.size + 1 by simp only [World.size_alloc]), World.cell?_alloc_new]; rfl
  replace z1_0 := up_alloc (o := .cells #[.float .f64 0, .float .f64 0] 24) z1_0
  have z1_1 : ((w.alloc (.cells #[.float .f64 ax, .float .f64 ay, .float .f64 (frK (nx, ny, fd) (ax, ay))] 83)).alloc (.cells #[.float .f64 bx, .float .f64 b_y, .float .f64 (frK (nx, ny, fd) (bx, b_y))] 83)).cell? ⟨w.heap.size + 1, 1, none⟩ = some (.float .f64 b_y) := by rw [← (show (w.alloc (.cells #[.float .f64 ax, .float .f64 ay, .float .f64 (frK (nx, ny, fd) (ax, ay))] 83)).heap.size = w.heap.size + 1 by simp only [World.size_alloc]), World.cell?_alloc_new]; rfl
  replace z1_1 := up_alloc (o := .cells #[.float .f64 0, .float .f64 0] 24) z1_1
  have z1_2 : ((w.alloc (.cells #[.float .f64 ax, .float .f64 ay, .float .f64 (frK (nx, ny, fd) (ax, ay))] 83)).alloc (.cells #[.float .f64 bx, .float .f64 b_y, .float .f64 (frK (nx, ny, fd) (bx, b_y))] 83)).cell? ⟨w.heap.size + 1, 2, none⟩ = some (.float .f64 (frK (nx, ny, fd) (bx, b_y))) := by rw [← (show (w.alloc (.cells #[.float .f64 ax, .float .f64 ay, .float .f64 (frK (nx, ny, fd) (ax, ay))] 83)).heap.size = w.heap.size + 1 by simp only [World.size_alloc]), World.cell?_alloc_new]; rfl
  replace z1_2 := up_alloc (o := .cells #[.float .f64 0, .float .f64 0] 24) z1_2
  have z2_0 : (((w.alloc (.cells #[.float .f64 ax, .float .f64 ay, .float .f64 (frK (nx, ny, fd) (ax, ay))] 83)).alloc (.cells #[.float .f64 bx, .float .f64 b_y, .float .f64 (frK (nx, ny, fd) (bx, b_y))] 83)).alloc (.cells #[.float .f64 0, .float .f64 0] 24)).cell? ⟨w.heap.size + 1 + 1, 0, none⟩ = some (.float .f64 0) := by rw [← (show ((w.alloc (.cells #[.float .f64 ax, .float .f64 ay, .float .f64 (frK (nx, ny, fd) (ax, ay))] 83)).alloc (.cells #[.float .f64 bx, .float .f64 b_y, .float .f64 (frK (nx, ny, fd) (bx, b_y))] 83)).heap.size = w.heap.size + 1 + 1 by simp only [World.size_alloc]), World.cell?_alloc_new]; rfl
  have z2_1 : (((w.alloc (.cells #[.float .f64 ax, .float .f64 ay, .float .f64 (frK (nx, ny, fd) (ax, ay))] 83)).alloc (.cells #[.float .f64 bx, .float .f64 b_y, .float .f64 (frK (nx, ny, fd) (bx, b_y))] 83)).alloc (.cells #[.float .f64 0, .float .f64 0] 24)).cell? ⟨w.heap.size + 1 + 1, 1, none⟩ = some (.float .f64 0) := by rw [← (show ((w.alloc (.cells #[.float .f64 ax, .float .f64 ay, .float .f64 (frK (nx, ny, fd) (ax, ay))] 83)).alloc (.cells #[.float .f64 bx, .float .f64 b_y, .float .f64 (frK (nx, ny, fd) (bx, b_y))] 83)).heap.size = w.heap.size + 1 + 1 by simp only [World.size_alloc]), World.cell?_alloc_new]; rfl
  have B0 : Bel w (((w.alloc (.cells #[.float .f64 ax, .float .f64 ay, .float .f64 (frK (nx, ny, fd) (ax, ay))] 83)).alloc (.cells #[.float .f64 bx, .float .f64 b_y, .float .f64 (frK (nx, ny, fd) (bx, b_y))] 83)).alloc (.cells #[.float .f64 0, .float .f64 0] 24)) := bl_alloc (bl_alloc (bl_alloc (bl_refl w) _ _) _ _) _ _
  have fR : ∀ o, (((w.alloc (.cells #[.float .f64 ax, .float .f64 ay, .float .f64 (frK (nx, ny, fd) (ax, ay))] 83)).alloc (.cells #[.float .f64 bx, .float .f64 b_y, .float .f64 (frK (nx, ny, fd) (bx, b_y))] 83)).alloc (.cells #[.float .f64 0, .float .f64 0] 24)).frozen? ⟨w.heap.size + 1 + 1, o, none⟩ = false := fun o => ((show Bel ((w.alloc (.cells #[.float .f64 ax, .float .f64 ay, .float .f64 (frK (nx, ny, fd) (ax, ay))] 83)).alloc (.cells #[.float .f64 bx, .float .f64 b_y, .float .f64 (frK (nx, ny, fd) (bx, b_y))] 83)) (((w.alloc (.cells #[.float .f64 ax, .float .f64 ay, .float .f64 (frK (nx, ny, fd) (ax, ay))] 83)).alloc (.cells #[.float .f64 bx, .float .f64 b_y, .float .f64 (frK (nx, ny, fd) (bx, b_y))] 83)).alloc (.cells #[.float .f64 0, .float .f64 0] 24)) by exact bl_alloc (bl_refl _) _ _).2 _).trans (fresh_frozen (by simp only [World.size_alloc]; exact Nat.le_refl _))
  go_enter Try.func79, Try.ntmps79
  go_wp2
  refine wp_region_ret 17 16 15 rfl (fun i v => match i with | 0 => v = .pointer (some ⟨w.heap.size, 0, none⟩) | 1 => v = .agg #[.float .f64 ax, .float .f64 ay] | 2 => v = .pointer (some ⟨w.heap.size, 2, none⟩) | 3 => v = .float .f64 (frK (nx, ny, fd) (ax, ay)) | 4 => v = .pointer (some ⟨w.heap.size, 2, none⟩) | 5 => v = .float .f64 (frK (nx, ny, fd) (ax, ay)) | 6 => v = .pointer (some ⟨w.heap.size + 1, 2, none⟩) | 7 => v = .float .f64 (frK (nx, ny, fd) (bx, b_y)) | 8 => v = .float .f64 (Dv .sub (frK (nx, ny, fd) (ax, ay)) (frK (nx, ny, fd) (bx, b_y))) | 9 => v = .float .f64 (cuT (nx, ny, fd) (ax, ay) (bx, b_y)) | 10 => v = .pointer (some ⟨w.heap.size + 1, 0, none⟩) | 11 => v = .agg #[.float .f64 bx, .float .f64 b_y] | 12 => v = .pointer (some ⟨w.heap.size, 0, none⟩) | 13 => v = .agg #[.float .f64 ax, .float .f64 ay] | 14 => v = .agg #[.float .f64 (Dv .sub bx ax), .float .f64 (Dv .sub b_y ay)] | 15 => v = .agg #[.float .f64 (cuX (nx, ny, fd) (ax, ay) (bx, b_y)), .float .f64 (cuY (nx, ny, fd) (ax, ay) (bx, b_y))] | _ => False) (putN (w.heap.size + 1 + 1) 2) ?A_wo (by kernel_rfl) (by kernel_rfl) (by kernel_rfl) (by decide) (by decide) ?hA_wo ?hst_wo ?hq_wo ?ht_wo
  case hA_wo =>
    intro s
    simp only [putL, dstO, Act.put, List.getElem?_toArray, List.getElem?_cons_zero, List.getElem?_cons_succ, Option.bind_some, List.setIfInBounds_toArray, List.set_cons_zero, List.set_cons_succ, if_true]
    all_goals exact rfl
  case hst_wo =>
    intro o ho s hs W hb K hK
    cases ho
    have u0 := keep hb z2_0; have u1 := keep hb z2_1; have u9 := fun o => (hb.2 ⟨w.heap.size + 1 + 1, o, none⟩).trans (fR o)
    have e15 : s 15 = _ := hs 15 (by decide) (by kernel_rfl)
    simp only [e15] at hK ⊢
    clear hs
    go_simp
    exact hK.out
  case hq_wo =>
    intro i o hi hne ho s hs W hb K hK
    have uz0_0 := once_keepN hb z0_0 (by simp only; omega); have uz0_1 := once_keepN hb z0_1 (by simp only; omega); have uz0_2 := once_keepN hb z0_2 (by simp only; omega); have uz1_0 := once_keepN hb z1_0 (by simp only; omega); have uz1_1 := once_keepN hb z1_1 (by simp only; omega); have uz1_2 := once_keepN hb z1_2 (by simp only; omega)
    rcases (show i = 0 ∨ i = 1 ∨ i = 2 ∨ i = 3 ∨ i = 4 ∨ i = 5 ∨ i = 6 ∨ i = 7 ∨ i = 8 ∨ i = 9 ∨ i = 10 ∨ i = 11 ∨ i = 12 ∨ i = 13 ∨ i = 14 ∨ i = 15 ∨ i = 16 by omega) with rfl | rfl | rfl | rfl | rfl | rfl | rfl | rfl | rfl | rfl | rfl | rfl | rfl | rfl | rfl | rfl | rfl
    · cases ho
      simp only [Act.put, List.setIfInBounds_toArray, List.set_cons_zero, List.set_cons_succ] at hK
      clear hs hne
      go_simp
      all_goals (try go_wp2_with (first | (go_at_call 26; refine (vSub_d _ (by with_reducible assumption) (by with_reducible assumption) (by with_reducible assumption) (by with_reducible assumption)).mono ?_; rintro e w' ⟨rfl, hb1⟩) | (go_at_call 109; refine (vMore_d _ (by with_reducible assumption) (by with_reducible assumption) bt (by with_reducible assumption) (by with_reducible assumption) (by omega)).mono ?_; rintro e w' ⟨rfl, hb1⟩)))
      all_goals first | exact hK.out _ _ rfl (bl_refl _) | exact hK.out _ _ rfl (by assumption) | exact hK.out _ _ (by assumption) (by assumption)
    · cases ho
      have e0 : s 0 = _ := hs 0 (by decide) (by decide) (by kernel_rfl)
      simp only [e0] at hK ⊢
      simp only [Act.put, List.setIfInBounds_toArray, List.set_cons_zero, List.set_cons_succ] at hK
      clear hs hne
      go_simp
      all_goals (try go_wp2_with (first | (go_at_call 26; refine (vSub_d _ (by with_reducible assumption) (by with_reducible assumption) (by with_reducible assumption) (by with_reducible assumption)).mono ?_; rintro e w' ⟨rfl, hb1⟩) | (go_at_call 109; refine (vMore_d _ (by with_reducible assumption) (by with_reducible assumption) bt (by with_reducible assumption) (by with_reducible assumption) (by omega)).mono ?_; rintro e w' ⟨rfl, hb1⟩)))
      all_goals first | exact hK.out _ _ rfl (bl_refl _) | exact hK.out _ _ rfl (by assumption) | exact hK.out _ _ (by assumption) (by assumption)
    · cases ho
      simp only [Act.put, List.setIfInBounds_toArray, List.set_cons_zero, List.set_cons_succ] at hK
      clear hs hne
      go_simp
      all_goals (try go_wp2_with (first | (go_at_call 26; refine (vSub_d _ (by with_reducible assumption) (by with_reducible assumption) (by with_reducible assumption) (by with_reducible assumption)).mono ?_; rintro e w' ⟨rfl, hb1⟩) | (go_at_call 109; refine (vMore_d _ (by with_reducible assumption) (by with_reducible assumption) bt (by with_reducible assumption) (by with_reducible assumption) (by omega)).mono ?_; rintro e w' ⟨rfl, hb1⟩)))
      all_goals first | exact hK.out _ _ rfl (bl_refl _) | exact hK.out _ _ rfl (by assumption) | exact hK.out _ _ (by assumption) (by assumption)
    · cases ho
      have e2 : s 2 = _ := hs 2 (by decide) (by decide) (by kernel_rfl)
      simp only [e2] at hK ⊢
      simp only [Act.put, List.setIfInBounds_toArray, List.set_cons_zero, List.set_cons_succ] at hK
      clear hs hne
      go_simp
      all_goals (try go_wp2_with (first | (go_at_call 26; refine (vSub_d _ (by with_reducible assumption) (by with_reducible assumption) (by with_reducible assumption) (by with_reducible assumption)).mono ?_; rintro e w' ⟨rfl, hb1⟩) | (go_at_call 109; refine (vMore_d _ (by with_reducible assumption) (by with_reducible assumption) bt (by with_reducible assumption) (by with_reducible assumption) (by omega)).mono ?_; rintro e w' ⟨rfl, hb1⟩)))
      all_goals first | exact hK.out _ _ rfl (bl_refl _) | exact hK.out _ _ rfl (by assumption) | exact hK.out _ _ (by assumption) (by assumption)
    · cases ho
      simp only [Act.put, List.setIfInBounds_toArray, List.set_cons_zero, List.set_cons_succ] at hK
      clear hs hne
      go_simp
      all_goals (try go_wp2_with (first | (go_at_call 26; refine (vSub_d _ (by with_reducible assumption) (by with_reducible assumption) (by with_reducible assumption) (by with_reducible assumption)).mono ?_; rintro e w' ⟨rfl, hb1⟩) | (go_at_call 109; refine (vMore_d _ (by with_reducible assumption) (by with_reducible assumption) bt (by with_reducible assumption) (by with_reducible assumption) (by omega)).mono ?_; rintro e w' ⟨rfl, hb1⟩)))
      all_goals first | exact hK.out _ _ rfl (bl_refl _) | exact hK.out _ _ rfl (by assumption) | exact hK.out _ _ (by assumption) (by assumption)
    · cases ho
      have e4 : s 4 = _ := hs 4 (by decide) (by decide) (by kernel_rfl)
      simp only [e4] at hK ⊢
      simp only [Act.put, List.setIfInBounds_toArray, List.set_cons_zero, List.set_cons_succ] at hK
      clear hs hne
      go_simp
      all_goals (try go_wp2_with (first | (go_at_call 26; refine (vSub_d _ (by with_reducible assumption) (by with_reducible assumption) (by with_reducible assumption) (by with_reducible assumption)).mono ?_; rintro e w' ⟨rfl, hb1⟩) | (go_at_call 109; refine (vMore_d _ (by with_reducible assumption) (by with_reducible assumption) bt (by with_reducible assumption) (by with_reducible assumption) (by omega)).mono ?_; rintro e w' ⟨rfl, hb1⟩)))
      all_goals first | exact hK.out _ _ rfl (bl_refl _) | exact hK.out _ _ rfl (by assumption) | exact hK.out _ _ (by assumption) (by assumption)
    · cases ho
      simp only [Act.put, List.setIfInBounds_toArray, List.set_cons_zero, List.set_cons_succ] at hK
      clear hs hne
      go_simp
      all_goals (try go_wp2_with (first | (go_at_call 26; refine (vSub_d _ (by with_reducible assumption) (by with_reducible assumption) (by with_reducible assumption) (by with_reducible assumption)).mono ?_; rintro e w' ⟨rfl, hb1⟩) | (go_at_call 109; refine (vMore_d _ (by with_reducible assumption) (by with_reducible assumption) bt (by with_reducible assumption) (by with_reducible assumption) (by omega)).mono ?_; rintro e w' ⟨rfl, hb1⟩)))
      all_goals first | exact hK.out _ _ rfl (bl_refl _) | exact hK.out _ _ rfl (by assumption) | exact hK.out _ _ (by assumption) (by assumption)
    · cases ho
      have e6 : s 6 = _ := hs 6 (by decide) (by decide) (by kernel_rfl)
      simp only [e6] at hK ⊢
      simp only [Act.put, List.setIfInBounds_toArray, List.set_cons_zero, List.set_cons_succ] at hK
      clear hs hne
      go_simp
      all_goals (try go_wp2_with (first | (go_at_call 26; refine (vSub_d _ (by with_reducible assumption) (by with_reducible assumption) (by with_reducible assumption) (by with_reducible assumption)).mono ?_; rintro e w' ⟨rfl, hb1⟩) | (go_at_call 109; refine (vMore_d _ (by with_reducible assumption) (by with_reducible assumption) bt (by with_reducible assumption) (by with_reducible assumption) (by omega)).mono ?_; rintro e w' ⟨rfl, hb1⟩)))
      all_goals first | exact hK.out _ _ rfl (bl_refl _) | exact hK.out _ _ rfl (by assumption) | exact hK.out _ _ (by assumption) (by assumption)
    · cases ho
      have e5 : s 5 = _ := hs 5 (by decide) (by decide) (by kernel_rfl)
      have e7 : s 7 = _ := hs 7 (by decide) (by decide) (by kernel_rfl)
      simp only [e5, e7] at hK ⊢
      simp only [Act.put, List.setIfInBounds_toArray, List.set_cons_zero, List.set_cons_succ] at hK
      clear hs hne
      go_simp
      all_goals (try go_wp2_with (first | (go_at_call 26; refine (vSub_d _ (by with_reducible assumption) (by with_reducible assumption) (by with_reducible assumption) (by with_reducible assumption)).mono ?_; rintro e w' ⟨rfl, hb1⟩) | (go_at_call 109; refine (vMore_d _ (by with_reducible assumption) (by with_reducible assumption) bt (by with_reducible assumption) (by with_reducible assumption) (by omega)).mono ?_; rintro e w' ⟨rfl, hb1⟩)))
      all_goals first | exact hK.out _ _ rfl (bl_refl _) | exact hK.out _ _ rfl (by assumption) | exact hK.out _ _ (by assumption) (by assumption)
    · cases ho
      have e3 : s 3 = _ := hs 3 (by decide) (by decide) (by kernel_rfl)
      have e8 : s 8 = _ := hs 8 (by decide) (by decide) (by kernel_rfl)
      simp only [e3, e8] at hK ⊢
      simp only [Act.put, List.setIfInBounds_toArray, List.set_cons_zero, List.set_cons_succ] at hK
      clear hs hne
      go_simp
      all_goals (try go_wp2_with (first | (go_at_call 26; refine (vSub_d _ (by with_reducible assumption) (by with_reducible assumption) (by with_reducible assumption) (by with_reducible assumption)).mono ?_; rintro e w' ⟨rfl, hb1⟩) | (go_at_call 109; refine (vMore_d _ (by with_reducible assumption) (by with_reducible assumption) bt (by with_reducible assumption) (by with_reducible assumption) (by omega)).mono ?_; rintro e w' ⟨rfl, hb1⟩)))
      all_goals first | exact hK.out _ _ rfl (bl_refl _) | exact hK.out _ _ rfl (by assumption) | exact hK.out _ _ (by assumption) (by assumption)
    · cases ho
      simp only [Act.put, List.setIfInBounds_toArray, List.set_cons_zero, List.set_cons_succ] at hK
      clear hs hne
      go_simp
      all_goals (try go_wp2_with (first | (go_at_call 26; refine (vSub_d _ (by with_reducible assumption) (by with_reducible assumption) (by with_reducible assumption) (by with_reducible assumption)).mono ?_; rintro e w' ⟨rfl, hb1⟩) | (go_at_call 109; refine (vMore_d _ (by with_reducible assumption) (by with_reducible assumption) bt (by with_reducible assumption) (by with_reducible assumption) (by omega)).mono ?_; rintro e w' ⟨rfl, hb1⟩)))
      all_goals first | exact hK.out _ _ rfl (bl_refl _) | exact hK.out _ _ rfl (by assumption) | exact hK.out _ _ (by assumption) (by assumption)
    · cases ho
      have e10 : s 10 = _ := hs 10 (by decide) (by decide) (by kernel_rfl)
      simp only [e10] at hK ⊢
      simp only [Act.put, List.setIfInBounds_toArray, List.set_cons_zero, List.set_cons_succ] at hK
      clear hs hne
      go_simp
      all_goals (try go_wp2_with (first | (go_at_call 26; refine (vSub_d _ (by with_reducible assumption) (by with_reducible assumption) (by with_reducible assumption) (by with_reducible assumption)).mono ?_; rintro e w' ⟨rfl, hb1⟩) | (go_at_call 109; refine (vMore_d _ (by with_reducible assumption) (by with_reducible assumption) bt (by with_reducible assumption) (by with_reducible assumption) (by omega)).mono ?_; rintro e w' ⟨rfl, hb1⟩)))
      all_goals first | exact hK.out _ _ rfl (bl_refl _) | exact hK.out _ _ rfl (by assumption) | exact hK.out _ _ (by assumption) (by assumption)
    · cases ho
      simp only [Act.put, List.setIfInBounds_toArray, List.set_cons_zero, List.set_cons_succ] at hK
      clear hs hne
      go_simp
      all_goals (try go_wp2_with (first | (go_at_call 26; refine (vSub_d _ (by with_reducible assumption) (by with_reducible assumption) (by with_reducible assumption) (by with_reducible assumption)).mono ?_; rintro e w' ⟨rfl, hb1⟩) | (go_at_call 109; refine (vMore_d _ (by with_reducible assumption) (by with_reducible assumption) bt (by with_reducible assumption) (by with_reducible assumption) (by omega)).mono ?_; rintro e w' ⟨rfl, hb1⟩)))
      all_goals first | exact hK.out _ _ rfl (bl_refl _) | exact hK.out _ _ rfl (by assumption) | exact hK.out _ _ (by assumption) (by assumption)
    · cases ho
      have e12 : s 12 = _ := hs 12 (by decide) (by decide) (by kernel_rfl)
      simp only [e12] at hK ⊢
      simp only [Act.put, List.setIfInBounds_toArray, List.set_cons_zero, List.set_cons_succ] at hK
      clear hs hne
      go_simp
      all_goals (try go_wp2_with (first | (go_at_call 26; refine (vSub_d _ (by with_reducible assumption) (by with_reducible assumption) (by with_reducible assumption) (by with_reducible assumption)).mono ?_; rintro e w' ⟨rfl, hb1⟩) | (go_at_call 109; refine (vMore_d _ (by with_reducible assumption) (by with_reducible assumption) bt (by with_reducible assumption) (by with_reducible assumption) (by omega)).mono ?_; rintro e w' ⟨rfl, hb1⟩)))
      all_goals first | exact hK.out _ _ rfl (bl_refl _) | exact hK.out _ _ rfl (by assumption) | exact hK.out _ _ (by assumption) (by assumption)
    · cases ho
      have e11 : s 11 = _ := hs 11 (by decide) (by decide) (by kernel_rfl)
      have e13 : s 13 = _ := hs 13 (by decide) (by decide) (by kernel_rfl)
      simp only [e11, e13] at hK ⊢
      simp only [Act.put, List.setIfInBounds_toArray, List.set_cons_zero, List.set_cons_succ] at hK
      clear hs hne
      go_simp
      all_goals (try go_wp2_with (first | (go_at_call 26; refine (vSub_d _ (by with_reducible assumption) (by with_reducible assumption) (by with_reducible assumption) (by with_reducible assumption)).mono ?_; rintro e w' ⟨rfl, hb1⟩) | (go_at_call 109; refine (vMore_d _ (by with_reducible assumption) (by with_reducible assumption) bt (by with_reducible assumption) (by with_reducible assumption) (by omega)).mono ?_; rintro e w' ⟨rfl, hb1⟩)))
      all_goals first | exact hK.out _ _ rfl (bl_refl _) | exact hK.out _ _ rfl (by assumption) | exact hK.out _ _ (by assumption) (by assumption)
    · cases ho
      have e1 : s 1 = _ := hs 1 (by decide) (by decide) (by kernel_rfl)
      have e9 : s 9 = _ := hs 9 (by decide) (by decide) (by kernel_rfl)
      have e14 : s 14 = _ := hs 14 (by decide) (by decide) (by kernel_rfl)
      simp only [e1, e9, e14] at hK ⊢
      simp only [Act.put, List.setIfInBounds_toArray, List.set_cons_zero, List.set_cons_succ] at hK
      clear hs hne
      go_simp
      all_goals (try go_wp2_with (first | (go_at_call 26; refine (vSub_d _ (by with_reducible assumption) (by with_reducible assumption) (by with_reducible assumption) (by with_reducible assumption)).mono ?_; rintro e w' ⟨rfl, hb1⟩) | (go_at_call 109; refine (vMore_d _ (by with_reducible assumption) (by with_reducible assumption) bt (by with_reducible assumption) (by with_reducible assumption) (by omega)).mono ?_; rintro e w' ⟨rfl, hb1⟩)))
      all_goals first | exact hK.out _ _ rfl (bl_refl _) | exact hK.out _ _ rfl (by assumption) | exact hK.out _ _ (by assumption) (by assumption)
    · exact absurd rfl hne
  case ht_wo =>
    intro s hs W0 W hb0 hb
    have e0 : s 0 = _ := hs 0 (by decide) (by decide)
    have e1 : s 1 = _ := hs 1 (by decide) (by decide)
    have e2 : s 2 = _ := hs 2 (by decide) (by decide)
    have e3 : s 3 = _ := hs 3 (by decide) (by decide)
    have e4 : s 4 = _ := hs 4 (by decide) (by decide)
    have e5 : s 5 = _ := hs 5 (by decide) (by decide)
    have e6 : s 6 = _ := hs 6 (by decide) (by decide)
    have e7 : s 7 = _ := hs 7 (by decide) (by decide)
    have e8 : s 8 = _ := hs 8 (by decide) (by decide)
    have e9 : s 9 = _ := hs 9 (by decide) (by decide)
    have e10 : s 10 = _ := hs 10 (by decide) (by decide)
    have e11 : s 11 = _ := hs 11 (by decide) (by decide)
    have e12 : s 12 = _ := hs 12 (by decide) (by decide)
    have e13 : s 13 = _ := hs 13 (by decide) (by decide)
    have e14 : s 14 = _ := hs 14 (by decide) (by decide)
    have e15 : s 15 = _ := hs 15 (by decide) (by decide)
    simp only [e0, e1, e2, e3, e4, e5, e6, e7, e8, e9, e10, e11, e12, e13, e14, e15]
    rw [e15] at hb
    clear hs e0 e1 e2 e3 e4 e5 e6 e7 e8 e9 e10 e11 e12 e13 e14 e15
    have RA := putN_at (R := w.heap.size + 1 + 1) (W := W0) (v := .agg #[.float .f64 (cuX (nx, ny, fd) (ax, ay) (bx, b_y)), .float .f64 (cuY (nx, ny, fd) (ax, ay) (bx, b_y))]) 2 (fun i hi => by rcases (show i = 0 ∨ i = 1 by omega) with rfl | rfl <;> first | (rw [keep hb0 z2_0]; rfl) | (rw [keep hb0 z2_1]; rfl))
    have R0 := keep hb (RA 0 (by decide)); have R1 := keep hb (RA 1 (by decide))
    simp only [cellAt] at R0 R1
    have BF := bl_trans (putN_bel (bl_trans B0 hb0) (show w.heap.size ≤ w.heap.size + 1 + 1 by omega) 2) hb
    go_wp2
    refine bodyPost_ret (v := .agg #[.float .f64 (cuX (nx, ny, fd) (ax, ay) (bx, b_y)), .float .f64 (cuY (nx, ny, fd) (ax, ay) (bx, b_y))]) (by simp [R0, R1, results, Try.results79, go_sem] <;> (first | exact ⟨rfl, rfl⟩ | rfl)) rfl ⟨rfl, BF⟩

end Go.Proofs.Ytpedpgpgcmhnoaa
