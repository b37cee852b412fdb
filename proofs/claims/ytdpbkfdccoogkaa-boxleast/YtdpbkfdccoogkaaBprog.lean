/-
  What each function of package box answers, and what the reference of its chapter answers: one contract a function, for every float: the answer stands in the relation of its formula to what was given; of the memory that was there nothing has turned.
-/
import Derived.Test.YtdpbkfdccoogkaaVec
import Derived.Test.YtdpbkfdccoogkaaBox
import Derived.Below
import Derived.WalkKit
import Derived.WalkLawsBesides
import Derived.WalkSpells
import Derived.ProofKit
import Derived.OpenShut
import Derived.Deep.RegionHeld3
namespace Go.Proofs.Ytdpbkfdccoogkaa
open Go.ChangeShapes Go.WideShapes Go.ChangeAt Go.RowKit
set_option linter.unusedVariables false
set_option linter.unusedSimpArgs false

theorem vFinite_any (ax ay : Nat) (w : World) : Calls Try.prog 37 #[.agg #[.float .f64 ax, .float .f64 ay]] w fun e w' => e = .returned (.bool (finK .f64 ax && finK .f64 ay)) ∧ Bel w w' := by
  cases h1 : finK .f64 ax
  all_goals
    go_enter Try.func37, Try.ntmps37
    go_wp2_with (first | (go_at_call 58; refine (finite_6 _ _).mono ?_; rintro e w' ⟨n2, rfl, rfl⟩))
    go_ret
    refine ⟨rfl, ?_⟩
    repeat (first | exact bl_refl _ | assumption | apply bl_drewN | apply bl_drew | apply bl_alloc | refine bl_set ?_ (by simp <;> omega) | refine bl_trans ?_ (by assumption))

theorem vWithin_any (ax ay m : Nat) (w : World) : Calls Try.prog 38 #[.agg #[.float .f64 ax, .float .f64 ay], .float .f64 m] w fun e w' => e = .returned (.bool (withinK .f64 ax m && withinK .f64 ay m)) ∧ Bel w w' := by
  cases h1 : withinK .f64 ax m
  all_goals
    go_enter Try.func38, Try.ntmps38
    go_wp2_with (first | (go_at_call 59; refine (within_6 _ _ _).mono ?_; rintro e w' ⟨rfl, rfl⟩))
    go_ret
    refine ⟨rfl, ?_⟩
    repeat (first | exact bl_refl _ | assumption | apply bl_drewN | apply bl_drew | apply bl_alloc | refine bl_set ?_ (by simp <;> omega) | refine bl_trans ?_ (by assumption))

theorem rSame_any (ax ay bx b_y : Nat) (w : World) : Calls Try.prog 34 #[.agg #[.float .f64 ax, .float .f64 ay], .agg #[.float .f64 bx, .float .f64 b_y]] w fun e w' => e = .returned (.bool (smK .f64 ax bx && smK .f64 ay b_y)) ∧ Bel w w' := by
  cases h1 : smK .f64 ax bx
  all_goals
    go_enter Try.func34, Try.ntmps34
    go_wp2_with (first | (go_at_call 27; refine (rIs_any _ _ _).mono ?_; rintro e w' ⟨rfl, rfl⟩))
    go_ret
    refine ⟨rfl, ?_⟩
    repeat (first | exact bl_refl _ | assumption | apply bl_drewN | apply bl_drew | apply bl_alloc | refine bl_set ?_ (by simp <;> omega) | refine bl_trans ?_ (by assumption))

theorem rFinite_any (ax ay : Nat) (w : World) : Calls Try.prog 49 #[.agg #[.float .f64 ax, .float .f64 ay]] w fun e w' => e = .returned (.bool (finK .f64 ax && finK .f64 ay)) ∧ Bel w w' := by
  cases h1 : finK .f64 ax
  all_goals
    go_enter Try.func49, Try.ntmps49
    go_wp2_with (first | (go_at_call 70; refine (rEnd_any _ _).mono ?_; rintro e w' ⟨n2, rfl, rfl⟩))
    go_ret
    refine ⟨rfl, ?_⟩
    repeat (first | exact bl_refl _ | assumption | apply bl_drewN | apply bl_drew | apply bl_alloc | refine bl_set ?_ (by simp <;> omega) | refine bl_trans ?_ (by assumption))

theorem up_set {W : World} {p a : Addr} {v x : Value} (hne : p.block ≠ a.block) (h : W.cell? a = some v) : (W.setCell p x).cell? a = some v := (World.cell?_setCell_far W p a x hne).trans h
theorem up_set2 {W : World} {b c o o' : Nat} {v x : Value} (hne : b ≠ c) (h : W.cell? ⟨c, o', none⟩ = some v) : (W.setCell ⟨b, o, none⟩ x).cell? ⟨c, o', none⟩ = some v := up_set hne h
theorem up_alloc {W : World} {a : Addr} {v : Value} {o : Obj} (h : W.cell? a = some v) : (W.alloc o).cell? a = some v := (World.cell?_alloc_some W a o (by rw [h]; rfl)).trans h
theorem up_drew {W : World} {a : Addr} {v : Value} (h : W.cell? a = some v) : W.drew.cell? a = some v := h
theorem up_drewN {W : World} {a : Addr} {v : Value} {n : Nat} (h : W.cell? a = some v) : (W.drewN n).cell? a = some v := h
theorem far_off {W : World} {n o o' : Nat} {v : Value} (h : o ≠ o') : (W.setCell ⟨n, o, none⟩ v).cell? ⟨n, o', none⟩ = W.cell? ⟨n, o', none⟩ := by
  apply World.cell?_setCell_other
  intro e
  injection e with e1 e2 e3
  exact h e2
theorem set3 {W : World} {n : Nat} {p q r p0 q0 r0 : Value} (h0 : W.cell? ⟨n, 0, none⟩ = some p0) (h1 : W.cell? ⟨n, 1, none⟩ = some q0) (h2 : W.cell? ⟨n, 2, none⟩ = some r0) : (((W.setCell ⟨n, 0, none⟩ p).setCell ⟨n, 1, none⟩ q).setCell ⟨n, 2, none⟩ r).cell? ⟨n, 0, none⟩ = some p ∧ (((W.setCell ⟨n, 0, none⟩ p).setCell ⟨n, 1, none⟩ q).setCell ⟨n, 2, none⟩ r).cell? ⟨n, 1, none⟩ = some q ∧ (((W.setCell ⟨n, 0, none⟩ p).setCell ⟨n, 1, none⟩ q).setCell ⟨n, 2, none⟩ r).cell? ⟨n, 2, none⟩ = some r := by
  have f10 : ∀ {Z : World} {v : Value}, (Z.setCell ⟨n, 1, none⟩ v).cell? ⟨n, 0, none⟩ = Z.cell? ⟨n, 0, none⟩ := far_off (by decide)
  have f20 : ∀ {Z : World} {v : Value}, (Z.setCell ⟨n, 2, none⟩ v).cell? ⟨n, 0, none⟩ = Z.cell? ⟨n, 0, none⟩ := far_off (by decide)
  have f21 : ∀ {Z : World} {v : Value}, (Z.setCell ⟨n, 2, none⟩ v).cell? ⟨n, 1, none⟩ = Z.cell? ⟨n, 1, none⟩ := far_off (by decide)
  have f01 : ∀ {Z : World} {v : Value}, (Z.setCell ⟨n, 0, none⟩ v).cell? ⟨n, 1, none⟩ = Z.cell? ⟨n, 1, none⟩ := far_off (by decide)
  have f02 : ∀ {Z : World} {v : Value}, (Z.setCell ⟨n, 0, none⟩ v).cell? ⟨n, 2, none⟩ = Z.cell? ⟨n, 2, none⟩ := far_off (by decide)
  have f12 : ∀ {Z : World} {v : Value}, (Z.setCell ⟨n, 1, none⟩ v).cell? ⟨n, 2, none⟩ = Z.cell? ⟨n, 2, none⟩ := far_off (by decide)
  refine ⟨?_, ?_, ?_⟩
  · rw [f20, f10]; apply World.cell?_setCell_same; exact h0
  · rw [f21]; apply World.cell?_setCell_same; exact f01.trans h1
  · apply World.cell?_setCell_same; exact f12.trans (f02.trans h2)
theorem cell_own {W : World} {n : Nat} (h : n = W.heap.size) (a b : Value) (t : TypeId) : (W.alloc (Obj.cells #[a, b] t)).cell? ⟨n, 0, none⟩ = some a ∧ (W.alloc (Obj.cells #[a, b] t)).cell? ⟨n, 1, none⟩ = some b := by
  subst h
  exact ⟨by go_keep, by go_keep⟩
theorem cell_own3 {W : World} {n : Nat} (h : n = W.heap.size) (a b c : Value) (t : TypeId) : (W.alloc (Obj.cells #[a, b, c] t)).cell? ⟨n, 0, none⟩ = some a ∧ (W.alloc (Obj.cells #[a, b, c] t)).cell? ⟨n, 1, none⟩ = some b ∧ (W.alloc (Obj.cells #[a, b, c] t)).cell? ⟨n, 2, none⟩ = some c := by
  subst h
  exact ⟨by go_keep, by go_keep, by go_keep⟩

set_option maxHeartbeats 400000 in
theorem xleast_any (ax ay bx b_y : Nat) (w : World) : Calls Try.prog 44 #[.agg #[.float .f64 ax, .float .f64 ay], .agg #[.float .f64 bx, .float .f64 b_y]] w fun e w' => e = .returned (.agg #[.float .f64 (leastK .f64 ax bx), .float .f64 (leastK .f64 ay b_y)]) ∧ Bel w w' := by
  go_enter Try.func44, Try.ntmps44
  go_wp2
  go_region_held3 (fun w1 => w1.cell? ⟨w.heap.size, 0, none⟩ = some (.float .f64 ax) ∧ w1.cell? ⟨w.heap.size, 1, none⟩ = some (.float .f64 ay) ∧ w1.cell? ⟨w.heap.size + 1, 0, none⟩ = some (.float .f64 bx) ∧ w1.cell? ⟨w.heap.size + 1, 1, none⟩ = some (.float .f64 b_y)) (first | ((try go_split_ands); refine ⟨?_, ?_, ?_, ?_⟩ <;> (first | ((repeat' (first | (with_reducible assumption) | (with_reducible refine up_drew ?_) | (with_reducible refine up_drewN ?_) | (with_reducible refine keep hb ?_) | (with_reducible refine up_set2 ?_ ?_) | (with_reducible refine (cell_own ?_ _ _ _).1) | (with_reducible refine (cell_own ?_ _ _ _).2) | (with_reducible refine up_alloc ?_) | omega | (simp; done))); done) | go_keep)))
    (first | (go_at_call 66; refine (least_6 _ _ _).mono ?_; rintro e w' ⟨rfl, rfl⟩))
  all_goals go_wp2
  refine bodyPost_ret (v := .agg #[.float .f64 (leastK .f64 ax bx), .float .f64 (leastK .f64 ay b_y)]) (by simp [results, Try.results44, go_sem] <;> (first | exact ⟨rfl, rfl⟩ | rfl)) rfl ⟨rfl, ?_⟩
  repeat (first | exact bl_refl _ | assumption | apply bl_drewN | apply bl_drew | apply bl_alloc | refine bl_set ?_ (by simp <;> omega) | refine bl_trans ?_ (by assumption))

set_option maxHeartbeats 400000 in
theorem xmost_any (ax ay bx b_y : Nat) (w : World) : Calls Try.prog 43 #[.agg #[.float .f64 ax, .float .f64 ay], .agg #[.float .f64 bx, .float .f64 b_y]] w fun e w' => e = .returned (.agg #[.float .f64 (mostK .f64 ax bx), .float .f64 (mostK .f64 ay b_y)]) ∧ Bel w w' := by
  go_enter Try.func43, Try.ntmps43
  go_wp2
  go_region_held3 (fun w1 => w1.cell? ⟨w.heap.size, 0, none⟩ = some (.float .f64 ax) ∧ w1.cell? ⟨w.heap.size, 1, none⟩ = some (.float .f64 ay) ∧ w1.cell? ⟨w.heap.size + 1, 0, none⟩ = some (.float .f64 bx) ∧ w1.cell? ⟨w.heap.size + 1, 1, none⟩ = some (.float .f64 b_y)) (first | ((try go_split_ands); refine ⟨?_, ?_, ?_, ?_⟩ <;> (first | ((repeat' (first | (with_reducible assumption) | (with_reducible refine up_drew ?_) | (with_reducible refine up_drewN ?_) | (with_reducible refine keep hb ?_) | (with_reducible refine up_set2 ?_ ?_) | (with_reducible refine (cell_own ?_ _ _ _).1) | (with_reducible refine (cell_own ?_ _ _ _).2) | (with_reducible refine up_alloc ?_) | omega | (simp; done))); done) | go_keep)))
    (first | (go_at_call 65; refine (most_6 _ _ _).mono ?_; rintro e w' ⟨rfl, rfl⟩))
  all_goals go_wp2
  refine bodyPost_ret (v := .agg #[.float .f64 (mostK .f64 ax bx), .float .f64 (mostK .f64 ay b_y)]) (by simp [results, Try.results43, go_sem] <;> (first | exact ⟨rfl, rfl⟩ | rfl)) rfl ⟨rfl, ?_⟩
  repeat (first | exact bl_refl _ | assumption | apply bl_drewN | apply bl_drew | apply bl_alloc | refine bl_set ?_ (by simp <;> omega) | refine bl_trans ?_ (by assumption))

theorem xatMost_any (ax ay bx b_y : Nat) (w : World) : Calls Try.prog 48 #[.agg #[.float .f64 ax, .float .f64 ay], .agg #[.float .f64 bx, .float .f64 b_y]] w fun e w' => e = .returned (.bool (leK .f64 ax bx && leK .f64 ay b_y)) ∧ Bel w w' := by
  have c1 := cmp_le .f64
  cases h1 : leK .f64 ax bx
  all_goals
    go_enter Try.func48, Try.ntmps48
    go_wp2
    go_ret
    refine ⟨by simp [h1], ?_⟩
    repeat (first | exact bl_refl _ | assumption | apply bl_drewN | apply bl_drew | apply bl_alloc | refine bl_set ?_ (by simp <;> omega) | refine bl_trans ?_ (by assumption))
theorem xsides_any (lx ly hx hy : Nat) (w : World) : Calls Try.prog 55 #[.agg #[.float .f64 lx, .float .f64 ly, .float .f64 hx, .float .f64 hy]] w fun e w' => ∃ x y, SubR hx hy lx ly x y ∧ e = .returned (.agg #[.float .f64 x, .float .f64 y]) ∧ Bel w w' := by
  go_enter Try.func55, Try.ntmps55
  go_wp2_with (first | (go_at_call 51; refine (vSub_any _ _ _ _ _).mono ?_; rintro e w' ⟨x, y, hS, rfl, hb⟩; have B := hb; obtain ⟨hc, hf⟩ := bcell B; have hz := B.size; (try simp at hz)))
  refine bodyPost_ret (v := .agg #[.float .f64 _, .float .f64 _]) (by simp [hc, results, Try.results55, go_sem] <;> (first | exact ⟨rfl, rfl⟩ | rfl)) rfl ⟨_, _, hS, rfl, ?_⟩
  repeat (first | exact bl_refl _ | assumption | apply bl_drewN | apply bl_drew | apply bl_alloc | refine bl_set ?_ (by simp <;> omega) | refine bl_trans ?_ (by assumption))

theorem xSize_any (lx ly hx hy : Nat) (w : World) : Calls Try.prog 28 #[.agg #[.float .f64 lx, .float .f64 ly, .float .f64 hx, .float .f64 hy]] w fun e w' => ∃ r, SizeR lx ly hx hy r ∧ e = .returned (.float .f64 r) ∧ Bel w w' := by
  have q1 := run_add Try.prog
  have q2 := run_sub Try.prog
  have q3 := run_mul Try.prog
  have q4 := run_quo Try.prog
  go_enter Try.func28, Try.ntmps28
  go_wp2_with (first | (go_at_call 55; refine (xsides_any _ _ _ _ _).mono ?_; rintro e w' ⟨x, y, hS, rfl, hb⟩; have B := hb; obtain ⟨hc, hf⟩ := bcell B; have hz := B.size; (try simp at hz)))
  go_ret
  refine ⟨_, ⟨_, _, hS, fv_res _ _ _ _ _⟩, rfl, ?_⟩
  repeat (first | exact bl_refl _ | assumption | apply bl_drewN | apply bl_drew | apply bl_alloc | refine bl_set ?_ (by simp <;> omega) | refine bl_trans ?_ (by assumption))
theorem rSize_any (lx ly hx hy : Nat) (w : World) : Calls Try.prog 29 #[.agg #[.float .f64 lx, .float .f64 ly, .float .f64 hx, .float .f64 hy]] w fun e w' => ∃ r, SizeR lx ly hx hy r ∧ e = .returned (.float .f64 r) ∧ Bel w w' := by
  have q1 := run_add Try.prog
  have q2 := run_sub Try.prog
  have q3 := run_mul Try.prog
  have q4 := run_quo Try.prog
  go_enter Try.func29, Try.ntmps29
  go_wp2
  go_ret
  refine ⟨_, ⟨_, _, ⟨fv_res _ _ _ _ _, fv_res _ _ _ _ _⟩, fv_res _ _ _ _ _⟩, rfl, ?_⟩
  repeat (first | exact bl_refl _ | assumption | apply bl_drewN | apply bl_drew | apply bl_alloc | refine bl_set ?_ (by simp <;> omega) | refine bl_trans ?_ (by assumption))

theorem xArea_any (lx ly hx hy : Nat) (w : World) : Calls Try.prog 30 #[.agg #[.float .f64 lx, .float .f64 ly, .float .f64 hx, .float .f64 hy]] w fun e w' => ∃ r, AreaR lx ly hx hy r ∧ e = .returned (.float .f64 r) ∧ Bel w w' := by
  have q1 := run_add Try.prog
  have q2 := run_sub Try.prog
  have q3 := run_mul Try.prog
  have q4 := run_quo Try.prog
  go_enter Try.func30, Try.ntmps30
  go_wp2_with (first | (go_at_call 55; refine (xsides_any _ _ _ _ _).mono ?_; rintro e w' ⟨x, y, hS, rfl, hb⟩; have B := hb; obtain ⟨hc, hf⟩ := bcell B; have hz := B.size; (try simp at hz)))
  go_ret
  refine ⟨_, ⟨_, _, hS, fv_res _ _ _ _ _⟩, rfl, ?_⟩
  repeat (first | exact bl_refl _ | assumption | apply bl_drewN | apply bl_drew | apply bl_alloc | refine bl_set ?_ (by simp <;> omega) | refine bl_trans ?_ (by assumption))
theorem rArea_any (lx ly hx hy : Nat) (w : World) : Calls Try.prog 31 #[.agg #[.float .f64 lx, .float .f64 ly, .float .f64 hx, .float .f64 hy]] w fun e w' => ∃ r, AreaR lx ly hx hy r ∧ e = .returned (.float .f64 r) ∧ Bel w w' := by
  have q1 := run_add Try.prog
  have q2 := run_sub Try.prog
  have q3 := run_mul Try.prog
  have q4 := run_quo Try.prog
  go_enter Try.func31, Try.ntmps31
  go_wp2
  go_ret
  refine ⟨_, ⟨_, _, ⟨fv_res _ _ _ _ _, fv_res _ _ _ _ _⟩, fv_res _ _ _ _ _⟩, rfl, ?_⟩
  repeat (first | exact bl_refl _ | assumption | apply bl_drewN | apply bl_drew | apply bl_alloc | refine bl_set ?_ (by simp <;> omega) | refine bl_trans ?_ (by assumption))

set_option maxHeartbeats 1000000 in
theorem xCheck_any (lx ly hx hy : Nat) (w : World) : Calls Try.prog 12 #[.agg #[.float .f64 lx, .float .f64 ly, .float .f64 hx, .float .f64 hy]] w fun e w' => e = .returned (.int .i64 (chkN (bChk lx ly hx hy))) ∧ Bel w w' := by
  rw [← bChk_eq]
  cases h1 : (finK .f64 lx && finK .f64 ly) <;> cases h2 : (finK .f64 hx && finK .f64 hy) <;> cases h3 : (leK .f64 lx hx && leK .f64 ly hy)
  all_goals
    go_enter Try.func12, Try.ntmps12
    go_wp2_with (first | (go_at_call 37; refine (vFinite_any _ _ _).mono ?_; rintro e w' ⟨rfl, hb⟩; have k0 := keep hb (a := ⟨w.heap.size, 0, none⟩) (v := .float .f64 lx) (by first | assumption | go_keep | exact up_alloc (by go_keep) | exact (cell_own (by simp) _ _ _).1 | exact (cell_own (by simp) _ _ _).2 | exact up_alloc (cell_own (by simp) _ _ _).1 | exact up_alloc (cell_own (by simp) _ _ _).2); have k1 := keep hb (a := ⟨w.heap.size, 1, none⟩) (v := .float .f64 ly) (by first | assumption | go_keep | exact up_alloc (by go_keep) | exact (cell_own (by simp) _ _ _).1 | exact (cell_own (by simp) _ _ _).2 | exact up_alloc (cell_own (by simp) _ _ _).1 | exact up_alloc (cell_own (by simp) _ _ _).2); have k2 := keep hb (a := ⟨w.heap.size, 2, none⟩) (v := .float .f64 hx) (by first | assumption | go_keep | exact up_alloc (by go_keep) | exact (cell_own (by simp) _ _ _).1 | exact (cell_own (by simp) _ _ _).2 | exact up_alloc (cell_own (by simp) _ _ _).1 | exact up_alloc (cell_own (by simp) _ _ _).2); have k3 := keep hb (a := ⟨w.heap.size, 3, none⟩) (v := .float .f64 hy) (by first | assumption | go_keep | exact up_alloc (by go_keep) | exact (cell_own (by simp) _ _ _).1 | exact (cell_own (by simp) _ _ _).2 | exact up_alloc (cell_own (by simp) _ _ _).1 | exact up_alloc (cell_own (by simp) _ _ _).2)) | (go_at_call 48; refine (xatMost_any _ _ _ _ _).mono ?_; rintro e w' ⟨rfl, hb⟩; have k0 := keep hb (a := ⟨w.heap.size, 0, none⟩) (v := .float .f64 lx) (by first | assumption | go_keep | exact up_alloc (by go_keep) | exact (cell_own (by simp) _ _ _).1 | exact (cell_own (by simp) _ _ _).2 | exact up_alloc (cell_own (by simp) _ _ _).1 | exact up_alloc (cell_own (by simp) _ _ _).2); have k1 := keep hb (a := ⟨w.heap.size, 1, none⟩) (v := .float .f64 ly) (by first | assumption | go_keep | exact up_alloc (by go_keep) | exact (cell_own (by simp) _ _ _).1 | exact (cell_own (by simp) _ _ _).2 | exact up_alloc (cell_own (by simp) _ _ _).1 | exact up_alloc (cell_own (by simp) _ _ _).2); have k2 := keep hb (a := ⟨w.heap.size, 2, none⟩) (v := .float .f64 hx) (by first | assumption | go_keep | exact up_alloc (by go_keep) | exact (cell_own (by simp) _ _ _).1 | exact (cell_own (by simp) _ _ _).2 | exact up_alloc (cell_own (by simp) _ _ _).1 | exact up_alloc (cell_own (by simp) _ _ _).2); have k3 := keep hb (a := ⟨w.heap.size, 3, none⟩) (v := .float .f64 hy) (by first | assumption | go_keep | exact up_alloc (by go_keep) | exact (cell_own (by simp) _ _ _).1 | exact (cell_own (by simp) _ _ _).2 | exact up_alloc (cell_own (by simp) _ _ _).1 | exact up_alloc (cell_own (by simp) _ _ _).2)))
    go_ret
    refine ⟨by first | rfl | simp [chkN], ?_⟩
    repeat (first | exact bl_refl _ | assumption | apply bl_drewN | apply bl_drew | apply bl_alloc | refine bl_set ?_ (by simp <;> omega) | refine bl_trans ?_ (by assumption))

set_option maxHeartbeats 1000000 in
theorem xOver_any (alx aly ahx ahy blx bly bhx bhy : Nat) (w : World) : Calls Try.prog 17 #[.agg #[.float .f64 alx, .float .f64 aly, .float .f64 ahx, .float .f64 ahy], .agg #[.float .f64 blx, .float .f64 bly, .float .f64 bhx, .float .f64 bhy]] w fun e w' => e = .returned (.bool (bOver alx aly ahx ahy blx bly bhx bhy)) ∧ Bel w w' := by
  rw [← bOver_eq]
  cases h1 : (leK .f64 alx bhx && leK .f64 aly bhy)
  all_goals
    go_enter Try.func17, Try.ntmps17
    go_wp2_with (first | (go_at_call 48; refine (xatMost_any _ _ _ _ _).mono ?_; rintro e w' ⟨rfl, hb⟩; have ka0 := keep hb (a := ⟨w.heap.size, 0, none⟩) (v := .float .f64 alx) (by first | assumption | go_keep | exact up_alloc (by go_keep) | exact (cell_own (by simp) _ _ _).1 | exact (cell_own (by simp) _ _ _).2 | exact up_alloc (cell_own (by simp) _ _ _).1 | exact up_alloc (cell_own (by simp) _ _ _).2); have ka1 := keep hb (a := ⟨w.heap.size, 1, none⟩) (v := .float .f64 aly) (by first | assumption | go_keep | exact up_alloc (by go_keep) | exact (cell_own (by simp) _ _ _).1 | exact (cell_own (by simp) _ _ _).2 | exact up_alloc (cell_own (by simp) _ _ _).1 | exact up_alloc (cell_own (by simp) _ _ _).2); have ka2 := keep hb (a := ⟨w.heap.size, 2, none⟩) (v := .float .f64 ahx) (by first | assumption | go_keep | exact up_alloc (by go_keep) | exact (cell_own (by simp) _ _ _).1 | exact (cell_own (by simp) _ _ _).2 | exact up_alloc (cell_own (by simp) _ _ _).1 | exact up_alloc (cell_own (by simp) _ _ _).2); have ka3 := keep hb (a := ⟨w.heap.size, 3, none⟩) (v := .float .f64 ahy) (by first | assumption | go_keep | exact up_alloc (by go_keep) | exact (cell_own (by simp) _ _ _).1 | exact (cell_own (by simp) _ _ _).2 | exact up_alloc (cell_own (by simp) _ _ _).1 | exact up_alloc (cell_own (by simp) _ _ _).2); have kb0 := keep hb (a := ⟨w.heap.size + 1, 0, none⟩) (v := .float .f64 blx) (by first | assumption | go_keep | exact up_alloc (by go_keep) | exact (cell_own (by simp) _ _ _).1 | exact (cell_own (by simp) _ _ _).2 | exact up_alloc (cell_own (by simp) _ _ _).1 | exact up_alloc (cell_own (by simp) _ _ _).2); have kb1 := keep hb (a := ⟨w.heap.size + 1, 1, none⟩) (v := .float .f64 bly) (by first | assumption | go_keep | exact up_alloc (by go_keep) | exact (cell_own (by simp) _ _ _).1 | exact (cell_own (by simp) _ _ _).2 | exact up_alloc (cell_own (by simp) _ _ _).1 | exact up_alloc (cell_own (by simp) _ _ _).2); have kb2 := keep hb (a := ⟨w.heap.size + 1, 2, none⟩) (v := .float .f64 bhx) (by first | assumption | go_keep | exact up_alloc (by go_keep) | exact (cell_own (by simp) _ _ _).1 | exact (cell_own (by simp) _ _ _).2 | exact up_alloc (cell_own (by simp) _ _ _).1 | exact up_alloc (cell_own (by simp) _ _ _).2); have kb3 := keep hb (a := ⟨w.heap.size + 1, 3, none⟩) (v := .float .f64 bhy) (by first | assumption | go_keep | exact up_alloc (by go_keep) | exact (cell_own (by simp) _ _ _).1 | exact (cell_own (by simp) _ _ _).2 | exact up_alloc (cell_own (by simp) _ _ _).1 | exact up_alloc (cell_own (by simp) _ _ _).2)))
    go_ret
    refine ⟨by first | rfl | simp [h1], ?_⟩
    repeat (first | exact bl_refl _ | assumption | apply bl_drewN | apply bl_drew | apply bl_alloc | refine bl_set ?_ (by simp <;> omega) | refine bl_trans ?_ (by assumption))

set_option maxHeartbeats 1000000 in
theorem xIn_any (alx aly ahx ahy blx bly bhx bhy : Nat) (w : World) : Calls Try.prog 19 #[.agg #[.float .f64 alx, .float .f64 aly, .float .f64 ahx, .float .f64 ahy], .agg #[.float .f64 blx, .float .f64 bly, .float .f64 bhx, .float .f64 bhy]] w fun e w' => e = .returned (.bool (bIn alx aly ahx ahy blx bly bhx bhy)) ∧ Bel w w' := by
  rw [← bIn_eq]
  cases h1 : (leK .f64 blx alx && leK .f64 bly aly)
  all_goals
    go_enter Try.func19, Try.ntmps19
    go_wp2_with (first | (go_at_call 48; refine (xatMost_any _ _ _ _ _).mono ?_; rintro e w' ⟨rfl, hb⟩; have ka0 := keep hb (a := ⟨w.heap.size, 0, none⟩) (v := .float .f64 alx) (by first | assumption | go_keep | exact up_alloc (by go_keep) | exact (cell_own (by simp) _ _ _).1 | exact (cell_own (by simp) _ _ _).2 | exact up_alloc (cell_own (by simp) _ _ _).1 | exact up_alloc (cell_own (by simp) _ _ _).2); have ka1 := keep hb (a := ⟨w.heap.size, 1, none⟩) (v := .float .f64 aly) (by first | assumption | go_keep | exact up_alloc (by go_keep) | exact (cell_own (by simp) _ _ _).1 | exact (cell_own (by simp) _ _ _).2 | exact up_alloc (cell_own (by simp) _ _ _).1 | exact up_alloc (cell_own (by simp) _ _ _).2); have ka2 := keep hb (a := ⟨w.heap.size, 2, none⟩) (v := .float .f64 ahx) (by first | assumption | go_keep | exact up_alloc (by go_keep) | exact (cell_own (by simp) _ _ _).1 | exact (cell_own (by simp) _ _ _).2 | exact up_alloc (cell_own (by simp) _ _ _).1 | exact up_alloc (cell_own (by simp) _ _ _).2); have ka3 := keep hb (a := ⟨w.heap.size, 3, none⟩) (v := .float .f64 ahy) (by first | assumption | go_keep | exact up_alloc (by go_keep) | exact (cell_own (by simp) _ _ _).1 | exact (cell_own (by simp) _ _ _).2 | exact up_alloc (cell_own (by simp) _ _ _).1 | exact up_alloc (cell_own (by simp) _ _ _).2); have kb0 := keep hb (a := ⟨w.heap.size + 1, 0, none⟩) (v := .float .f64 blx) (by first | assumption | go_keep | exact up_alloc (by go_keep) | exact (cell_own (by simp) _ _ _).1 | exact (cell_own (by simp) _ _ _).2 | exact up_alloc (cell_own (by simp) _ _ _).1 | exact up_alloc (cell_own (by simp) _ _ _).2); have kb1 := keep hb (a := ⟨w.heap.size + 1, 1, none⟩) (v := .float .f64 bly) (by first | assumption | go_keep | exact up_alloc (by go_keep) | exact (cell_own (by simp) _ _ _).1 | exact (cell_own (by simp) _ _ _).2 | exact up_alloc (cell_own (by simp) _ _ _).1 | exact up_alloc (cell_own (by simp) _ _ _).2); have kb2 := keep hb (a := ⟨w.heap.size + 1, 2, none⟩) (v := .float .f64 bhx) (by first | assumption | go_keep | exact up_alloc (by go_keep) | exact (cell_own (by simp) _ _ _).1 | exact (cell_own (by simp) _ _ _).2 | exact up_alloc (cell_own (by simp) _ _ _).1 | exact up_alloc (cell_own (by simp) _ _ _).2); have kb3 := keep hb (a := ⟨w.heap.size + 1, 3, none⟩) (v := .float .f64 bhy) (by first | assumption | go_keep | exact up_alloc (by go_keep) | exact (cell_own (by simp) _ _ _).1 | exact (cell_own (by simp) _ _ _).2 | exact up_alloc (cell_own (by simp) _ _ _).1 | exact up_alloc (cell_own (by simp) _ _ _).2)))
    go_ret
    refine ⟨by first | rfl | simp [h1], ?_⟩
    repeat (first | exact bl_refl _ | assumption | apply bl_drewN | apply bl_drew | apply bl_alloc | refine bl_set ?_ (by simp <;> omega) | refine bl_trans ?_ (by assumption))

set_option maxHeartbeats 1000000 in
theorem xHas_any (lx ly hx hy x y : Nat) (w : World) : Calls Try.prog 21 #[.agg #[.float .f64 lx, .float .f64 ly, .float .f64 hx, .float .f64 hy], .agg #[.float .f64 x, .float .f64 y]] w fun e w' => e = .returned (.bool (bHas lx ly hx hy x y)) ∧ Bel w w' := by
  rw [← bHas_eq]
  cases h1 : (leK .f64 lx x && leK .f64 ly y)
  all_goals
    go_enter Try.func21, Try.ntmps21
    go_wp2_with (first | (go_at_call 48; refine (xatMost_any _ _ _ _ _).mono ?_; rintro e w' ⟨rfl, hb⟩; have ka0 := keep hb (a := ⟨w.heap.size, 0, none⟩) (v := .float .f64 lx) (by first | assumption | go_keep | exact up_alloc (by go_keep) | exact (cell_own (by simp) _ _ _).1 | exact (cell_own (by simp) _ _ _).2 | exact up_alloc (cell_own (by simp) _ _ _).1 | exact up_alloc (cell_own (by simp) _ _ _).2); have ka1 := keep hb (a := ⟨w.heap.size, 1, none⟩) (v := .float .f64 ly) (by first | assumption | go_keep | exact up_alloc (by go_keep) | exact (cell_own (by simp) _ _ _).1 | exact (cell_own (by simp) _ _ _).2 | exact up_alloc (cell_own (by simp) _ _ _).1 | exact up_alloc (cell_own (by simp) _ _ _).2); have ka2 := keep hb (a := ⟨w.heap.size, 2, none⟩) (v := .float .f64 hx) (by first | assumption | go_keep | exact up_alloc (by go_keep) | exact (cell_own (by simp) _ _ _).1 | exact (cell_own (by simp) _ _ _).2 | exact up_alloc (cell_own (by simp) _ _ _).1 | exact up_alloc (cell_own (by simp) _ _ _).2); have ka3 := keep hb (a := ⟨w.heap.size, 3, none⟩) (v := .float .f64 hy) (by first | assumption | go_keep | exact up_alloc (by go_keep) | exact (cell_own (by simp) _ _ _).1 | exact (cell_own (by simp) _ _ _).2 | exact up_alloc (cell_own (by simp) _ _ _).1 | exact up_alloc (cell_own (by simp) _ _ _).2); have kb0 := keep hb (a := ⟨w.heap.size + 1, 0, none⟩) (v := .float .f64 x) (by first | assumption | go_keep | exact up_alloc (by go_keep) | exact (cell_own (by simp) _ _ _).1 | exact (cell_own (by simp) _ _ _).2 | exact up_alloc (cell_own (by simp) _ _ _).1 | exact up_alloc (cell_own (by simp) _ _ _).2); have kb1 := keep hb (a := ⟨w.heap.size + 1, 1, none⟩) (v := .float .f64 y) (by first | assumption | go_keep | exact up_alloc (by go_keep) | exact (cell_own (by simp) _ _ _).1 | exact (cell_own (by simp) _ _ _).2 | exact up_alloc (cell_own (by simp) _ _ _).1 | exact up_alloc (cell_own (by simp) _ _ _).2)))
    go_ret
    refine ⟨by first | rfl | simp [h1], ?_⟩
    repeat (first | exact bl_refl _ | assumption | apply bl_drewN | apply bl_drew | apply bl_alloc | refine bl_set ?_ (by simp <;> omega) | refine bl_trans ?_ (by assumption))
set_option maxHeartbeats 2000000 in
theorem xJoin_any (alx aly ahx ahy blx bly bhx bhy : Nat) (w : World) : Calls Try.prog 15 #[.agg #[.float .f64 alx, .float .f64 aly, .float .f64 ahx, .float .f64 ahy], .agg #[.float .f64 blx, .float .f64 bly, .float .f64 bhx, .float .f64 bhy]] w fun e w' => e = .returned (.agg #[.float .f64 (leastK .f64 alx blx), .float .f64 (leastK .f64 aly bly), .float .f64 (mostK .f64 ahx bhx), .float .f64 (mostK .f64 ahy bhy)]) ∧ Bel w w' := by
  go_enter Try.func15, Try.ntmps15
  go_wp2
  go_region_held3 (fun w1 => w1.cell? ⟨w.heap.size, 0, none⟩ = some (.float .f64 alx) ∧ w1.cell? ⟨w.heap.size, 1, none⟩ = some (.float .f64 aly) ∧ w1.cell? ⟨w.heap.size, 2, none⟩ = some (.float .f64 ahx) ∧ w1.cell? ⟨w.heap.size, 3, none⟩ = some (.float .f64 ahy) ∧ w1.cell? ⟨w.heap.size + 1, 0, none⟩ = some (.float .f64 blx) ∧ w1.cell? ⟨w.heap.size + 1, 1, none⟩ = some (.float .f64 bly) ∧ w1.cell? ⟨w.heap.size + 1, 2, none⟩ = some (.float .f64 bhx) ∧ w1.cell? ⟨w.heap.size + 1, 3, none⟩ = some (.float .f64 bhy)) (first | ((try go_split_ands); refine ⟨?_, ?_, ?_, ?_, ?_, ?_, ?_, ?_⟩ <;> (first | ((repeat' (first | (with_reducible assumption) | (with_reducible refine up_drew ?_) | (with_reducible refine up_drewN ?_) | (with_reducible refine keep hb ?_) | (with_reducible refine up_set2 ?_ ?_) | (with_reducible refine (cell_own ?_ _ _ _).1) | (with_reducible refine (cell_own ?_ _ _ _).2) | (with_reducible refine up_alloc ?_) | omega | (simp; done))); done) | go_keep)))
    (first | (go_at_call 44; refine (xleast_any _ _ _ _ _).mono ?_; rintro e w' ⟨rfl, hb⟩; have B := hb; obtain ⟨hc, hf⟩ := bcell B; have hz := B.size; (try simp at hz)) | (go_at_call 43; refine (xmost_any _ _ _ _ _).mono ?_; rintro e w' ⟨rfl, hb⟩; clear hc hf hz; have B := bl_trans B hb; obtain ⟨hc, hf⟩ := bcell B; have hz := B.size; (try simp at hz)))
  all_goals go_wp2
  refine bodyPost_ret (v := .agg #[.float .f64 (leastK .f64 alx blx), .float .f64 (leastK .f64 aly bly), .float .f64 (mostK .f64 ahx bhx), .float .f64 (mostK .f64 ahy bhy)]) (by simp [hc, results, Try.results15, go_sem] <;> (first | exact ⟨rfl, rfl, rfl, rfl⟩ | exact ⟨rfl, rfl⟩ | rfl)) rfl ⟨rfl, ?_⟩
  repeat (first | exact bl_refl _ | assumption | apply bl_drewN | apply bl_drew | apply bl_alloc | refine bl_set ?_ (by simp <;> omega) | refine bl_trans ?_ (by assumption))
set_option maxHeartbeats 4000000 in
theorem xMeet_any (alx aly ahx ahy blx bly bhx bhy : Nat) (w : World) : Calls Try.prog 10 #[.agg #[.float .f64 alx, .float .f64 aly, .float .f64 ahx, .float .f64 ahy], .agg #[.float .f64 blx, .float .f64 bly, .float .f64 bhx, .float .f64 bhy]] w fun e w' => e = .returned (.tuple #[if bOver alx aly ahx ahy blx bly bhx bhy then .agg #[.float .f64 (mostK .f64 alx blx), .float .f64 (mostK .f64 aly bly), .float .f64 (leastK .f64 ahx bhx), .float .f64 (leastK .f64 ahy bhy)] else .agg #[.float .f64 0, .float .f64 0, .float .f64 0, .float .f64 0], .bool (bOver alx aly ahx ahy blx bly bhx bhy)]) ∧ Bel w w' := by
  cases h1 : bOver alx aly ahx ahy blx bly bhx bhy
  · go_enter Try.func10, Try.ntmps10
    go_wp2_with (first | (go_at_call 17; refine (xOver_any _ _ _ _ _ _ _ _ _ ).mono ?_; rintro e w' ⟨rfl, hb⟩; have B := hb; obtain ⟨hc, hf⟩ := bcell B; have hz := B.size; (try simp at hz)))
    refine bodyPost_ret (v := .tuple #[.agg #[.float .f64 0, .float .f64 0, .float .f64 0, .float .f64 0], .bool false]) (by simp [hc, results, Try.results10, go_sem] <;> (first | exact ⟨⟨rfl, rfl⟩, rfl⟩ | exact ⟨rfl, rfl, rfl, rfl⟩ | exact ⟨rfl, rfl, rfl⟩ | exact ⟨rfl, rfl⟩ | rfl)) rfl ⟨rfl, ?_⟩
    repeat (first | exact bl_refl _ | assumption | apply bl_drewN | apply bl_drew | apply bl_alloc | refine bl_set ?_ (by simp <;> omega) | refine bl_trans ?_ (by assumption))
  · go_enter Try.func10, Try.ntmps10
    go_wp2_with (first | (go_at_call 17; refine (xOver_any _ _ _ _ _ _ _ _ _ ).mono ?_; rintro e w' ⟨rfl, hb0⟩; have B := hb0; have ka0 := keep hb0 (a := ⟨w.heap.size, 0, none⟩) (v := .float .f64 alx) (by first | assumption | go_keep | exact up_alloc (by go_keep) | exact (cell_own (by simp) _ _ _).1 | exact (cell_own (by simp) _ _ _).2 | exact up_alloc (cell_own (by simp) _ _ _).1 | exact up_alloc (cell_own (by simp) _ _ _).2); have ka1 := keep hb0 (a := ⟨w.heap.size, 1, none⟩) (v := .float .f64 aly) (by first | assumption | go_keep | exact up_alloc (by go_keep) | exact (cell_own (by simp) _ _ _).1 | exact (cell_own (by simp) _ _ _).2 | exact up_alloc (cell_own (by simp) _ _ _).1 | exact up_alloc (cell_own (by simp) _ _ _).2); have ka2 := keep hb0 (a := ⟨w.heap.size, 2, none⟩) (v := .float .f64 ahx) (by first | assumption | go_keep | exact up_alloc (by go_keep) | exact (cell_own (by simp) _ _ _).1 | exact (cell_own (by simp) _ _ _).2 | exact up_alloc (cell_own (by simp) _ _ _).1 | exact up_alloc (cell_own (by simp) _ _ _).2); have ka3 := keep hb0 (a := ⟨w.heap.size, 3, none⟩) (v := .float .f64 ahy) (by first | assumption | go_keep | exact up_alloc (by go_keep) | exact (cell_own (by simp) _ _ _).1 | exact (cell_own (by simp) _ _ _).2 | exact up_alloc (cell_own (by simp) _ _ _).1 | exact up_alloc (cell_own (by simp) _ _ _).2); have kb0 := keep hb0 (a := ⟨w.heap.size + 1, 0, none⟩) (v := .float .f64 blx) (by first | assumption | go_keep | exact up_alloc (by go_keep) | exact (cell_own (by simp) _ _ _).1 | exact (cell_own (by simp) _ _ _).2 | exact up_alloc (cell_own (by simp) _ _ _).1 | exact up_alloc (cell_own (by simp) _ _ _).2); have kb1 := keep hb0 (a := ⟨w.heap.size + 1, 1, none⟩) (v := .float .f64 bly) (by first | assumption | go_keep | exact up_alloc (by go_keep) | exact (cell_own (by simp) _ _ _).1 | exact (cell_own (by simp) _ _ _).2 | exact up_alloc (cell_own (by simp) _ _ _).1 | exact up_alloc (cell_own (by simp) _ _ _).2); have kb2 := keep hb0 (a := ⟨w.heap.size + 1, 2, none⟩) (v := .float .f64 bhx) (by first | assumption | go_keep | exact up_alloc (by go_keep) | exact (cell_own (by simp) _ _ _).1 | exact (cell_own (by simp) _ _ _).2 | exact up_alloc (cell_own (by simp) _ _ _).1 | exact up_alloc (cell_own (by simp) _ _ _).2); have kb3 := keep hb0 (a := ⟨w.heap.size + 1, 3, none⟩) (v := .float .f64 bhy) (by first | assumption | go_keep | exact up_alloc (by go_keep) | exact (cell_own (by simp) _ _ _).1 | exact (cell_own (by simp) _ _ _).2 | exact up_alloc (cell_own (by simp) _ _ _).1 | exact up_alloc (cell_own (by simp) _ _ _).2)))
    go_region_held3 (fun w1 => w1.cell? ⟨w.heap.size, 0, none⟩ = some (.float .f64 alx) ∧ w1.cell? ⟨w.heap.size, 1, none⟩ = some (.float .f64 aly) ∧ w1.cell? ⟨w.heap.size, 2, none⟩ = some (.float .f64 ahx) ∧ w1.cell? ⟨w.heap.size, 3, none⟩ = some (.float .f64 ahy) ∧ w1.cell? ⟨w.heap.size + 1, 0, none⟩ = some (.float .f64 blx) ∧ w1.cell? ⟨w.heap.size + 1, 1, none⟩ = some (.float .f64 bly) ∧ w1.cell? ⟨w.heap.size + 1, 2, none⟩ = some (.float .f64 bhx) ∧ w1.cell? ⟨w.heap.size + 1, 3, none⟩ = some (.float .f64 bhy)) (first | ((try go_split_ands); refine ⟨?_, ?_, ?_, ?_, ?_, ?_, ?_, ?_⟩ <;> (first | ((repeat' (first | (with_reducible assumption) | (with_reducible refine up_drew ?_) | (with_reducible refine up_drewN ?_) | (with_reducible refine keep hb ?_) | (with_reducible refine up_set2 ?_ ?_) | (with_reducible refine (cell_own ?_ _ _ _).1) | (with_reducible refine (cell_own ?_ _ _ _).2) | (with_reducible refine up_alloc ?_) | omega | (simp; done))); done) | go_keep)))
      (first | (go_at_call 43; refine (xmost_any _ _ _ _ _).mono ?_; rintro e w' ⟨rfl, hb⟩; have B := bl_trans (a := (((w.alloc _).alloc _).alloc _)) (by first | exact B | exact bl_drew B | exact bl_drewN B) hb; obtain ⟨hc, hf⟩ := bcell B; have hz := B.size; (try simp at hz)) | (go_at_call 44; refine (xleast_any _ _ _ _ _).mono ?_; rintro e w' ⟨rfl, hb⟩; clear hc hf hz; have B := bl_trans B hb; obtain ⟨hc, hf⟩ := bcell B; have hz := B.size; (try simp at hz)))
    all_goals go_wp2
    refine bodyPost_ret (v := .tuple #[.agg #[.float .f64 (mostK .f64 alx blx), .float .f64 (mostK .f64 aly bly), .float .f64 (leastK .f64 ahx bhx), .float .f64 (leastK .f64 ahy bhy)], .bool true]) (by simp [hc, results, Try.results10, go_sem] <;> (first | exact ⟨⟨rfl, rfl⟩, rfl⟩ | exact ⟨rfl, rfl, rfl, rfl⟩ | exact ⟨rfl, rfl, rfl⟩ | exact ⟨rfl, rfl⟩ | rfl)) rfl ⟨rfl, ?_⟩
    repeat (first | exact bl_refl _ | assumption | apply bl_drewN | apply bl_drew | apply bl_alloc | refine bl_set ?_ (by simp <;> omega) | refine bl_trans ?_ (by assumption))
set_option maxHeartbeats 2000000 in
theorem xGrow_any (lx ly hx hy m : Nat) (w : World) : Calls Try.prog 23 #[.agg #[.float .f64 lx, .float .f64 ly, .float .f64 hx, .float .f64 hy], .float .f64 m] w fun e w' => ∃ a b c d, GrowR lx ly hx hy m a b c d ∧ e = .returned (.agg #[.float .f64 a, .float .f64 b, .float .f64 c, .float .f64 d]) ∧ Bel w w' := by
  go_enter Try.func23, Try.ntmps23
  go_wp2
  go_region_held3 (fun w1 => w1.cell? ⟨w.heap.size, 0, none⟩ = some (.float .f64 lx) ∧ w1.cell? ⟨w.heap.size, 1, none⟩ = some (.float .f64 ly) ∧ w1.cell? ⟨w.heap.size, 2, none⟩ = some (.float .f64 hx) ∧ w1.cell? ⟨w.heap.size, 3, none⟩ = some (.float .f64 hy) ∧ w1.cell? ⟨w.heap.size + 1 + 1, 0, none⟩ = some (.float .f64 m) ∧ w1.cell? ⟨w.heap.size + 1 + 1, 1, none⟩ = some (.float .f64 m)) (first | ((try go_split_ands); refine ⟨?_, ?_, ?_, ?_, ?_, ?_⟩ <;> (first | ((repeat' (first | (with_reducible assumption) | (with_reducible refine up_drew ?_) | (with_reducible refine up_drewN ?_) | (with_reducible refine keep hb ?_) | (with_reducible refine up_set2 ?_ ?_) | (with_reducible refine (cell_own ?_ _ _ _).1) | (with_reducible refine (cell_own ?_ _ _ _).2) | (with_reducible refine up_alloc ?_) | omega | (simp; done))); done) | go_keep)))
    (first | (go_at_call 51; refine (vSub_any _ _ _ _ _).mono ?_; rintro e w' ⟨a, b, hS, rfl, hb⟩; have B := hb; obtain ⟨hc, hf⟩ := bcell B; have hz := B.size; (try simp at hz)) | (go_at_call 52; refine (vAdd_any _ _ _ _ _).mono ?_; rintro e w' ⟨c, d, hA, rfl, hb⟩; clear hc hf hz; have B := bl_trans B hb; obtain ⟨hc, hf⟩ := bcell B; have hz := B.size; (try simp at hz)))
  all_goals go_wp2
  refine bodyPost_ret (v := .agg #[.float .f64 _, .float .f64 _, .float .f64 _, .float .f64 _]) (by simp [hc, results, Try.results23, go_sem] <;> (first | exact ⟨rfl, rfl, rfl, rfl⟩ | exact ⟨rfl, rfl⟩ | rfl)) rfl ⟨_, _, _, _, ⟨hS, hA⟩, rfl, ?_⟩
  repeat (first | exact bl_refl _ | assumption | apply bl_drewN | apply bl_drew | apply bl_alloc | refine bl_set ?_ (by simp <;> omega) | refine bl_trans ?_ (by assumption))
theorem xstretch_any (low high way : Nat) (w : World) : Calls Try.prog 53 #[.float .f64 low, .float .f64 high, .float .f64 way] w fun e w' => ∃ l h n, StR low high way l h ∧ e = .returned (.tuple #[.float .f64 l, .float .f64 h]) ∧ w' = w.drewN n := by
  have q1 := run_add Try.prog
  have q2 := run_sub Try.prog
  have q3 := run_mul Try.prog
  have q4 := run_quo Try.prog
  have c1 := cmp_lt .f64
  cases h1 : ltK .f64 way 0
  all_goals
    go_enter Try.func53, Try.ntmps53
    go_wp2
    refine bodyPost_ret (v := .tuple #[.float .f64 _, .float .f64 _]) (by simp [results, Try.results53, go_sem] <;> (first | exact ⟨⟨rfl, rfl⟩, rfl⟩ | exact ⟨rfl, rfl, rfl, rfl⟩ | exact ⟨rfl, rfl, rfl⟩ | exact ⟨rfl, rfl⟩ | rfl)) rfl ⟨_, _, _, by unfold StR; rw [h1]; first | exact ⟨rfl, fv_res _ _ _ _ _⟩ | exact ⟨fv_res _ _ _ _ _, rfl⟩, rfl, rfl⟩
set_option maxHeartbeats 1000000 in
theorem xMoved_any (lx ly hx hy wx wy : Nat) (w : World) : Calls Try.prog 25 #[.agg #[.float .f64 lx, .float .f64 ly, .float .f64 hx, .float .f64 hy], .agg #[.float .f64 wx, .float .f64 wy]] w fun e w' => ∃ a b c d, MovR lx ly hx hy wx wy a b c d ∧ e = .returned (.agg #[.float .f64 a, .float .f64 b, .float .f64 c, .float .f64 d]) ∧ Bel w w' := by
  go_enter Try.func25, Try.ntmps25
  go_wp2_with (first | (go_at_call 53; have z := hMk; clear z; refine (xstretch_any _ _ _ _).mono ?_; rintro e w' ⟨l2, h2, n2, hS2, rfl, rfl⟩) | (go_at_call 53; refine (xstretch_any _ _ _ _).mono ?_; rintro e w' ⟨l, h, n1, hS, rfl, rfl⟩; have hMk := hide True.intro))
  refine bodyPost_ret (v := .agg #[.float .f64 _, .float .f64 _, .float .f64 _, .float .f64 _]) (by simp [results, Try.results25, go_sem] <;> (first | exact ⟨rfl, rfl, rfl, rfl⟩ | exact ⟨rfl, rfl⟩ | rfl)) rfl ⟨_, _, _, _, ⟨hS, hS2⟩, rfl, ?_⟩
  repeat (first | exact bl_refl _ | assumption | apply bl_drewN | apply bl_drew | apply bl_alloc | refine bl_set ?_ (by simp <;> omega) | refine bl_trans ?_ (by assumption))

set_option maxHeartbeats 4000000 in
theorem xcut_any (s t low high frm way : Nat) (w : World) : Calls Try.prog 56 #[.agg #[.float .f64 s, .float .f64 t], .float .f64 low, .float .f64 high, .float .f64 frm, .float .f64 way] w fun e w' => ∃ s' t' b, AxR low high frm way s t s' t' b ∧ e = .returned (.tuple #[.agg #[.float .f64 s', .float .f64 t'], .bool b]) ∧ Bel w w' := by
  have q1 := run_add Try.prog
  have q2 := run_sub Try.prog
  have q3 := run_mul Try.prog
  have q4 := run_quo Try.prog
  have c1 := cmp_lt .f64
  have c2 := cmp_gt .f64
  have c3 := cmp_le .f64
  have c4 := cmp_eq .f64
  have c5 := cmp_le1 .f64
  have c6 := cmp_le2 .f64
  by_cases hz : sgK .f64 way = 0
  · cases h1 : leK .f64 low frm
    all_goals
      go_enter Try.func56, Try.ntmps56
      go_wp2_with (first | (go_at_call 72; refine (sign_6 _ _).mono ?_; rintro e w' ⟨rfl, rfl⟩))
      refine bodyPost_ret (v := .tuple #[.agg #[.float .f64 s, .float .f64 t], .bool _]) (by simp [results, Try.results56, go_sem] <;> (first | exact ⟨⟨rfl, rfl⟩, rfl⟩ | exact ⟨rfl, rfl, rfl, rfl⟩ | exact ⟨rfl, rfl, rfl⟩ | exact ⟨rfl, rfl⟩ | rfl)) rfl ⟨_, _, _, ax_zero hz, by rw [h1]; rfl, ?_⟩
      repeat (first | exact bl_refl _ | assumption | apply bl_drewN | apply bl_drew | apply bl_alloc | refine bl_set ?_ (by simp <;> omega) | refine bl_trans ?_ (by assumption))
  · go_enter Try.func56, Try.ntmps56
    go_wp2_with (first | (go_at_call 72; refine (sign_6 _ _).mono ?_; rintro e w' ⟨rfl, rfl⟩))
    all_goals
      generalize hd1 : fv BinOp.sub FloatKind.f64 low frm _ = d1 at *
      have r1 : resK .sub .f64 low frm d1 := by rw [← hd1]; exact fv_res _ _ _ _ _
      clear hd1
      generalize hd2 : fv BinOp.sub FloatKind.f64 high frm _ = d2 at *
      have r2 : resK .sub .f64 high frm d2 := by rw [← hd2]; exact fv_res _ _ _ _ _
      clear hd2
      generalize hp : fv BinOp.quo FloatKind.f64 d1 way _ = p at *
      have r3 : resK .quo .f64 d1 way p := by rw [← hp]; exact fv_res _ _ _ _ _
      clear hp
      generalize hq : fv BinOp.quo FloatKind.f64 d2 way _ = q at *
      have r4 : resK .quo .f64 d2 way q := by rw [← hq]; exact fv_res _ _ _ _ _
      clear hq
    all_goals first | (exact (no_way (by assumption) (by assumption)).elim) | (have hn := le_not' (by assumption); refine bodyPost_ret (v := .tuple #[.agg #[.float .f64 0, .float .f64 0], .bool false]) (by simp [results, Try.results56, go_sem] <;> (first | exact ⟨⟨rfl, rfl⟩, rfl⟩ | exact ⟨rfl, rfl, rfl, rfl⟩ | exact ⟨rfl, rfl, rfl⟩ | exact ⟨rfl, rfl⟩ | rfl)) rfl ⟨_, _, _, ax_nan hz r1 r3 r2 r4 (nan_le hn (by assumption)), rfl, (by repeat (first | exact bl_refl _ | assumption | apply bl_drewN | apply bl_drew | apply bl_alloc | refine bl_set ?_ (by simp <;> omega) | refine bl_trans ?_ (by assumption)))⟩) | go_region
    all_goals go_wp2
    all_goals
      refine bodyPost_ret (v := .tuple #[.agg #[.float .f64 _, .float .f64 _], .bool _]) (by simp [results, Try.results56, go_sem] <;> (first | exact ⟨⟨rfl, rfl⟩, rfl⟩ | exact ⟨rfl, rfl, rfl, rfl⟩ | exact ⟨rfl, rfl, rfl⟩ | exact ⟨rfl, rfl⟩ | rfl)) rfl ⟨_, _, _, by first | exact ax_gt hz r1 r3 r2 r4 (by assumption) (by first | exact cutS_t (by assumption) | exact cutS_g (by assumption)) (by first | exact cutT_t (by assumption) | exact cutT_g (by assumption)) (by first | rfl | exact (le_not (by assumption)).symm | exact (lt_le (by assumption)).symm) | exact ax_le hz r1 r3 r2 r4 (by assumption) (le_not (by assumption)) (by first | exact cutS_t (by assumption) | exact cutS_g (by assumption)) (by first | exact cutT_t (by assumption) | exact cutT_g (by assumption)) (by first | rfl | exact (le_not (by assumption)).symm | exact (lt_le (by assumption)).symm), rfl, ?_⟩
      repeat (first | exact bl_refl _ | assumption | apply bl_drewN | apply bl_drew | apply bl_alloc | refine bl_set ?_ (by simp <;> omega) | refine bl_trans ?_ (by assumption))

set_option maxHeartbeats 4000000 in
theorem xRay_any (lx ly hx hy fx fy wx wy : Nat) (w : World) : Calls Try.prog 35 #[.agg #[.float .f64 lx, .float .f64 ly, .float .f64 hx, .float .f64 hy], .agg #[.float .f64 fx, .float .f64 fy], .agg #[.float .f64 wx, .float .f64 wy]] w fun e w' => ∃ r b, RayR lx ly hx hy fx fy wx wy r b ∧ e = .returned (.tuple #[.float .f64 r, .bool b]) ∧ Bel w w' := by
  have al := World.cell?_alloc_some
  go_enter Try.func35, Try.ntmps35
  go_wp2_with (first | (go_at_call 56; have z := hMk; clear z; refine (xcut_any _ _ _ _ _ _ _).mono ?_; rintro e w' ⟨s2, t2, b2, hA2, rfl, hb2⟩; cases b2) | (go_at_call 56; refine (xcut_any _ _ _ _ _ _ _).mono ?_; rintro e w' ⟨s1, t1, b1, hA1, rfl, hb⟩; have B := hb; obtain ⟨hc, hf⟩ := bcell B; have hz := B.size; skip; have ka0 := keep hb (a := ⟨w.heap.size, 0, none⟩) (v := .float .f64 lx) (by first | assumption | go_keep | exact up_alloc (by go_keep) | exact (cell_own (by simp) _ _ _).1 | exact (cell_own (by simp) _ _ _).2 | exact up_alloc (cell_own (by simp) _ _ _).1 | exact up_alloc (cell_own (by simp) _ _ _).2); have ka1 := keep hb (a := ⟨w.heap.size, 1, none⟩) (v := .float .f64 ly) (by first | assumption | go_keep | exact up_alloc (by go_keep) | exact (cell_own (by simp) _ _ _).1 | exact (cell_own (by simp) _ _ _).2 | exact up_alloc (cell_own (by simp) _ _ _).1 | exact up_alloc (cell_own (by simp) _ _ _).2); have ka2 := keep hb (a := ⟨w.heap.size, 2, none⟩) (v := .float .f64 hx) (by first | assumption | go_keep | exact up_alloc (by go_keep) | exact (cell_own (by simp) _ _ _).1 | exact (cell_own (by simp) _ _ _).2 | exact up_alloc (cell_own (by simp) _ _ _).1 | exact up_alloc (cell_own (by simp) _ _ _).2); have ka3 := keep hb (a := ⟨w.heap.size, 3, none⟩) (v := .float .f64 hy) (by first | assumption | go_keep | exact up_alloc (by go_keep) | exact (cell_own (by simp) _ _ _).1 | exact (cell_own (by simp) _ _ _).2 | exact up_alloc (cell_own (by simp) _ _ _).1 | exact up_alloc (cell_own (by simp) _ _ _).2); have kb0 := keep hb (a := ⟨w.heap.size + 1, 0, none⟩) (v := .float .f64 fx) (by first | assumption | go_keep | exact up_alloc (by go_keep) | exact (cell_own (by simp) _ _ _).1 | exact (cell_own (by simp) _ _ _).2 | exact up_alloc (cell_own (by simp) _ _ _).1 | exact up_alloc (cell_own (by simp) _ _ _).2); have kb1 := keep hb (a := ⟨w.heap.size + 1, 1, none⟩) (v := .float .f64 fy) (by first | assumption | go_keep | exact up_alloc (by go_keep) | exact (cell_own (by simp) _ _ _).1 | exact (cell_own (by simp) _ _ _).2 | exact up_alloc (cell_own (by simp) _ _ _).1 | exact up_alloc (cell_own (by simp) _ _ _).2); have kc0 := keep hb (a := ⟨w.heap.size + 1 + 1, 0, none⟩) (v := .float .f64 wx) (by first | assumption | go_keep | exact up_alloc (by go_keep) | exact (cell_own (by simp) _ _ _).1 | exact (cell_own (by simp) _ _ _).2 | exact up_alloc (cell_own (by simp) _ _ _).1 | exact up_alloc (cell_own (by simp) _ _ _).2); have kc1 := keep hb (a := ⟨w.heap.size + 1 + 1, 1, none⟩) (v := .float .f64 wy) (by first | assumption | go_keep | exact up_alloc (by go_keep) | exact (cell_own (by simp) _ _ _).1 | exact (cell_own (by simp) _ _ _).2 | exact up_alloc (cell_own (by simp) _ _ _).1 | exact up_alloc (cell_own (by simp) _ _ _).2); have hMk := hide True.intro; cases b1))
  all_goals
    refine bodyPost_ret (v := .tuple #[.float .f64 _, .bool _]) (by simp [results, Try.results35, go_sem] <;> (first | exact ⟨⟨rfl, rfl⟩, rfl⟩ | exact ⟨rfl, rfl, rfl, rfl⟩ | exact ⟨rfl, rfl, rfl⟩ | exact ⟨rfl, rfl⟩ | rfl)) rfl ?_
    first | (refine ⟨_, _, ray_no hA1, rfl, ?_⟩; (repeat (first | exact bl_refl _ | assumption | apply bl_drewN | apply bl_drew | apply bl_alloc | refine bl_set ?_ (by simp <;> omega) | refine bl_trans ?_ (by assumption))); done) | (refine ⟨_, _, ray_half hA1 hA2, rfl, ?_⟩; (repeat (first | exact bl_refl _ | assumption | apply bl_drewN | apply bl_drew | apply bl_alloc | refine bl_set ?_ (by simp <;> omega) | refine bl_trans ?_ (by assumption))); done) | (refine ⟨_, _, ray_yes hA1 hA2, rfl, ?_⟩; (repeat (first | exact bl_refl _ | assumption | apply bl_drewN | apply bl_drew | apply bl_alloc | refine bl_set ?_ (by simp <;> omega) | refine bl_trans ?_ (by assumption))); done)

end Go.Proofs.Ytdpbkfdccoogkaa
