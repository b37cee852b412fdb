/-
  What each function of package box answers, and what the reference of its chapter answers: one contract a function, for every float: the answer stands in the relation of its formula to what was given; of the memory that was there nothing has turned.
-/
import Derived.Test.YtmgoancijepeoaaVec
import Derived.Test.YtmgoancijepeoaaBox
import Derived.Test.YtmgoancijepeoaaPa
import Derived.Below
import Derived.WalkKit
import Derived.WalkLawsBesides
import Derived.WalkSpells
import Derived.ProofKit
import Derived.OpenShut
import Derived.Deep.RegionHeld3
namespace Go.Proofs.Ytmgoancijepeoaa
open Go.ChangeShapes Go.WideShapes Go.ChangeAt Go.RowKit
set_option linter.unusedVariables false
set_option linter.unusedSimpArgs false

set_option maxHeartbeats 400000 in
theorem xleast_any (ax ay bx b_y : Nat) (w : World) : Calls Try.prog 96 #[.agg #[.float .f64 ax, .float .f64 ay], .agg #[.float .f64 bx, .float .f64 b_y]] w fun e w' => e = .returned (.agg #[.float .f64 (leastK .f64 ax bx), .float .f64 (leastK .f64 ay b_y)]) ∧ Bel w w' := by
  go_enter Try.func96, Try.ntmps96
  go_wp2
  go_region_held3 (fun w1 => w1.cell? ⟨w.heap.size, 0, none⟩ = some (.float .f64 ax) ∧ w1.cell? ⟨w.heap.size, 1, none⟩ = some (.float .f64 ay) ∧ w1.cell? ⟨w.heap.size + 1, 0, none⟩ = some (.float .f64 bx) ∧ w1.cell? ⟨w.heap.size + 1, 1, none⟩ = some (.float .f64 b_y)) (first | ((try go_split_ands); refine ⟨?_, ?_, ?_, ?_⟩ <;> (first | ((repeat' (first | (with_reducible assumption) | (with_reducible refine up_drew ?_) | (with_reducible refine up_drewN ?_) | (with_reducible refine keep hb ?_) | (with_reducible refine up_set2 ?_ ?_) | (with_reducible refine (cell_own ?_ _ _ _).1) | (with_reducible refine (cell_own ?_ _ _ _).2) | (with_reducible refine up_alloc ?_) | omega | (simp; done))); done) | go_keep)))
    (first | (go_at_call 116; refine (least_6 _ _ _).mono ?_; rintro e w' ⟨rfl, rfl⟩))
  all_goals go_wp2
  refine bodyPost_ret (v := .agg #[.float .f64 (leastK .f64 ax bx), .float .f64 (leastK .f64 ay b_y)]) (by simp [results, Try.results96, go_sem] <;> (first | exact ⟨rfl, rfl⟩ | rfl)) rfl ⟨rfl, ?_⟩
  repeat (first | exact bl_refl _ | assumption | apply bl_drewN | apply bl_drew | apply bl_alloc | refine bl_set ?_ (by simp <;> omega) | refine bl_trans ?_ (by assumption))

set_option maxHeartbeats 400000 in
theorem xmost_any (ax ay bx b_y : Nat) (w : World) : Calls Try.prog 95 #[.agg #[.float .f64 ax, .float .f64 ay], .agg #[.float .f64 bx, .float .f64 b_y]] w fun e w' => e = .returned (.agg #[.float .f64 (mostK .f64 ax bx), .float .f64 (mostK .f64 ay b_y)]) ∧ Bel w w' := by
  go_enter Try.func95, Try.ntmps95
  go_wp2
  go_region_held3 (fun w1 => w1.cell? ⟨w.heap.size, 0, none⟩ = some (.float .f64 ax) ∧ w1.cell? ⟨w.heap.size, 1, none⟩ = some (.float .f64 ay) ∧ w1.cell? ⟨w.heap.size + 1, 0, none⟩ = some (.float .f64 bx) ∧ w1.cell? ⟨w.heap.size + 1, 1, none⟩ = some (.float .f64 b_y)) (first | ((try go_split_ands); refine ⟨?_, ?_, ?_, ?_⟩ <;> (first | ((repeat' (first | (with_reducible assumption) | (with_reducible refine up_drew ?_) | (with_reducible refine up_drewN ?_) | (with_reducible refine keep hb ?_) | (with_reducible refine up_set2 ?_ ?_) | (with_reducible refine (cell_own ?_ _ _ _).1) | (with_reducible refine (cell_own ?_ _ _ _).2) | (with_reducible refine up_alloc ?_) | omega | (simp; done))); done) | go_keep)))
    (first | (go_at_call 115; refine (most_6 _ _ _).mono ?_; rintro e w' ⟨rfl, rfl⟩))
  all_goals go_wp2
  refine bodyPost_ret (v := .agg #[.float .f64 (mostK .f64 ax bx), .float .f64 (mostK .f64 ay b_y)]) (by simp [results, Try.results95, go_sem] <;> (first | exact ⟨rfl, rfl⟩ | rfl)) rfl ⟨rfl, ?_⟩
  repeat (first | exact bl_refl _ | assumption | apply bl_drewN | apply bl_drew | apply bl_alloc | refine bl_set ?_ (by simp <;> omega) | refine bl_trans ?_ (by assumption))

theorem xatMost_any (ax ay bx b_y : Nat) (w : World) : Calls Try.prog 74 #[.agg #[.float .f64 ax, .float .f64 ay], .agg #[.float .f64 bx, .float .f64 b_y]] w fun e w' => e = .returned (.bool (leK .f64 ax bx && leK .f64 ay b_y)) ∧ Bel w w' := by
  have c1 := cmp_le .f64
  cases h1 : leK .f64 ax bx
  all_goals
    go_enter Try.func74, Try.ntmps74
    go_wp2
    go_ret
    refine ⟨by simp [h1], ?_⟩
    repeat (first | exact bl_refl _ | assumption | apply bl_drewN | apply bl_drew | apply bl_alloc | refine bl_set ?_ (by simp <;> omega) | refine bl_trans ?_ (by assumption))
theorem xsides_any (lx ly hx hy : Nat) (w : World) : Calls Try.prog 102 #[.agg #[.float .f64 lx, .float .f64 ly, .float .f64 hx, .float .f64 hy]] w fun e w' => ∃ x y, SubR hx hy lx ly x y ∧ e = .returned (.agg #[.float .f64 x, .float .f64 y]) ∧ Bel w w' := by
  go_enter Try.func102, Try.ntmps102
  go_wp2_with (first | (go_at_call 77; refine (vSub_any _ _ _ _ _).mono ?_; rintro e w' ⟨x, y, hS, rfl, hb⟩; have B := hb; obtain ⟨hc, hf⟩ := bcell B; have hz := B.size; (try simp at hz)))
  refine bodyPost_ret (v := .agg #[.float .f64 _, .float .f64 _]) (by simp [hc, results, Try.results102, go_sem] <;> (first | exact ⟨rfl, rfl⟩ | rfl)) rfl ⟨_, _, hS, rfl, ?_⟩
  repeat (first | exact bl_refl _ | assumption | apply bl_drewN | apply bl_drew | apply bl_alloc | refine bl_set ?_ (by simp <;> omega) | refine bl_trans ?_ (by assumption))

theorem xSize_any (lx ly hx hy : Nat) (w : World) : Calls Try.prog 70 #[.agg #[.float .f64 lx, .float .f64 ly, .float .f64 hx, .float .f64 hy]] w fun e w' => ∃ r, SizeR lx ly hx hy r ∧ e = .returned (.float .f64 r) ∧ Bel w w' := by
  have q1 := run_add Try.prog
  have q2 := run_sub Try.prog
  have q3 := run_mul Try.prog
  have q4 := run_quo Try.prog
  go_enter Try.func70, Try.ntmps70
  go_wp2_with (first | (go_at_call 102; refine (xsides_any _ _ _ _ _).mono ?_; rintro e w' ⟨x, y, hS, rfl, hb⟩; have B := hb; obtain ⟨hc, hf⟩ := bcell B; have hz := B.size; (try simp at hz)))
  go_ret
  refine ⟨_, ⟨_, _, hS, fv_res _ _ _ _ _⟩, rfl, ?_⟩
  repeat (first | exact bl_refl _ | assumption | apply bl_drewN | apply bl_drew | apply bl_alloc | refine bl_set ?_ (by simp <;> omega) | refine bl_trans ?_ (by assumption))
set_option maxHeartbeats 1000000 in
theorem xCheck_any (lx ly hx hy : Nat) (w : World) : Calls Try.prog 33 #[.agg #[.float .f64 lx, .float .f64 ly, .float .f64 hx, .float .f64 hy]] w fun e w' => e = .returned (.int .i64 (chkN (bChk lx ly hx hy))) ∧ Bel w w' := by
  rw [← bChk_eq]
  cases h1 : (finK .f64 lx && finK .f64 ly) <;> cases h2 : (finK .f64 hx && finK .f64 hy) <;> cases h3 : (leK .f64 lx hx && leK .f64 ly hy)
  all_goals
    go_enter Try.func33, Try.ntmps33
    go_wp2_with (first | (go_at_call 73; refine (vFinite_any _ _ _).mono ?_; rintro e w' ⟨rfl, hb⟩; have k0 := keep hb (a := ⟨w.heap.size, 0, none⟩) (v := .float .f64 lx) (by first | assumption | go_keep | exact up_alloc (by go_keep) | exact (cell_own (by simp) _ _ _).1 | exact (cell_own (by simp) _ _ _).2 | exact up_alloc (cell_own (by simp) _ _ _).1 | exact up_alloc (cell_own (by simp) _ _ _).2); have k1 := keep hb (a := ⟨w.heap.size, 1, none⟩) (v := .float .f64 ly) (by first | assumption | go_keep | exact up_alloc (by go_keep) | exact (cell_own (by simp) _ _ _).1 | exact (cell_own (by simp) _ _ _).2 | exact up_alloc (cell_own (by simp) _ _ _).1 | exact up_alloc (cell_own (by simp) _ _ _).2); have k2 := keep hb (a := ⟨w.heap.size, 2, none⟩) (v := .float .f64 hx) (by first | assumption | go_keep | exact up_alloc (by go_keep) | exact (cell_own (by simp) _ _ _).1 | exact (cell_own (by simp) _ _ _).2 | exact up_alloc (cell_own (by simp) _ _ _).1 | exact up_alloc (cell_own (by simp) _ _ _).2); have k3 := keep hb (a := ⟨w.heap.size, 3, none⟩) (v := .float .f64 hy) (by first | assumption | go_keep | exact up_alloc (by go_keep) | exact (cell_own (by simp) _ _ _).1 | exact (cell_own (by simp) _ _ _).2 | exact up_alloc (cell_own (by simp) _ _ _).1 | exact up_alloc (cell_own (by simp) _ _ _).2)) | (go_at_call 74; refine (xatMost_any _ _ _ _ _).mono ?_; rintro e w' ⟨rfl, hb⟩; have k0 := keep hb (a := ⟨w.heap.size, 0, none⟩) (v := .float .f64 lx) (by first | assumption | go_keep | exact up_alloc (by go_keep) | exact (cell_own (by simp) _ _ _).1 | exact (cell_own (by simp) _ _ _).2 | exact up_alloc (cell_own (by simp) _ _ _).1 | exact up_alloc (cell_own (by simp) _ _ _).2); have k1 := keep hb (a := ⟨w.heap.size, 1, none⟩) (v := .float .f64 ly) (by first | assumption | go_keep | exact up_alloc (by go_keep) | exact (cell_own (by simp) _ _ _).1 | exact (cell_own (by simp) _ _ _).2 | exact up_alloc (cell_own (by simp) _ _ _).1 | exact up_alloc (cell_own (by simp) _ _ _).2); have k2 := keep hb (a := ⟨w.heap.size, 2, none⟩) (v := .float .f64 hx) (by first | assumption | go_keep | exact up_alloc (by go_keep) | exact (cell_own (by simp) _ _ _).1 | exact (cell_own (by simp) _ _ _).2 | exact up_alloc (cell_own (by simp) _ _ _).1 | exact up_alloc (cell_own (by simp) _ _ _).2); have k3 := keep hb (a := ⟨w.heap.size, 3, none⟩) (v := .float .f64 hy) (by first | assumption | go_keep | exact up_alloc (by go_keep) | exact (cell_own (by simp) _ _ _).1 | exact (cell_own (by simp) _ _ _).2 | exact up_alloc (cell_own (by simp) _ _ _).1 | exact up_alloc (cell_own (by simp) _ _ _).2)))
    go_ret
    refine ⟨by first | rfl | simp [chkN], ?_⟩
    repeat (first | exact bl_refl _ | assumption | apply bl_drewN | apply bl_drew | apply bl_alloc | refine bl_set ?_ (by simp <;> omega) | refine bl_trans ?_ (by assumption))

set_option maxHeartbeats 1000000 in
theorem xOver_any (alx aly ahx ahy blx bly bhx bhy : Nat) (w : World) : Calls Try.prog 71 #[.agg #[.float .f64 alx, .float .f64 aly, .float .f64 ahx, .float .f64 ahy], .agg #[.float .f64 blx, .float .f64 bly, .float .f64 bhx, .float .f64 bhy]] w fun e w' => e = .returned (.bool (bOver alx aly ahx ahy blx bly bhx bhy)) ∧ Bel w w' := by
  rw [← bOver_eq]
  cases h1 : (leK .f64 alx bhx && leK .f64 aly bhy)
  all_goals
    go_enter Try.func71, Try.ntmps71
    go_wp2_with (first | (go_at_call 74; refine (xatMost_any _ _ _ _ _).mono ?_; rintro e w' ⟨rfl, hb⟩; have ka0 := keep hb (a := ⟨w.heap.size, 0, none⟩) (v := .float .f64 alx) (by first | assumption | go_keep | exact up_alloc (by go_keep) | exact (cell_own (by simp) _ _ _).1 | exact (cell_own (by simp) _ _ _).2 | exact up_alloc (cell_own (by simp) _ _ _).1 | exact up_alloc (cell_own (by simp) _ _ _).2); have ka1 := keep hb (a := ⟨w.heap.size, 1, none⟩) (v := .float .f64 aly) (by first | assumption | go_keep | exact up_alloc (by go_keep) | exact (cell_own (by simp) _ _ _).1 | exact (cell_own (by simp) _ _ _).2 | exact up_alloc (cell_own (by simp) _ _ _).1 | exact up_alloc (cell_own (by simp) _ _ _).2); have ka2 := keep hb (a := ⟨w.heap.size, 2, none⟩) (v := .float .f64 ahx) (by first | assumption | go_keep | exact up_alloc (by go_keep) | exact (cell_own (by simp) _ _ _).1 | exact (cell_own (by simp) _ _ _).2 | exact up_alloc (cell_own (by simp) _ _ _).1 | exact up_alloc (cell_own (by simp) _ _ _).2); have ka3 := keep hb (a := ⟨w.heap.size, 3, none⟩) (v := .float .f64 ahy) (by first | assumption | go_keep | exact up_alloc (by go_keep) | exact (cell_own (by simp) _ _ _).1 | exact (cell_own (by simp) _ _ _).2 | exact up_alloc (cell_own (by simp) _ _ _).1 | exact up_alloc (cell_own (by simp) _ _ _).2); have kb0 := keep hb (a := ⟨w.heap.size + 1, 0, none⟩) (v := .float .f64 blx) (by first | assumption | go_keep | exact up_alloc (by go_keep) | exact (cell_own (by simp) _ _ _).1 | exact (cell_own (by simp) _ _ _).2 | exact up_alloc (cell_own (by simp) _ _ _).1 | exact up_alloc (cell_own (by simp) _ _ _).2); have kb1 := keep hb (a := ⟨w.heap.size + 1, 1, none⟩) (v := .float .f64 bly) (by first | assumption | go_keep | exact up_alloc (by go_keep) | exact (cell_own (by simp) _ _ _).1 | exact (cell_own (by simp) _ _ _).2 | exact up_alloc (cell_own (by simp) _ _ _).1 | exact up_alloc (cell_own (by simp) _ _ _).2); have kb2 := keep hb (a := ⟨w.heap.size + 1, 2, none⟩) (v := .float .f64 bhx) (by first | assumption | go_keep | exact up_alloc (by go_keep) | exact (cell_own (by simp) _ _ _).1 | exact (cell_own (by simp) _ _ _).2 | exact up_alloc (cell_own (by simp) _ _ _).1 | exact up_alloc (cell_own (by simp) _ _ _).2); have kb3 := keep hb (a := ⟨w.heap.size + 1, 3, none⟩) (v := .float .f64 bhy) (by first | assumption | go_keep | exact up_alloc (by go_keep) | exact (cell_own (by simp) _ _ _).1 | exact (cell_own (by simp) _ _ _).2 | exact up_alloc (cell_own (by simp) _ _ _).1 | exact up_alloc (cell_own (by simp) _ _ _).2)))
    go_ret
    refine ⟨by first | rfl | simp [h1], ?_⟩
    repeat (first | exact bl_refl _ | assumption | apply bl_drewN | apply bl_drew | apply bl_alloc | refine bl_set ?_ (by simp <;> omega) | refine bl_trans ?_ (by assumption))

set_option maxHeartbeats 1000000 in
theorem xIn_any (alx aly ahx ahy blx bly bhx bhy : Nat) (w : World) : Calls Try.prog 72 #[.agg #[.float .f64 alx, .float .f64 aly, .float .f64 ahx, .float .f64 ahy], .agg #[.float .f64 blx, .float .f64 bly, .float .f64 bhx, .float .f64 bhy]] w fun e w' => e = .returned (.bool (bIn alx aly ahx ahy blx bly bhx bhy)) ∧ Bel w w' := by
  rw [← bIn_eq]
  cases h1 : (leK .f64 blx alx && leK .f64 bly aly)
  all_goals
    go_enter Try.func72, Try.ntmps72
    go_wp2_with (first | (go_at_call 74; refine (xatMost_any _ _ _ _ _).mono ?_; rintro e w' ⟨rfl, hb⟩; have ka0 := keep hb (a := ⟨w.heap.size, 0, none⟩) (v := .float .f64 alx) (by first | assumption | go_keep | exact up_alloc (by go_keep) | exact (cell_own (by simp) _ _ _).1 | exact (cell_own (by simp) _ _ _).2 | exact up_alloc (cell_own (by simp) _ _ _).1 | exact up_alloc (cell_own (by simp) _ _ _).2); have ka1 := keep hb (a := ⟨w.heap.size, 1, none⟩) (v := .float .f64 aly) (by first | assumption | go_keep | exact up_alloc (by go_keep) | exact (cell_own (by simp) _ _ _).1 | exact (cell_own (by simp) _ _ _).2 | exact up_alloc (cell_own (by simp) _ _ _).1 | exact up_alloc (cell_own (by simp) _ _ _).2); have ka2 := keep hb (a := ⟨w.heap.size, 2, none⟩) (v := .float .f64 ahx) (by first | assumption | go_keep | exact up_alloc (by go_keep) | exact (cell_own (by simp) _ _ _).1 | exact (cell_own (by simp) _ _ _).2 | exact up_alloc (cell_own (by simp) _ _ _).1 | exact up_alloc (cell_own (by simp) _ _ _).2); have ka3 := keep hb (a := ⟨w.heap.size, 3, none⟩) (v := .float .f64 ahy) (by first | assumption | go_keep | exact up_alloc (by go_keep) | exact (cell_own (by simp) _ _ _).1 | exact (cell_own (by simp) _ _ _).2 | exact up_alloc (cell_own (by simp) _ _ _).1 | exact up_alloc (cell_own (by simp) _ _ _).2); have kb0 := keep hb (a := ⟨w.heap.size + 1, 0, none⟩) (v := .float .f64 blx) (by first | assumption | go_keep | exact up_alloc (by go_keep) | exact (cell_own (by simp) _ _ _).1 | exact (cell_own (by simp) _ _ _).2 | exact up_alloc (cell_own (by simp) _ _ _).1 | exact up_alloc (cell_own (by simp) _ _ _).2); have kb1 := keep hb (a := ⟨w.heap.size + 1, 1, none⟩) (v := .float .f64 bly) (by first | assumption | go_keep | exact up_alloc (by go_keep) | exact (cell_own (by simp) _ _ _).1 | exact (cell_own (by simp) _ _ _).2 | exact up_alloc (cell_own (by simp) _ _ _).1 | exact up_alloc (cell_own (by simp) _ _ _).2); have kb2 := keep hb (a := ⟨w.heap.size + 1, 2, none⟩) (v := .float .f64 bhx) (by first | assumption | go_keep | exact up_alloc (by go_keep) | exact (cell_own (by simp) _ _ _).1 | exact (cell_own (by simp) _ _ _).2 | exact up_alloc (cell_own (by simp) _ _ _).1 | exact up_alloc (cell_own (by simp) _ _ _).2); have kb3 := keep hb (a := ⟨w.heap.size + 1, 3, none⟩) (v := .float .f64 bhy) (by first | assumption | go_keep | exact up_alloc (by go_keep) | exact (cell_own (by simp) _ _ _).1 | exact (cell_own (by simp) _ _ _).2 | exact up_alloc (cell_own (by simp) _ _ _).1 | exact up_alloc (cell_own (by simp) _ _ _).2)))
    go_ret
    refine ⟨by first | rfl | simp [h1], ?_⟩
    repeat (first | exact bl_refl _ | assumption | apply bl_drewN | apply bl_drew | apply bl_alloc | refine bl_set ?_ (by simp <;> omega) | refine bl_trans ?_ (by assumption))

set_option maxHeartbeats 1000000 in
theorem xHas_any (lx ly hx hy x y : Nat) (w : World) : Calls Try.prog 37 #[.agg #[.float .f64 lx, .float .f64 ly, .float .f64 hx, .float .f64 hy], .agg #[.float .f64 x, .float .f64 y]] w fun e w' => e = .returned (.bool (bHas lx ly hx hy x y)) ∧ Bel w w' := by
  rw [← bHas_eq]
  cases h1 : (leK .f64 lx x && leK .f64 ly y)
  all_goals
    go_enter Try.func37, Try.ntmps37
    go_wp2_with (first | (go_at_call 74; refine (xatMost_any _ _ _ _ _).mono ?_; rintro e w' ⟨rfl, hb⟩; have ka0 := keep hb (a := ⟨w.heap.size, 0, none⟩) (v := .float .f64 lx) (by first | assumption | go_keep | exact up_alloc (by go_keep) | exact (cell_own (by simp) _ _ _).1 | exact (cell_own (by simp) _ _ _).2 | exact up_alloc (cell_own (by simp) _ _ _).1 | exact up_alloc (cell_own (by simp) _ _ _).2); have ka1 := keep hb (a := ⟨w.heap.size, 1, none⟩) (v := .float .f64 ly) (by first | assumption | go_keep | exact up_alloc (by go_keep) | exact (cell_own (by simp) _ _ _).1 | exact (cell_own (by simp) _ _ _).2 | exact up_alloc (cell_own (by simp) _ _ _).1 | exact up_alloc (cell_own (by simp) _ _ _).2); have ka2 := keep hb (a := ⟨w.heap.size, 2, none⟩) (v := .float .f64 hx) (by first | assumption | go_keep | exact up_alloc (by go_keep) | exact (cell_own (by simp) _ _ _).1 | exact (cell_own (by simp) _ _ _).2 | exact up_alloc (cell_own (by simp) _ _ _).1 | exact up_alloc (cell_own (by simp) _ _ _).2); have ka3 := keep hb (a := ⟨w.heap.size, 3, none⟩) (v := .float .f64 hy) (by first | assumption | go_keep | exact up_alloc (by go_keep) | exact (cell_own (by simp) _ _ _).1 | exact (cell_own (by simp) _ _ _).2 | exact up_alloc (cell_own (by simp) _ _ _).1 | exact up_alloc (cell_own (by simp) _ _ _).2); have kb0 := keep hb (a := ⟨w.heap.size + 1, 0, none⟩) (v := .float .f64 x) (by first | assumption | go_keep | exact up_alloc (by go_keep) | exact (cell_own (by simp) _ _ _).1 | exact (cell_own (by simp) _ _ _).2 | exact up_alloc (cell_own (by simp) _ _ _).1 | exact up_alloc (cell_own (by simp) _ _ _).2); have kb1 := keep hb (a := ⟨w.heap.size + 1, 1, none⟩) (v := .float .f64 y) (by first | assumption | go_keep | exact up_alloc (by go_keep) | exact (cell_own (by simp) _ _ _).1 | exact (cell_own (by simp) _ _ _).2 | exact up_alloc (cell_own (by simp) _ _ _).1 | exact up_alloc (cell_own (by simp) _ _ _).2)))
    go_ret
    refine ⟨by first | rfl | simp [h1], ?_⟩
    repeat (first | exact bl_refl _ | assumption | apply bl_drewN | apply bl_drew | apply bl_alloc | refine bl_set ?_ (by simp <;> omega) | refine bl_trans ?_ (by assumption))
set_option maxHeartbeats 2000000 in
theorem xJoin_any (alx aly ahx ahy blx bly bhx bhy : Nat) (w : World) : Calls Try.prog 69 #[.agg #[.float .f64 alx, .float .f64 aly, .float .f64 ahx, .float .f64 ahy], .agg #[.float .f64 blx, .float .f64 bly, .float .f64 bhx, .float .f64 bhy]] w fun e w' => e = .returned (.agg #[.float .f64 (leastK .f64 alx blx), .float .f64 (leastK .f64 aly bly), .float .f64 (mostK .f64 ahx bhx), .float .f64 (mostK .f64 ahy bhy)]) ∧ Bel w w' := by
  go_enter Try.func69, Try.ntmps69
  go_wp2
  go_region_held3 (fun w1 => w1.cell? ⟨w.heap.size, 0, none⟩ = some (.float .f64 alx) ∧ w1.cell? ⟨w.heap.size, 1, none⟩ = some (.float .f64 aly) ∧ w1.cell? ⟨w.heap.size, 2, none⟩ = some (.float .f64 ahx) ∧ w1.cell? ⟨w.heap.size, 3, none⟩ = some (.float .f64 ahy) ∧ w1.cell? ⟨w.heap.size + 1, 0, none⟩ = some (.float .f64 blx) ∧ w1.cell? ⟨w.heap.size + 1, 1, none⟩ = some (.float .f64 bly) ∧ w1.cell? ⟨w.heap.size + 1, 2, none⟩ = some (.float .f64 bhx) ∧ w1.cell? ⟨w.heap.size + 1, 3, none⟩ = some (.float .f64 bhy)) (first | ((try go_split_ands); refine ⟨?_, ?_, ?_, ?_, ?_, ?_, ?_, ?_⟩ <;> (first | ((repeat' (first | (with_reducible assumption) | (with_reducible refine up_drew ?_) | (with_reducible refine up_drewN ?_) | (with_reducible refine keep hb ?_) | (with_reducible refine up_set2 ?_ ?_) | (with_reducible refine (cell_own ?_ _ _ _).1) | (with_reducible refine (cell_own ?_ _ _ _).2) | (with_reducible refine up_alloc ?_) | omega | (simp; done))); done) | go_keep)))
    (first | (go_at_call 96; refine (xleast_any _ _ _ _ _).mono ?_; rintro e w' ⟨rfl, hb⟩; have B := hb; obtain ⟨hc, hf⟩ := bcell B; have hz := B.size; (try simp at hz)) | (go_at_call 95; refine (xmost_any _ _ _ _ _).mono ?_; rintro e w' ⟨rfl, hb⟩; clear hc hf hz; have B := bl_trans B hb; obtain ⟨hc, hf⟩ := bcell B; have hz := B.size; (try simp at hz)))
  all_goals go_wp2
  refine bodyPost_ret (v := .agg #[.float .f64 (leastK .f64 alx blx), .float .f64 (leastK .f64 aly bly), .float .f64 (mostK .f64 ahx bhx), .float .f64 (mostK .f64 ahy bhy)]) (by simp [hc, results, Try.results69, go_sem] <;> (first | exact ⟨rfl, rfl, rfl, rfl⟩ | exact ⟨rfl, rfl⟩ | rfl)) rfl ⟨rfl, ?_⟩
  repeat (first | exact bl_refl _ | assumption | apply bl_drewN | apply bl_drew | apply bl_alloc | refine bl_set ?_ (by simp <;> omega) | refine bl_trans ?_ (by assumption))
set_option maxHeartbeats 4000000 in
theorem xMeet_any (alx aly ahx ahy blx bly bhx bhy : Nat) (w : World) : Calls Try.prog 67 #[.agg #[.float .f64 alx, .float .f64 aly, .float .f64 ahx, .float .f64 ahy], .agg #[.float .f64 blx, .float .f64 bly, .float .f64 bhx, .float .f64 bhy]] w fun e w' => e = .returned (.tuple #[if bOver alx aly ahx ahy blx bly bhx bhy then .agg #[.float .f64 (mostK .f64 alx blx), .float .f64 (mostK .f64 aly bly), .float .f64 (leastK .f64 ahx bhx), .float .f64 (leastK .f64 ahy bhy)] else .agg #[.float .f64 0, .float .f64 0, .float .f64 0, .float .f64 0], .bool (bOver alx aly ahx ahy blx bly bhx bhy)]) ∧ Bel w w' := by
  cases h1 : bOver alx aly ahx ahy blx bly bhx bhy
  · go_enter Try.func67, Try.ntmps67
    go_wp2_with (first | (go_at_call 71; refine (xOver_any _ _ _ _ _ _ _ _ _ ).mono ?_; rintro e w' ⟨rfl, hb⟩; have B := hb; obtain ⟨hc, hf⟩ := bcell B; have hz := B.size; (try simp at hz)))
    refine bodyPost_ret (v := .tuple #[.agg #[.float .f64 0, .float .f64 0, .float .f64 0, .float .f64 0], .bool false]) (by simp [hc, results, Try.results67, go_sem] <;> (first | exact ⟨⟨rfl, rfl⟩, rfl⟩ | exact ⟨rfl, rfl, rfl, rfl⟩ | exact ⟨rfl, rfl, rfl⟩ | exact ⟨rfl, rfl⟩ | rfl)) rfl ⟨rfl, ?_⟩
    repeat (first | exact bl_refl _ | assumption | apply bl_drewN | apply bl_drew | apply bl_alloc | refine bl_set ?_ (by simp <;> omega) | refine bl_trans ?_ (by assumption))
  · go_enter Try.func67, Try.ntmps67
    go_wp2_with (first | (go_at_call 71; refine (xOver_any _ _ _ _ _ _ _ _ _ ).mono ?_; rintro e w' ⟨rfl, hb0⟩; have B := hb0; have ka0 := keep hb0 (a := ⟨w.heap.size, 0, none⟩) (v := .float .f64 alx) (by first | assumption | go_keep | exact up_alloc (by go_keep) | exact (cell_own (by simp) _ _ _).1 | exact (cell_own (by simp) _ _ _).2 | exact up_alloc (cell_own (by simp) _ _ _).1 | exact up_alloc (cell_own (by simp) _ _ _).2); have ka1 := keep hb0 (a := ⟨w.heap.size, 1, none⟩) (v := .float .f64 aly) (by first | assumption | go_keep | exact up_alloc (by go_keep) | exact (cell_own (by simp) _ _ _).1 | exact (cell_own (by simp) _ _ _).2 | exact up_alloc (cell_own (by simp) _ _ _).1 | exact up_alloc (cell_own (by simp) _ _ _).2); have ka2 := keep hb0 (a := ⟨w.heap.size, 2, none⟩) (v := .float .f64 ahx) (by first | assumption | go_keep | exact up_alloc (by go_keep) | exact (cell_own (by simp) _ _ _).1 | exact (cell_own (by simp) _ _ _).2 | exact up_alloc (cell_own (by simp) _ _ _).1 | exact up_alloc (cell_own (by simp) _ _ _).2); have ka3 := keep hb0 (a := ⟨w.heap.size, 3, none⟩) (v := .float .f64 ahy) (by first | assumption | go_keep | exact up_alloc (by go_keep) | exact (cell_own (by simp) _ _ _).1 | exact (cell_own (by simp) _ _ _).2 | exact up_alloc (cell_own (by simp) _ _ _).1 | exact up_alloc (cell_own (by simp) _ _ _).2); have kb0 := keep hb0 (a := ⟨w.heap.size + 1, 0, none⟩) (v := .float .f64 blx) (by first | assumption | go_keep | exact up_alloc (by go_keep) | exact (cell_own (by simp) _ _ _).1 | exact (cell_own (by simp) _ _ _).2 | exact up_alloc (cell_own (by simp) _ _ _).1 | exact up_alloc (cell_own (by simp) _ _ _).2); have kb1 := keep hb0 (a := ⟨w.heap.size + 1, 1, none⟩) (v := .float .f64 bly) (by first | assumption | go_keep | exact up_alloc (by go_keep) | exact (cell_own (by simp) _ _ _).1 | exact (cell_own (by simp) _ _ _).2 | exact up_alloc (cell_own (by simp) _ _ _).1 | exact up_alloc (cell_own (by simp) _ _ _).2); have kb2 := keep hb0 (a := ⟨w.heap.size + 1, 2, none⟩) (v := .float .f64 bhx) (by first | assumption | go_keep | exact up_alloc (by go_keep) | exact (cell_own (by simp) _ _ _).1 | exact (cell_own (by simp) _ _ _).2 | exact up_alloc (cell_own (by simp) _ _ _).1 | exact up_alloc (cell_own (by simp) _ _ _).2); have kb3 := keep hb0 (a := ⟨w.heap.size + 1, 3, none⟩) (v := .float .f64 bhy) (by first | assumption | go_keep | exact up_alloc (by go_keep) | exact (cell_own (by simp) _ _ _).1 | exact (cell_own (by simp) _ _ _).2 | exact up_alloc (cell_own (by simp) _ _ _).1 | exact up_alloc (cell_own (by simp) _ _ _).2)))
    go_region_held3 (fun w1 => w1.cell? ⟨w.heap.size, 0, none⟩ = some (.float .f64 alx) ∧ w1.cell? ⟨w.heap.size, 1, none⟩ = some (.float .f64 aly) ∧ w1.cell? ⟨w.heap.size, 2, none⟩ = some (.float .f64 ahx) ∧ w1.cell? ⟨w.heap.size, 3, none⟩ = some (.float .f64 ahy) ∧ w1.cell? ⟨w.heap.size + 1, 0, none⟩ = some (.float .f64 blx) ∧ w1.cell? ⟨w.heap.size + 1, 1, none⟩ = some (.float .f64 bly) ∧ w1.cell? ⟨w.heap.size + 1, 2, none⟩ = some (.float .f64 bhx) ∧ w1.cell? ⟨w.heap.size + 1, 3, none⟩ = some (.float .f64 bhy)) (first | ((try go_split_ands); refine ⟨?_, ?_, ?_, ?_, ?_, ?_, ?_, ?_⟩ <;> (first | ((repeat' (first | (with_reducible assumption) | (with_reducible refine up_drew ?_) | (with_reducible refine up_drewN ?_) | (with_reducible refine keep hb ?_) | (with_reducible refine up_set2 ?_ ?_) | (with_reducible refine (cell_own ?_ _ _ _).1) | (with_reducible refine (cell_own ?_ _ _ _).2) | (with_reducible refine up_alloc ?_) | omega | (simp; done))); done) | go_keep)))
      (first | (go_at_call 95; refine (xmost_any _ _ _ _ _).mono ?_; rintro e w' ⟨rfl, hb⟩; have B := bl_trans (a := (((w.alloc _).alloc _).alloc _)) (by first | exact B | exact bl_drew B | exact bl_drewN B) hb; obtain ⟨hc, hf⟩ := bcell B; have hz := B.size; (try simp at hz)) | (go_at_call 96; refine (xleast_any _ _ _ _ _).mono ?_; rintro e w' ⟨rfl, hb⟩; clear hc hf hz; have B := bl_trans B hb; obtain ⟨hc, hf⟩ := bcell B; have hz := B.size; (try simp at hz)))
    all_goals go_wp2
    refine bodyPost_ret (v := .tuple #[.agg #[.float .f64 (mostK .f64 alx blx), .float .f64 (mostK .f64 aly bly), .float .f64 (leastK .f64 ahx bhx), .float .f64 (leastK .f64 ahy bhy)], .bool true]) (by simp [hc, results, Try.results67, go_sem] <;> (first | exact ⟨⟨rfl, rfl⟩, rfl⟩ | exact ⟨rfl, rfl, rfl, rfl⟩ | exact ⟨rfl, rfl, rfl⟩ | exact ⟨rfl, rfl⟩ | rfl)) rfl ⟨rfl, ?_⟩
    repeat (first | exact bl_refl _ | assumption | apply bl_drewN | apply bl_drew | apply bl_alloc | refine bl_set ?_ (by simp <;> omega) | refine bl_trans ?_ (by assumption))
set_option maxHeartbeats 2000000 in
theorem xGrow_any (lx ly hx hy m : Nat) (w : World) : Calls Try.prog 38 #[.agg #[.float .f64 lx, .float .f64 ly, .float .f64 hx, .float .f64 hy], .float .f64 m] w fun e w' => ∃ a b c d, GrowR lx ly hx hy m a b c d ∧ e = .returned (.agg #[.float .f64 a, .float .f64 b, .float .f64 c, .float .f64 d]) ∧ Bel w w' := by
  go_enter Try.func38, Try.ntmps38
  go_wp2
  go_region_held3 (fun w1 => w1.cell? ⟨w.heap.size, 0, none⟩ = some (.float .f64 lx) ∧ w1.cell? ⟨w.heap.size, 1, none⟩ = some (.float .f64 ly) ∧ w1.cell? ⟨w.heap.size, 2, none⟩ = some (.float .f64 hx) ∧ w1.cell? ⟨w.heap.size, 3, none⟩ = some (.float .f64 hy) ∧ w1.cell? ⟨w.heap.size + 1 + 1, 0, none⟩ = some (.float .f64 m) ∧ w1.cell? ⟨w.heap.size + 1 + 1, 1, none⟩ = some (.float .f64 m)) (first | ((try go_split_ands); refine ⟨?_, ?_, ?_, ?_, ?_, ?_⟩ <;> (first | ((repeat' (first | (with_reducible assumption) | (with_reducible refine up_drew ?_) | (with_reducible refine up_drewN ?_) | (with_reducible refine keep hb ?_) | (with_reducible refine up_set2 ?_ ?_) | (with_reducible refine (cell_own ?_ _ _ _).1) | (with_reducible refine (cell_own ?_ _ _ _).2) | (with_reducible refine up_alloc ?_) | omega | (simp; done))); done) | go_keep)))
    (first | (go_at_call 77; refine (vSub_any _ _ _ _ _).mono ?_; rintro e w' ⟨a, b, hS, rfl, hb⟩; have B := hb; obtain ⟨hc, hf⟩ := bcell B; have hz := B.size; (try simp at hz)) | (go_at_call 78; refine (vAdd_any _ _ _ _ _).mono ?_; rintro e w' ⟨c, d, hA, rfl, hb⟩; clear hc hf hz; have B := bl_trans B hb; obtain ⟨hc, hf⟩ := bcell B; have hz := B.size; (try simp at hz)))
  all_goals go_wp2
  refine bodyPost_ret (v := .agg #[.float .f64 _, .float .f64 _, .float .f64 _, .float .f64 _]) (by simp [hc, results, Try.results38, go_sem] <;> (first | exact ⟨rfl, rfl, rfl, rfl⟩ | exact ⟨rfl, rfl⟩ | rfl)) rfl ⟨_, _, _, _, ⟨hS, hA⟩, rfl, ?_⟩
  repeat (first | exact bl_refl _ | assumption | apply bl_drewN | apply bl_drew | apply bl_alloc | refine bl_set ?_ (by simp <;> omega) | refine bl_trans ?_ (by assumption))
theorem xstretch_any (low high way : Nat) (w : World) : Calls Try.prog 117 #[.float .f64 low, .float .f64 high, .float .f64 way] w fun e w' => ∃ l h n, StR low high way l h ∧ e = .returned (.tuple #[.float .f64 l, .float .f64 h]) ∧ w' = w.drewN n := by
  have q1 := run_add Try.prog
  have q2 := run_sub Try.prog
  have q3 := run_mul Try.prog
  have q4 := run_quo Try.prog
  have c1 := cmp_lt .f64
  cases h1 : ltK .f64 way 0
  all_goals
    go_enter Try.func117, Try.ntmps117
    go_wp2
    refine bodyPost_ret (v := .tuple #[.float .f64 _, .float .f64 _]) (by simp [results, Try.results117, go_sem] <;> (first | exact ⟨⟨rfl, rfl⟩, rfl⟩ | exact ⟨rfl, rfl, rfl, rfl⟩ | exact ⟨rfl, rfl, rfl⟩ | exact ⟨rfl, rfl⟩ | rfl)) rfl ⟨_, _, _, by unfold StR; rw [h1]; first | exact ⟨rfl, fv_res _ _ _ _ _⟩ | exact ⟨fv_res _ _ _ _ _, rfl⟩, rfl, rfl⟩
set_option maxHeartbeats 1000000 in
theorem xMoved_any (lx ly hx hy wx wy : Nat) (w : World) : Calls Try.prog 100 #[.agg #[.float .f64 lx, .float .f64 ly, .float .f64 hx, .float .f64 hy], .agg #[.float .f64 wx, .float .f64 wy]] w fun e w' => ∃ a b c d, MovR lx ly hx hy wx wy a b c d ∧ e = .returned (.agg #[.float .f64 a, .float .f64 b, .float .f64 c, .float .f64 d]) ∧ Bel w w' := by
  go_enter Try.func100, Try.ntmps100
  go_wp2_with (first | (go_at_call 117; have z := hMk; clear z; refine (xstretch_any _ _ _ _).mono ?_; rintro e w' ⟨l2, h2, n2, hS2, rfl, rfl⟩) | (go_at_call 117; refine (xstretch_any _ _ _ _).mono ?_; rintro e w' ⟨l, h, n1, hS, rfl, rfl⟩; have hMk := hide True.intro))
  refine bodyPost_ret (v := .agg #[.float .f64 _, .float .f64 _, .float .f64 _, .float .f64 _]) (by simp [results, Try.results100, go_sem] <;> (first | exact ⟨rfl, rfl, rfl, rfl⟩ | exact ⟨rfl, rfl⟩ | rfl)) rfl ⟨_, _, _, _, ⟨hS, hS2⟩, rfl, ?_⟩
  repeat (first | exact bl_refl _ | assumption | apply bl_drewN | apply bl_drew | apply bl_alloc | refine bl_set ?_ (by simp <;> omega) | refine bl_trans ?_ (by assumption))

set_option maxHeartbeats 4000000 in
theorem xcut_any (s t low high frm way : Nat) (w : World) : Calls Try.prog 76 #[.agg #[.float .f64 s, .float .f64 t], .float .f64 low, .float .f64 high, .float .f64 frm, .float .f64 way] w fun e w' => ∃ s' t' b, AxR low high frm way s t s' t' b ∧ e = .returned (.tuple #[.agg #[.float .f64 s', .float .f64 t'], .bool b]) ∧ Bel w w' := by
  have q1 := run_add Try.prog
  have q2 := run_sub Try.prog
  have q3 := run_mul Try.prog
  have q4 := run_quo Try.prog
  have c1 := cmp_lt .f64
  have c2 := cmp_gt .f64
  have c3 := cmp_le .f64
  have c4 := cmp_eq .f64
  have c5 := cmp_le1 .f64
  have c6 := cmp_le2 .f64
  by_cases hz : sgK .f64 way = 0
  · cases h1 : leK .f64 low frm
    all_goals
      go_enter Try.func76, Try.ntmps76
      go_wp2_with (first | (go_at_call 104; refine (sign_6 _ _).mono ?_; rintro e w' ⟨rfl, rfl⟩))
      refine bodyPost_ret (v := .tuple #[.agg #[.float .f64 s, .float .f64 t], .bool _]) (by simp [results, Try.results76, go_sem] <;> (first | exact ⟨⟨rfl, rfl⟩, rfl⟩ | exact ⟨rfl, rfl, rfl, rfl⟩ | exact ⟨rfl, rfl, rfl⟩ | exact ⟨rfl, rfl⟩ | rfl)) rfl ⟨_, _, _, ax_zero hz, by rw [h1]; rfl, ?_⟩
      repeat (first | exact bl_refl _ | assumption | apply bl_drewN | apply bl_drew | apply bl_alloc | refine bl_set ?_ (by simp <;> omega) | refine bl_trans ?_ (by assumption))
  · go_enter Try.func76, Try.ntmps76
    go_wp2_with (first | (go_at_call 104; refine (sign_6 _ _).mono ?_; rintro e w' ⟨rfl, rfl⟩))
    all_goals
      generalize hd1 : fv BinOp.sub FloatKind.f64 low frm _ = d1 at *
      have r1 : resK .sub .f64 low frm d1 := by rw [← hd1]; exact fv_res _ _ _ _ _
      clear hd1
      generalize hd2 : fv BinOp.sub FloatKind.f64 high frm _ = d2 at *
      have r2 : resK .sub .f64 high frm d2 := by rw [← hd2]; exact fv_res _ _ _ _ _
      clear hd2
      generalize hp : fv BinOp.quo FloatKind.f64 d1 way _ = p at *
      have r3 : resK .quo .f64 d1 way p := by rw [← hp]; exact fv_res _ _ _ _ _
      clear hp
      generalize hq : fv BinOp.quo FloatKind.f64 d2 way _ = q at *
      have r4 : resK .quo .f64 d2 way q := by rw [← hq]; exact fv_res _ _ _ _ _
      clear hq
    all_goals first | (exact (no_way (by assumption) (by assumption)).elim) | (have hn := le_not' (by assumption); refine bodyPost_ret (v := .tuple #[.agg #[.float .f64 0, .float .f64 0], .bool false]) (by simp [results, Try.results76, go_sem] <;> (first | exact ⟨⟨rfl, rfl⟩, rfl⟩ | exact ⟨rfl, rfl, rfl, rfl⟩ | exact ⟨rfl, rfl, rfl⟩ | exact ⟨rfl, rfl⟩ | rfl)) rfl ⟨_, _, _, ax_nan hz r1 r3 r2 r4 (nan_le hn (by assumption)), rfl, (by repeat (first | exact bl_refl _ | assumption | apply bl_drewN | apply bl_drew | apply bl_alloc | refine bl_set ?_ (by simp <;> omega) | refine bl_trans ?_ (by assumption)))⟩) | go_region
    all_goals go_wp2
    all_goals
      refine bodyPost_ret (v := .tuple #[.agg #[.float .f64 _, .float .f64 _], .bool _]) (by simp [results, Try.results76, go_sem] <;> (first | exact ⟨⟨rfl, rfl⟩, rfl⟩ | exact ⟨rfl, rfl, rfl, rfl⟩ | exact ⟨rfl, rfl, rfl⟩ | exact ⟨rfl, rfl⟩ | rfl)) rfl ⟨_, _, _, by first | exact ax_gt hz r1 r3 r2 r4 (by assumption) (by first | exact cutS_t (by assumption) | exact cutS_g (by assumption)) (by first | exact cutT_t (by assumption) | exact cutT_g (by assumption)) (by first | rfl | exact (le_not (by assumption)).symm | exact (lt_le (by assumption)).symm) | exact ax_le hz r1 r3 r2 r4 (by assumption) (le_not (by assumption)) (by first | exact cutS_t (by assumption) | exact cutS_g (by assumption)) (by first | exact cutT_t (by assumption) | exact cutT_g (by assumption)) (by first | rfl | exact (le_not (by assumption)).symm | exact (lt_le (by assumption)).symm), rfl, ?_⟩
      repeat (first | exact bl_refl _ | assumption | apply bl_drewN | apply bl_drew | apply bl_alloc | refine bl_set ?_ (by simp <;> omega) | refine bl_trans ?_ (by assumption))

set_option maxHeartbeats 4000000 in
theorem xRay_any (lx ly hx hy fx fy wx wy : Nat) (w : World) : Calls Try.prog 36 #[.agg #[.float .f64 lx, .float .f64 ly, .float .f64 hx, .float .f64 hy], .agg #[.float .f64 fx, .float .f64 fy], .agg #[.float .f64 wx, .float .f64 wy]] w fun e w' => ∃ r b, RayR lx ly hx hy fx fy wx wy r b ∧ e = .returned (.tuple #[.float .f64 r, .bool b]) ∧ Bel w w' := by
  have al := World.cell?_alloc_some
  go_enter Try.func36, Try.ntmps36
  go_wp2_with (first | (go_at_call 76; have z := hMk; clear z; refine (xcut_any _ _ _ _ _ _ _).mono ?_; rintro e w' ⟨s2, t2, b2, hA2, rfl, hb2⟩; cases b2) | (go_at_call 76; refine (xcut_any _ _ _ _ _ _ _).mono ?_; rintro e w' ⟨s1, t1, b1, hA1, rfl, hb⟩; have B := hb; obtain ⟨hc, hf⟩ := bcell B; have hz := B.size; skip; have ka0 := keep hb (a := ⟨w.heap.size, 0, none⟩) (v := .float .f64 lx) (by first | assumption | go_keep | exact up_alloc (by go_keep) | exact (cell_own (by simp) _ _ _).1 | exact (cell_own (by simp) _ _ _).2 | exact up_alloc (cell_own (by simp) _ _ _).1 | exact up_alloc (cell_own (by simp) _ _ _).2); have ka1 := keep hb (a := ⟨w.heap.size, 1, none⟩) (v := .float .f64 ly) (by first | assumption | go_keep | exact up_alloc (by go_keep) | exact (cell_own (by simp) _ _ _).1 | exact (cell_own (by simp) _ _ _).2 | exact up_alloc (cell_own (by simp) _ _ _).1 | exact up_alloc (cell_own (by simp) _ _ _).2); have ka2 := keep hb (a := ⟨w.heap.size, 2, none⟩) (v := .float .f64 hx) (by first | assumption | go_keep | exact up_alloc (by go_keep) | exact (cell_own (by simp) _ _ _).1 | exact (cell_own (by simp) _ _ _).2 | exact up_alloc (cell_own (by simp) _ _ _).1 | exact up_alloc (cell_own (by simp) _ _ _).2); have ka3 := keep hb (a := ⟨w.heap.size, 3, none⟩) (v := .float .f64 hy) (by first | assumption | go_keep | exact up_alloc (by go_keep) | exact (cell_own (by simp) _ _ _).1 | exact (cell_own (by simp) _ _ _).2 | exact up_alloc (cell_own (by simp) _ _ _).1 | exact up_alloc (cell_own (by simp) _ _ _).2); have kb0 := keep hb (a := ⟨w.heap.size + 1, 0, none⟩) (v := .float .f64 fx) (by first | assumption | go_keep | exact up_alloc (by go_keep) | exact (cell_own (by simp) _ _ _).1 | exact (cell_own (by simp) _ _ _).2 | exact up_alloc (cell_own (by simp) _ _ _).1 | exact up_alloc (cell_own (by simp) _ _ _).2); have kb1 := keep hb (a := ⟨w.heap.size + 1, 1, none⟩) (v := .float .f64 fy) (by first | assumption | go_keep | exact up_alloc (by go_keep) | exact (cell_own (by simp) _ _ _).1 | exact (cell_own (by simp) _ _ _).2 | exact up_alloc (cell_own (by simp) _ _ _).1 | exact up_alloc (cell_own (by simp) _ _ _).2); have kc0 := keep hb (a := ⟨w.heap.size + 1 + 1, 0, none⟩) (v := .float .f64 wx) (by first | assumption | go_keep | exact up_alloc (by go_keep) | exact (cell_own (by simp) _ _ _).1 | exact (cell_own (by simp) _ _ _).2 | exact up_alloc (cell_own (by simp) _ _ _).1 | exact up_alloc (cell_own (by simp) _ _ _).2); have kc1 := keep hb (a := ⟨w.heap.size + 1 + 1, 1, none⟩) (v := .float .f64 wy) (by first | assumption | go_keep | exact up_alloc (by go_keep) | exact (cell_own (by simp) _ _ _).1 | exact (cell_own (by simp) _ _ _).2 | exact up_alloc (cell_own (by simp) _ _ _).1 | exact up_alloc (cell_own (by simp) _ _ _).2); have hMk := hide True.intro; cases b1))
  all_goals
    refine bodyPost_ret (v := .tuple #[.float .f64 _, .bool _]) (by simp [results, Try.results36, go_sem] <;> (first | exact ⟨⟨rfl, rfl⟩, rfl⟩ | exact ⟨rfl, rfl, rfl, rfl⟩ | exact ⟨rfl, rfl, rfl⟩ | exact ⟨rfl, rfl⟩ | rfl)) rfl ?_
    first | (refine ⟨_, _, ray_no hA1, rfl, ?_⟩; (repeat (first | exact bl_refl _ | assumption | apply bl_drewN | apply bl_drew | apply bl_alloc | refine bl_set ?_ (by simp <;> omega) | refine bl_trans ?_ (by assumption))); done) | (refine ⟨_, _, ray_half hA1 hA2, rfl, ?_⟩; (repeat (first | exact bl_refl _ | assumption | apply bl_drewN | apply bl_drew | apply bl_alloc | refine bl_set ?_ (by simp <;> omega) | refine bl_trans ?_ (by assumption))); done) | (refine ⟨_, _, ray_yes hA1 hA2, rfl, ?_⟩; (repeat (first | exact bl_refl _ | assumption | apply bl_drewN | apply bl_drew | apply bl_alloc | refine bl_set ?_ (by simp <;> omega) | refine bl_trans ?_ (by assumption))); done)

end Go.Proofs.Ytmgoancijepeoaa
