/-
  What each function of package poly answers, and what the reference of its chapter answers: one contract a function, for every float: the answer stands in the relation of its formula to what was given; of the memory that was there nothing has turned.
-/
import Derived.Test.YtfohggiehbplkaaVec
import Derived.Test.YtfohggiehbplkaaWa
import Derived.Below
import Derived.WalkKit
import Derived.WalkLawsBesides
import Derived.WalkSpells
import Derived.ProofKit
import Derived.OpenShut
import Derived.Deep.RegionHeld3
namespace Go.Proofs.Ytfohggiehbplkaa
open Go.ChangeShapes Go.WideShapes Go.ChangeAt Go.RowKit
set_option linter.unusedVariables false
set_option linter.unusedSimpArgs false


theorem isWeight_w (f : Nat) (w : World) : Calls Try.prog 137 #[.float .f64 f] w fun e w' => e = .returned (.bool (weB f)) ∧ Bel w w' := by
  have c1 := cmp_ge .f64
  have c2 := cmp_ge2 .f64
  cases h0 : leK .f64 0 f
  · go_enter Try.func137, Try.ntmps137
    go_wp2_with (first | (go_at_call 99; refine (finite_6 _ _).mono ?_; rintro e w' ⟨n, rfl, rfl⟩))
    go_ret
    exact ⟨by simp [weB, h0], by repeat (first | exact bl_refl _ | assumption | apply bl_drewN | apply bl_drew | apply bl_alloc | refine bl_set ?_ (by simp <;> omega) | refine bl_trans ?_ (by assumption))⟩
  cases h1 : finK .f64 f
  · go_enter Try.func137, Try.ntmps137
    go_wp2_with (first | (go_at_call 99; refine (finite_6 _ _).mono ?_; rintro e w' ⟨n, rfl, rfl⟩; rw [h1]))
    go_ret
    exact ⟨by simp [weB, h0, h1], by repeat (first | exact bl_refl _ | assumption | apply bl_drewN | apply bl_drew | apply bl_alloc | refine bl_set ?_ (by simp <;> omega) | refine bl_trans ?_ (by assumption))⟩
  go_enter Try.func137, Try.ntmps137
  go_wp2_with (first | (go_at_call 99; refine (finite_6 _ _).mono ?_; rintro e w' ⟨n, rfl, rfl⟩; rw [h1]))
  go_ret
  exact ⟨by simp [weB, h0, h1], by repeat (first | exact bl_refl _ | assumption | apply bl_drewN | apply bl_drew | apply bl_alloc | refine bl_set ?_ (by simp <;> omega) | refine bl_trans ?_ (by assumption))⟩


theorem isStill_w (a : SD) (w : World) : Calls Try.prog 98 #[.agg #[.float .f64 a.sm, .float .f64 a.si, .float .f64 a.sx, .float .f64 a.sy, .float .f64 a.ss]] w fun e w' => e = .returned (.bool (stB a)) ∧ Bel w w' := by
  have z0_0 : (w.alloc (.cells #[.float .f64 a.sm, .float .f64 a.si, .float .f64 a.sx, .float .f64 a.sy, .float .f64 a.ss] 45)).cell? ⟨w.heap.size, 0, none⟩ = some (.float .f64 a.sm) := by rw [World.cell?_alloc_new]; rfl
  have z0_1 : (w.alloc (.cells #[.float .f64 a.sm, .float .f64 a.si, .float .f64 a.sx, .float .f64 a.sy, .float .f64 a.ss] 45)).cell? ⟨w.heap.size, 1, none⟩ = some (.float .f64 a.si) := by rw [World.cell?_alloc_new]; rfl
  have z0_2 : (w.alloc (.cells #[.float .f64 a.sm, .float .f64 a.si, .float .f64 a.sx, .float .f64 a.sy, .float .f64 a.ss] 45)).cell? ⟨w.heap.size, 2, none⟩ = some (.float .f64 a.sx) := by rw [World.cell?_alloc_new]; rfl
  have z0_3 : (w.alloc (.cells #[.float .f64 a.sm, .float .f64 a.si, .float .f64 a.sx, .float .f64 a.sy, .float .f64 a.ss] 45)).cell? ⟨w.heap.size, 3, none⟩ = some (.float .f64 a.sy) := by rw [World.cell?_alloc_new]; rfl
  have z0_4 : (w.alloc (.cells #[.float .f64 a.sm, .float .f64 a.si, .float .f64 a.sx, .float .f64 a.sy, .float .f64 a.ss] 45)).cell? ⟨w.heap.size, 4, none⟩ = some (.float .f64 a.ss) := by rw [World.cell?_alloc_new]; rfl
  have B0 : Bel w (w.alloc (.cells #[.float .f64 a.sm, .float .f64 a.si, .float .f64 a.sx, .float .f64 a.sy, .float .f64 a.ss] 45)) := bl_alloc (bl_refl w) _ _
  cases h0 : weB a.sm
  · go_enter Try.func98, Try.ntmps98
    go_wp2_with (first | (go_at_call 137; (with_reducible refine (isWeight_w a.sm _).mono ?_); rintro e w' ⟨rfl, hb⟩; rw [h0]; (first | have B := bl_trans B hb | have B := bl_trans (by repeat (first | exact B | apply bl_drewN)) hb | have B := bl_trans (by repeat (first | exact B | apply bl_drewN | apply bl_drew | apply bl_alloc | refine bl_set ?_ (by simp <;> omega))) hb | have B := hb); (try clear hc hf hz); obtain ⟨hc, hf⟩ := bcell B; have hz := B.size; (try simp at hz)))
    go_ret
    exact ⟨by simp [stB, h0], by repeat (first | exact bl_refl _ | assumption | apply bl_drewN | apply bl_drew | apply bl_alloc | refine bl_set ?_ (by simp <;> omega) | refine bl_trans ?_ (by assumption))⟩
  cases h1 : weB a.si
  · go_enter Try.func98, Try.ntmps98
    go_wp2_with (first | (go_at_call 137; (with_reducible refine (isWeight_w a.sm _).mono ?_); rintro e w' ⟨rfl, hb⟩; rw [h0]; (first | have B := bl_trans B hb | have B := bl_trans (by repeat (first | exact B | apply bl_drewN)) hb | have B := bl_trans (by repeat (first | exact B | apply bl_drewN | apply bl_drew | apply bl_alloc | refine bl_set ?_ (by simp <;> omega))) hb | have B := hb); (try clear hc hf hz); obtain ⟨hc, hf⟩ := bcell B; have hz := B.size; (try simp at hz)) | (go_at_call 137; (with_reducible refine (isWeight_w a.si _).mono ?_); rintro e w' ⟨rfl, hb⟩; rw [h1]; (first | have B := bl_trans B hb | have B := bl_trans (by repeat (first | exact B | apply bl_drewN)) hb | have B := bl_trans (by repeat (first | exact B | apply bl_drewN | apply bl_drew | apply bl_alloc | refine bl_set ?_ (by simp <;> omega))) hb | have B := hb); (try clear hc hf hz); obtain ⟨hc, hf⟩ := bcell B; have hz := B.size; (try simp at hz)))
    go_ret
    exact ⟨by simp [stB, h0, h1], by repeat (first | exact bl_refl _ | assumption | apply bl_drewN | apply bl_drew | apply bl_alloc | refine bl_set ?_ (by simp <;> omega) | refine bl_trans ?_ (by assumption))⟩
  go_enter Try.func98, Try.ntmps98
  go_wp2_with (first | (go_at_call 137; (with_reducible refine (isWeight_w a.sm _).mono ?_); rintro e w' ⟨rfl, hb⟩; rw [h0]; (first | have B := bl_trans B hb | have B := bl_trans (by repeat (first | exact B | apply bl_drewN)) hb | have B := bl_trans (by repeat (first | exact B | apply bl_drewN | apply bl_drew | apply bl_alloc | refine bl_set ?_ (by simp <;> omega))) hb | have B := hb); (try clear hc hf hz); obtain ⟨hc, hf⟩ := bcell B; have hz := B.size; (try simp at hz)) | (go_at_call 137; (with_reducible refine (isWeight_w a.si _).mono ?_); rintro e w' ⟨rfl, hb⟩; rw [h1]; (first | have B := bl_trans B hb | have B := bl_trans (by repeat (first | exact B | apply bl_drewN)) hb | have B := bl_trans (by repeat (first | exact B | apply bl_drewN | apply bl_drew | apply bl_alloc | refine bl_set ?_ (by simp <;> omega))) hb | have B := hb); (try clear hc hf hz); obtain ⟨hc, hf⟩ := bcell B; have hz := B.size; (try simp at hz)))
  go_ret
  exact ⟨by simp [stB, h0, h1], by repeat (first | exact bl_refl _ | assumption | apply bl_drewN | apply bl_drew | apply bl_alloc | refine bl_set ?_ (by simp <;> omega) | refine bl_trans ?_ (by assumption))⟩


set_option maxRecDepth 100000 in
set_option maxHeartbeats 4000000 in
theorem isRow_w (R : RD) (w : World) : Calls Try.prog 87 #[.agg #[.int .i64 R.ra, .int .i64 R.rb, .float .f64 R.r2, .float .f64 R.r3, .float .f64 R.r4, .float .f64 R.r5, .float .f64 R.r6, .float .f64 R.r7, .float .f64 R.r8, .float .f64 R.r9, .float .f64 R.r10, .float .f64 R.r11, .int .i64 R.ro, .float .f64 R.r13]] w fun e w' => e = .returned (.bool (mayB R)) ∧ Bel w w' := by
  have c1 := cmp_le .f64
  have z0_0 : (w.alloc (.cells #[.int .i64 R.ra, .int .i64 R.rb, .float .f64 R.r2, .float .f64 R.r3, .float .f64 R.r4, .float .f64 R.r5, .float .f64 R.r6, .float .f64 R.r7, .float .f64 R.r8, .float .f64 R.r9, .float .f64 R.r10, .float .f64 R.r11, .int .i64 R.ro, .float .f64 R.r13] 43)).cell? ⟨w.heap.size, 0, none⟩ = some (.int .i64 R.ra) := by rw [World.cell?_alloc_new]; rfl
  have z0_1 : (w.alloc (.cells #[.int .i64 R.ra, .int .i64 R.rb, .float .f64 R.r2, .float .f64 R.r3, .float .f64 R.r4, .float .f64 R.r5, .float .f64 R.r6, .float .f64 R.r7, .float .f64 R.r8, .float .f64 R.r9, .float .f64 R.r10, .float .f64 R.r11, .int .i64 R.ro, .float .f64 R.r13] 43)).cell? ⟨w.heap.size, 1, none⟩ = some (.int .i64 R.rb) := by rw [World.cell?_alloc_new]; rfl
  have z0_2 : (w.alloc (.cells #[.int .i64 R.ra, .int .i64 R.rb, .float .f64 R.r2, .float .f64 R.r3, .float .f64 R.r4, .float .f64 R.r5, .float .f64 R.r6, .float .f64 R.r7, .float .f64 R.r8, .float .f64 R.r9, .float .f64 R.r10, .float .f64 R.r11, .int .i64 R.ro, .float .f64 R.r13] 43)).cell? ⟨w.heap.size, 2, none⟩ = some (.float .f64 R.r2) := by rw [World.cell?_alloc_new]; rfl
  have z0_3 : (w.alloc (.cells #[.int .i64 R.ra, .int .i64 R.rb, .float .f64 R.r2, .float .f64 R.r3, .float .f64 R.r4, .float .f64 R.r5, .float .f64 R.r6, .float .f64 R.r7, .float .f64 R.r8, .float .f64 R.r9, .float .f64 R.r10, .float .f64 R.r11, .int .i64 R.ro, .float .f64 R.r13] 43)).cell? ⟨w.heap.size, 3, none⟩ = some (.float .f64 R.r3) := by rw [World.cell?_alloc_new]; rfl
  have z0_4 : (w.alloc (.cells #[.int .i64 R.ra, .int .i64 R.rb, .float .f64 R.r2, .float .f64 R.r3, .float .f64 R.r4, .float .f64 R.r5, .float .f64 R.r6, .float .f64 R.r7, .float .f64 R.r8, .float .f64 R.r9, .float .f64 R.r10, .float .f64 R.r11, .int .i64 R.ro, .float .f64 R.r13] 43)).cell? ⟨w.heap.size, 4, none⟩ = some (.float .f64 R.r4) := by rw [World.cell?_alloc_new]; rfl
  have z0_5 : (w.alloc (.cells #[.int .i64 R.ra, .int .i64 R.rb, .float .f64 R.r2, .float .f64 R.r3, .float .f64 R.r4, .float .f64 R.r5, .float .f64 R.r6, .float .f64 R.r7, .float .f64 R.r8, .float .f64 R.r9, .float .f64 R.r10, .float .f64 R.r11, .int .i64 R.ro, .float .f64 R.r13] 43)).cell? ⟨w.heap.size, 5, none⟩ = some (.float .f64 R.r5) := by rw [World.cell?_alloc_new]; rfl
  have z0_6 : (w.alloc (.cells #[.int .i64 R.ra, .int .i64 R.rb, .float .f64 R.r2, .float .f64 R.r3, .float .f64 R.r4, .float .f64 R.r5, .float .f64 R.r6, .float .f64 R.r7, .float .f64 R.r8, .float .f64 R.r9, .float .f64 R.r10, .float .f64 R.r11, .int .i64 R.ro, .float .f64 R.r13] 43)).cell? ⟨w.heap.size, 6, none⟩ = some (.float .f64 R.r6) := by rw [World.cell?_alloc_new]; rfl
  have z0_7 : (w.alloc (.cells #[.int .i64 R.ra, .int .i64 R.rb, .float .f64 R.r2, .float .f64 R.r3, .float .f64 R.r4, .float .f64 R.r5, .float .f64 R.r6, .float .f64 R.r7, .float .f64 R.r8, .float .f64 R.r9, .float .f64 R.r10, .float .f64 R.r11, .int .i64 R.ro, .float .f64 R.r13] 43)).cell? ⟨w.heap.size, 7, none⟩ = some (.float .f64 R.r7) := by rw [World.cell?_alloc_new]; rfl
  have z0_8 : (w.alloc (.cells #[.int .i64 R.ra, .int .i64 R.rb, .float .f64 R.r2, .float .f64 R.r3, .float .f64 R.r4, .float .f64 R.r5, .float .f64 R.r6, .float .f64 R.r7, .float .f64 R.r8, .float .f64 R.r9, .float .f64 R.r10, .float .f64 R.r11, .int .i64 R.ro, .float .f64 R.r13] 43)).cell? ⟨w.heap.size, 8, none⟩ = some (.float .f64 R.r8) := by rw [World.cell?_alloc_new]; rfl
  have z0_9 : (w.alloc (.cells #[.int .i64 R.ra, .int .i64 R.rb, .float .f64 R.r2, .float .f64 R.r3, .float .f64 R.r4, .float .f64 R.r5, .float .f64 R.r6, .float .f64 R.r7, .float .f64 R.r8, .float .f64 R.r9, .float .f64 R.r10, .float .f64 R.r11, .int .i64 R.ro, .float .f64 R.r13] 43)).cell? ⟨w.heap.size, 9, none⟩ = some (.float .f64 R.r9) := by rw [World.cell?_alloc_new]; rfl
  have z0_10 : (w.alloc (.cells #[.int .i64 R.ra, .int .i64 R.rb, .float .f64 R.r2, .float .f64 R.r3, .float .f64 R.r4, .float .f64 R.r5, .float .f64 R.r6, .float .f64 R.r7, .float .f64 R.r8, .float .f64 R.r9, .float .f64 R.r10, .float .f64 R.r11, .int .i64 R.ro, .float .f64 R.r13] 43)).cell? ⟨w.heap.size, 10, none⟩ = some (.float .f64 R.r10) := by rw [World.cell?_alloc_new]; rfl
  have z0_11 : (w.alloc (.cells #[.int .i64 R.ra, .int .i64 R.rb, .float .f64 R.r2, .float .f64 R.r3, .float .f64 R.r4, .float .f64 R.r5, .float .f64 R.r6, .float .f64 R.r7, .float .f64 R.r8, .float .f64 R.r9, .float .f64 R.r10, .float .f64 R.r11, .int .i64 R.ro, .float .f64 R.r13] 43)).cell? ⟨w.heap.size, 11, none⟩ = some (.float .f64 R.r11) := by rw [World.cell?_alloc_new]; rfl
  have z0_12 : (w.alloc (.cells #[.int .i64 R.ra, .int .i64 R.rb, .float .f64 R.r2, .float .f64 R.r3, .float .f64 R.r4, .float .f64 R.r5, .float .f64 R.r6, .float .f64 R.r7, .float .f64 R.r8, .float .f64 R.r9, .float .f64 R.r10, .float .f64 R.r11, .int .i64 R.ro, .float .f64 R.r13] 43)).cell? ⟨w.heap.size, 12, none⟩ = some (.int .i64 R.ro) := by rw [World.cell?_alloc_new]; rfl
  have z0_13 : (w.alloc (.cells #[.int .i64 R.ra, .int .i64 R.rb, .float .f64 R.r2, .float .f64 R.r3, .float .f64 R.r4, .float .f64 R.r5, .float .f64 R.r6, .float .f64 R.r7, .float .f64 R.r8, .float .f64 R.r9, .float .f64 R.r10, .float .f64 R.r11, .int .i64 R.ro, .float .f64 R.r13] 43)).cell? ⟨w.heap.size, 13, none⟩ = some (.float .f64 R.r13) := by rw [World.cell?_alloc_new]; rfl
  have B0 : Bel w (w.alloc (.cells #[.int .i64 R.ra, .int .i64 R.rb, .float .f64 R.r2, .float .f64 R.r3, .float .f64 R.r4, .float .f64 R.r5, .float .f64 R.r6, .float .f64 R.r7, .float .f64 R.r8, .float .f64 R.r9, .float .f64 R.r10, .float .f64 R.r11, .int .i64 R.ro, .float .f64 R.r13] 43)) := bl_alloc (bl_refl w) _ _
  by_cases h0 : 0 ≤ R.ra
  rotate_left
  · have e : mayB R = false := by unfold mayB; rw [decide_eq_false h0]; simp
    go_enter Try.func87, Try.ntmps87
    go_wp2
    go_ret
    exact ⟨by first | rfl | (rw [e]; done) | (rw [e]; rfl) | (simp [e]; done), by repeat (first | exact bl_refl _ | assumption | apply bl_drewN | apply bl_drew | apply bl_alloc | refine bl_set ?_ (by simp <;> omega) | refine bl_trans ?_ (by assumption))⟩
  by_cases h1 : 0 ≤ R.rb
  rotate_left
  · have e : mayB R = false := by unfold mayB; rw [decide_eq_false h1]; simp
    go_enter Try.func87, Try.ntmps87
    go_wp2
    go_ret
    exact ⟨by first | rfl | (rw [e]; done) | (rw [e]; rfl) | (simp [e]; done), by repeat (first | exact bl_refl _ | assumption | apply bl_drewN | apply bl_drew | apply bl_alloc | refine bl_set ?_ (by simp <;> omega) | refine bl_trans ?_ (by assumption))⟩
  by_cases h2 : R.ra ≠ R.rb
  rotate_left
  · have h2e := Decidable.not_not.1 h2
    have h2b : (R.ra == R.rb) = true := by simp [h2e]
    have e : mayB R = false := by unfold mayB; rw [decide_eq_false h2]; simp
    go_enter Try.func87, Try.ntmps87
    go_wp2
    go_ret
    exact ⟨by first | rfl | (rw [e]; done) | (rw [e]; rfl) | (simp [e]; done), by repeat (first | exact bl_refl _ | assumption | apply bl_drewN | apply bl_drew | apply bl_alloc | refine bl_set ?_ (by simp <;> omega) | refine bl_trans ?_ (by assumption))⟩
  by_cases h3 : -1 ≤ R.ro
  rotate_left
  · have h2b : (R.ra == R.rb) = false := by simp [h2]
    have e : mayB R = false := by unfold mayB; rw [decide_eq_false h3]; simp
    go_enter Try.func87, Try.ntmps87
    go_wp2
    go_ret
    exact ⟨by first | rfl | (rw [e]; done) | (rw [e]; rfl) | (simp [e]; exact h2) | (simp [e]; done), by repeat (first | exact bl_refl _ | assumption | apply bl_drewN | apply bl_drew | apply bl_alloc | refine bl_set ?_ (by simp <;> omega) | refine bl_trans ?_ (by assumption))⟩
  cases h4 : leK .f64 R.r9 R.r10
  · have h2b : (R.ra == R.rb) = false := by simp [h2]
    have e : mayB R = false := by simp [mayB, h0, h1, h2, h3, h4]
    go_enter Try.func87, Try.ntmps87
    go_wp2
    go_ret
    exact ⟨by first | rfl | (rw [e]; done) | (rw [e]; rfl) | (simp [e]; exact h2) | (simp [e]; done), by repeat (first | exact bl_refl _ | assumption | apply bl_drewN | apply bl_drew | apply bl_alloc | refine bl_set ?_ (by simp <;> omega) | refine bl_trans ?_ (by assumption))⟩
  cases h5 : (finK .f64 R.r2 && finK .f64 R.r3)
  · have h2b : (R.ra == R.rb) = false := by simp [h2]
    have e : mayB R = false := by simp [mayB, h0, h1, h2, h3, h4, h5]
    go_enter Try.func87, Try.ntmps87
    go_wp2_with (first | (go_at_call 136; (with_reducible refine (vFinite_any R.r2 R.r3 _).mono ?_); rintro e w' ⟨rfl, hb⟩; rw [h5]; (first | have B := bl_trans B hb | have B := bl_trans (by repeat (first | exact B | apply bl_drewN)) hb | have B := bl_trans (by repeat (first | exact B | apply bl_drewN | apply bl_drew | apply bl_alloc | refine bl_set ?_ (by simp <;> omega))) hb | have B := hb); (try clear hc hf hz); obtain ⟨hc, hf⟩ := bcell B; have hz := B.size; (try simp at hz)))
    go_ret
    exact ⟨by first | rfl | (rw [e]; done) | (rw [e]; rfl) | (simp [e]; exact h2) | (simp [e]; done), by repeat (first | exact bl_refl _ | assumption | apply bl_drewN | apply bl_drew | apply bl_alloc | refine bl_set ?_ (by simp <;> omega) | refine bl_trans ?_ (by assumption))⟩
  cases h6 : (finK .f64 R.r4 && finK .f64 R.r5)
  · have h2b : (R.ra == R.rb) = false := by simp [h2]
    have e : mayB R = false := by simp [mayB, h0, h1, h2, h3, h4, h5, h6]
    go_enter Try.func87, Try.ntmps87
    go_wp2_with (first | (go_at_call 136; (with_reducible refine (vFinite_any R.r2 R.r3 _).mono ?_); rintro e w' ⟨rfl, hb⟩; rw [h5]; (first | have B := bl_trans B hb | have B := bl_trans (by repeat (first | exact B | apply bl_drewN)) hb | have B := bl_trans (by repeat (first | exact B | apply bl_drewN | apply bl_drew | apply bl_alloc | refine bl_set ?_ (by simp <;> omega))) hb | have B := hb); (try clear hc hf hz); obtain ⟨hc, hf⟩ := bcell B; have hz := B.size; (try simp at hz)) | (go_at_call 136; (with_reducible refine (vFinite_any R.r4 R.r5 _).mono ?_); rintro e w' ⟨rfl, hb⟩; rw [h6]; (first | have B := bl_trans B hb | have B := bl_trans (by repeat (first | exact B | apply bl_drewN)) hb | have B := bl_trans (by repeat (first | exact B | apply bl_drewN | apply bl_drew | apply bl_alloc | refine bl_set ?_ (by simp <;> omega))) hb | have B := hb); (try clear hc hf hz); obtain ⟨hc, hf⟩ := bcell B; have hz := B.size; (try simp at hz)))
    go_ret
    exact ⟨by first | rfl | (rw [e]; done) | (rw [e]; rfl) | (simp [e]; exact h2) | (simp [e]; done), by repeat (first | exact bl_refl _ | assumption | apply bl_drewN | apply bl_drew | apply bl_alloc | refine bl_set ?_ (by simp <;> omega) | refine bl_trans ?_ (by assumption))⟩
  cases h7 : finK .f64 R.r6
  · have h2b : (R.ra == R.rb) = false := by simp [h2]
    have e : mayB R = false := by simp [mayB, h0, h1, h2, h3, h4, h5, h6, h7]
    go_enter Try.func87, Try.ntmps87
    go_wp2_with (first | (go_at_call 136; (with_reducible refine (vFinite_any R.r2 R.r3 _).mono ?_); rintro e w' ⟨rfl, hb⟩; rw [h5]; (first | have B := bl_trans B hb | have B := bl_trans (by repeat (first | exact B | apply bl_drewN)) hb | have B := bl_trans (by repeat (first | exact B | apply bl_drewN | apply bl_drew | apply bl_alloc | refine bl_set ?_ (by simp <;> omega))) hb | have B := hb); (try clear hc hf hz); obtain ⟨hc, hf⟩ := bcell B; have hz := B.size; (try simp at hz)) | (go_at_call 136; (with_reducible refine (vFinite_any R.r4 R.r5 _).mono ?_); rintro e w' ⟨rfl, hb⟩; rw [h6]; (first | have B := bl_trans B hb | have B := bl_trans (by repeat (first | exact B | apply bl_drewN)) hb | have B := bl_trans (by repeat (first | exact B | apply bl_drewN | apply bl_drew | apply bl_alloc | refine bl_set ?_ (by simp <;> omega))) hb | have B := hb); (try clear hc hf hz); obtain ⟨hc, hf⟩ := bcell B; have hz := B.size; (try simp at hz)) | (go_at_call 99; (with_reducible refine (finite_6 R.r6 _).mono ?_); rintro e w' ⟨n, rfl, rfl⟩; rw [h7]))
    go_ret
    exact ⟨by first | rfl | (rw [e]; done) | (rw [e]; rfl) | (simp [e]; exact h2) | (simp [e]; done), by repeat (first | exact bl_refl _ | assumption | apply bl_drewN | apply bl_drew | apply bl_alloc | refine bl_set ?_ (by simp <;> omega) | refine bl_trans ?_ (by assumption))⟩
  cases h8 : finK .f64 R.r7
  · have h2b : (R.ra == R.rb) = false := by simp [h2]
    have e : mayB R = false := by simp [mayB, h0, h1, h2, h3, h4, h5, h6, h7, h8]
    go_enter Try.func87, Try.ntmps87
    go_wp2_with (first | (go_at_call 136; (with_reducible refine (vFinite_any R.r2 R.r3 _).mono ?_); rintro e w' ⟨rfl, hb⟩; rw [h5]; (first | have B := bl_trans B hb | have B := bl_trans (by repeat (first | exact B | apply bl_drewN)) hb | have B := bl_trans (by repeat (first | exact B | apply bl_drewN | apply bl_drew | apply bl_alloc | refine bl_set ?_ (by simp <;> omega))) hb | have B := hb); (try clear hc hf hz); obtain ⟨hc, hf⟩ := bcell B; have hz := B.size; (try simp at hz)) | (go_at_call 136; (with_reducible refine (vFinite_any R.r4 R.r5 _).mono ?_); rintro e w' ⟨rfl, hb⟩; rw [h6]; (first | have B := bl_trans B hb | have B := bl_trans (by repeat (first | exact B | apply bl_drewN)) hb | have B := bl_trans (by repeat (first | exact B | apply bl_drewN | apply bl_drew | apply bl_alloc | refine bl_set ?_ (by simp <;> omega))) hb | have B := hb); (try clear hc hf hz); obtain ⟨hc, hf⟩ := bcell B; have hz := B.size; (try simp at hz)) | (go_at_call 99; (with_reducible refine (finite_6 R.r6 _).mono ?_); rintro e w' ⟨n, rfl, rfl⟩; rw [h7]) | (go_at_call 99; (with_reducible refine (finite_6 R.r7 _).mono ?_); rintro e w' ⟨n, rfl, rfl⟩; rw [h8]))
    go_ret
    exact ⟨by first | rfl | (rw [e]; done) | (rw [e]; rfl) | (simp [e]; exact h2) | (simp [e]; done), by repeat (first | exact bl_refl _ | assumption | apply bl_drewN | apply bl_drew | apply bl_alloc | refine bl_set ?_ (by simp <;> omega) | refine bl_trans ?_ (by assumption))⟩
  cases h9 : finK .f64 R.r8
  · have h2b : (R.ra == R.rb) = false := by simp [h2]
    have e : mayB R = false := by simp [mayB, h0, h1, h2, h3, h4, h5, h6, h7, h8, h9]
    go_enter Try.func87, Try.ntmps87
    go_wp2_with (first | (go_at_call 136; (with_reducible refine (vFinite_any R.r2 R.r3 _).mono ?_); rintro e w' ⟨rfl, hb⟩; rw [h5]; (first | have B := bl_trans B hb | have B := bl_trans (by repeat (first | exact B | apply bl_drewN)) hb | have B := bl_trans (by repeat (first | exact B | apply bl_drewN | apply bl_drew | apply bl_alloc | refine bl_set ?_ (by simp <;> omega))) hb | have B := hb); (try clear hc hf hz); obtain ⟨hc, hf⟩ := bcell B; have hz := B.size; (try simp at hz)) | (go_at_call 136; (with_reducible refine (vFinite_any R.r4 R.r5 _).mono ?_); rintro e w' ⟨rfl, hb⟩; rw [h6]; (first | have B := bl_trans B hb | have B := bl_trans (by repeat (first | exact B | apply bl_drewN)) hb | have B := bl_trans (by repeat (first | exact B | apply bl_drewN | apply bl_drew | apply bl_alloc | refine bl_set ?_ (by simp <;> omega))) hb | have B := hb); (try clear hc hf hz); obtain ⟨hc, hf⟩ := bcell B; have hz := B.size; (try simp at hz)) | (go_at_call 99; (with_reducible refine (finite_6 R.r6 _).mono ?_); rintro e w' ⟨n, rfl, rfl⟩; rw [h7]) | (go_at_call 99; (with_reducible refine (finite_6 R.r7 _).mono ?_); rintro e w' ⟨n, rfl, rfl⟩; rw [h8]) | (go_at_call 99; (with_reducible refine (finite_6 R.r8 _).mono ?_); rintro e w' ⟨n, rfl, rfl⟩; rw [h9]))
    go_ret
    exact ⟨by first | rfl | (rw [e]; done) | (rw [e]; rfl) | (simp [e]; exact h2) | (simp [e]; done), by repeat (first | exact bl_refl _ | assumption | apply bl_drewN | apply bl_drew | apply bl_alloc | refine bl_set ?_ (by simp <;> omega) | refine bl_trans ?_ (by assumption))⟩
  cases h10 : finK .f64 R.r11
  · have h2b : (R.ra == R.rb) = false := by simp [h2]
    have e : mayB R = false := by simp [mayB, h0, h1, h2, h3, h4, h5, h6, h7, h8, h9, h10]
    go_enter Try.func87, Try.ntmps87
    go_wp2_with (first | (go_at_call 136; (with_reducible refine (vFinite_any R.r2 R.r3 _).mono ?_); rintro e w' ⟨rfl, hb⟩; rw [h5]; (first | have B := bl_trans B hb | have B := bl_trans (by repeat (first | exact B | apply bl_drewN)) hb | have B := bl_trans (by repeat (first | exact B | apply bl_drewN | apply bl_drew | apply bl_alloc | refine bl_set ?_ (by simp <;> omega))) hb | have B := hb); (try clear hc hf hz); obtain ⟨hc, hf⟩ := bcell B; have hz := B.size; (try simp at hz)) | (go_at_call 136; (with_reducible refine (vFinite_any R.r4 R.r5 _).mono ?_); rintro e w' ⟨rfl, hb⟩; rw [h6]; (first | have B := bl_trans B hb | have B := bl_trans (by repeat (first | exact B | apply bl_drewN)) hb | have B := bl_trans (by repeat (first | exact B | apply bl_drewN | apply bl_drew | apply bl_alloc | refine bl_set ?_ (by simp <;> omega))) hb | have B := hb); (try clear hc hf hz); obtain ⟨hc, hf⟩ := bcell B; have hz := B.size; (try simp at hz)) | (go_at_call 99; (with_reducible refine (finite_6 R.r6 _).mono ?_); rintro e w' ⟨n, rfl, rfl⟩; rw [h7]) | (go_at_call 99; (with_reducible refine (finite_6 R.r7 _).mono ?_); rintro e w' ⟨n, rfl, rfl⟩; rw [h8]) | (go_at_call 99; (with_reducible refine (finite_6 R.r8 _).mono ?_); rintro e w' ⟨n, rfl, rfl⟩; rw [h9]) | (go_at_call 99; (with_reducible refine (finite_6 R.r11 _).mono ?_); rintro e w' ⟨n, rfl, rfl⟩; rw [h10]))
    go_ret
    exact ⟨by first | rfl | (rw [e]; done) | (rw [e]; rfl) | (simp [e]; exact h2) | (simp [e]; done), by repeat (first | exact bl_refl _ | assumption | apply bl_drewN | apply bl_drew | apply bl_alloc | refine bl_set ?_ (by simp <;> omega) | refine bl_trans ?_ (by assumption))⟩
  cases h11 : weB R.r13
  · have h2b : (R.ra == R.rb) = false := by simp [h2]
    have e : mayB R = false := by simp [mayB, h0, h1, h2, h3, h4, h5, h6, h7, h8, h9, h10, h11]
    go_enter Try.func87, Try.ntmps87
    go_wp2_with (first | (go_at_call 136; (with_reducible refine (vFinite_any R.r2 R.r3 _).mono ?_); rintro e w' ⟨rfl, hb⟩; rw [h5]; (first | have B := bl_trans B hb | have B := bl_trans (by repeat (first | exact B | apply bl_drewN)) hb | have B := bl_trans (by repeat (first | exact B | apply bl_drewN | apply bl_drew | apply bl_alloc | refine bl_set ?_ (by simp <;> omega))) hb | have B := hb); (try clear hc hf hz); obtain ⟨hc, hf⟩ := bcell B; have hz := B.size; (try simp at hz)) | (go_at_call 136; (with_reducible refine (vFinite_any R.r4 R.r5 _).mono ?_); rintro e w' ⟨rfl, hb⟩; rw [h6]; (first | have B := bl_trans B hb | have B := bl_trans (by repeat (first | exact B | apply bl_drewN)) hb | have B := bl_trans (by repeat (first | exact B | apply bl_drewN | apply bl_drew | apply bl_alloc | refine bl_set ?_ (by simp <;> omega))) hb | have B := hb); (try clear hc hf hz); obtain ⟨hc, hf⟩ := bcell B; have hz := B.size; (try simp at hz)) | (go_at_call 99; (with_reducible refine (finite_6 R.r6 _).mono ?_); rintro e w' ⟨n, rfl, rfl⟩; rw [h7]) | (go_at_call 99; (with_reducible refine (finite_6 R.r7 _).mono ?_); rintro e w' ⟨n, rfl, rfl⟩; rw [h8]) | (go_at_call 99; (with_reducible refine (finite_6 R.r8 _).mono ?_); rintro e w' ⟨n, rfl, rfl⟩; rw [h9]) | (go_at_call 99; (with_reducible refine (finite_6 R.r11 _).mono ?_); rintro e w' ⟨n, rfl, rfl⟩; rw [h10]) | (go_at_call 137; (with_reducible refine (isWeight_w R.r13 _).mono ?_); rintro e w' ⟨rfl, hb⟩; rw [h11]; (first | have B := bl_trans B hb | have B := bl_trans (by repeat (first | exact B | apply bl_drewN)) hb | have B := bl_trans (by repeat (first | exact B | apply bl_drewN | apply bl_drew | apply bl_alloc | refine bl_set ?_ (by simp <;> omega))) hb | have B := hb); (try clear hc hf hz); obtain ⟨hc, hf⟩ := bcell B; have hz := B.size; (try simp at hz)))
    go_ret
    exact ⟨by first | rfl | (rw [e]; done) | (rw [e]; rfl) | (simp [e]; exact h2) | (simp [e]; done), by repeat (first | exact bl_refl _ | assumption | apply bl_drewN | apply bl_drew | apply bl_alloc | refine bl_set ?_ (by simp <;> omega) | refine bl_trans ?_ (by assumption))⟩
  have h2b : (R.ra == R.rb) = false := by simp [h2]
  have e : mayB R = true := by simp [mayB, h0, h1, h2, h3, h4, h5, h6, h7, h8, h9, h10, h11]
  go_enter Try.func87, Try.ntmps87
  go_wp2_with (first | (go_at_call 136; (with_reducible refine (vFinite_any R.r2 R.r3 _).mono ?_); rintro e w' ⟨rfl, hb⟩; rw [h5]; (first | have B := bl_trans B hb | have B := bl_trans (by repeat (first | exact B | apply bl_drewN)) hb | have B := bl_trans (by repeat (first | exact B | apply bl_drewN | apply bl_drew | apply bl_alloc | refine bl_set ?_ (by simp <;> omega))) hb | have B := hb); (try clear hc hf hz); obtain ⟨hc, hf⟩ := bcell B; have hz := B.size; (try simp at hz)) | (go_at_call 136; (with_reducible refine (vFinite_any R.r4 R.r5 _).mono ?_); rintro e w' ⟨rfl, hb⟩; rw [h6]; (first | have B := bl_trans B hb | have B := bl_trans (by repeat (first | exact B | apply bl_drewN)) hb | have B := bl_trans (by repeat (first | exact B | apply bl_drewN | apply bl_drew | apply bl_alloc | refine bl_set ?_ (by simp <;> omega))) hb | have B := hb); (try clear hc hf hz); obtain ⟨hc, hf⟩ := bcell B; have hz := B.size; (try simp at hz)) | (go_at_call 99; (with_reducible refine (finite_6 R.r6 _).mono ?_); rintro e w' ⟨n, rfl, rfl⟩; rw [h7]) | (go_at_call 99; (with_reducible refine (finite_6 R.r7 _).mono ?_); rintro e w' ⟨n, rfl, rfl⟩; rw [h8]) | (go_at_call 99; (with_reducible refine (finite_6 R.r8 _).mono ?_); rintro e w' ⟨n, rfl, rfl⟩; rw [h9]) | (go_at_call 99; (with_reducible refine (finite_6 R.r11 _).mono ?_); rintro e w' ⟨n, rfl, rfl⟩; rw [h10]) | (go_at_call 137; (with_reducible refine (isWeight_w R.r13 _).mono ?_); rintro e w' ⟨rfl, hb⟩; rw [h11]; (first | have B := bl_trans B hb | have B := bl_trans (by repeat (first | exact B | apply bl_drewN)) hb | have B := bl_trans (by repeat (first | exact B | apply bl_drewN | apply bl_drew | apply bl_alloc | refine bl_set ?_ (by simp <;> omega))) hb | have B := hb); (try clear hc hf hz); obtain ⟨hc, hf⟩ := bcell B; have hz := B.size; (try simp at hz)))
  go_ret
  exact ⟨by first | rfl | (rw [e]; done) | (rw [e]; rfl) | (simp [e]; exact h2) | (simp [e]; done), by repeat (first | exact bl_refl _ | assumption | apply bl_drewN | apply bl_drew | apply bl_alloc | refine bl_set ?_ (by simp <;> omega) | refine bl_trans ?_ (by assumption))⟩


end Go.Proofs.Ytfohggiehbplkaa
