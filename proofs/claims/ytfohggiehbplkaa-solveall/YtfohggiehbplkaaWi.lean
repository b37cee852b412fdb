/-
  What each function of package poly answers, and what the reference of its chapter answers: one contract a function, for every float: the answer stands in the relation of its formula to what was given; of the memory that was there nothing has turned.
-/
import Derived.Test.YtfohggiehbplkaaVec
import Derived.Test.YtfohggiehbplkaaWh
import Derived.Below
import Derived.WalkKit
import Derived.WalkLawsBesides
import Derived.WalkSpells
import Derived.ProofKit
import Derived.OpenShut
import Derived.Deep.RegionHeld3
namespace Go.Proofs.Ytfohggiehbplkaa
open Go.ChangeShapes Go.WideShapes Go.ChangeAt Go.RowKit
set_option linter.unusedVariables false
set_option linter.unusedSimpArgs false


def f7B (R : RD) : Bool := ((finK .f64 R.r2 && finK .f64 R.r3) && (finK .f64 R.r4 && finK .f64 R.r5)) && ((finK .f64 R.r6 && finK .f64 R.r7) && (finK .f64 R.r8 && (finK .f64 R.r11 && finK .f64 R.r13)))
theorem f7_no {R : RD} (h : f7B R = false) : mayB R = false := by
 cases g : mayB R
 ·rfl
 ·unfold mayB weB at g
  simp only [Bool.and_eq_true] at g
  unfold f7B at h
  simp [g] at h
theorem f7_yes {R : RD} (h : f7B R = true) : mayB R = (decide (0 ≤ R.ra) && (decide (0 ≤ R.rb) && (decide (R.ra ≠ R.rb) && (leK .f64 0 R.r13 && (leK .f64 R.r9 R.r10 && decide (-1 ≤ R.ro)))))) := by
 unfold f7B at h
 simp only [Bool.and_eq_true] at h
 unfold mayB weB
 rw [Bool.eq_iff_iff]
 simp only [Bool.and_eq_true, h, true_and, and_true, and_self]
 constructor
 ·rintro ⟨a, b, c, d, e, f⟩; exact ⟨a, b, c, f, e, d⟩
 ·rintro ⟨a, b, c, f, e, d⟩; exact ⟨a, b, c, d, e, f⟩

set_option maxRecDepth 100000 in
set_option maxHeartbeats 4000000 in
theorem rmay_y (R : RD) (w : World) (h7 : f7B R = true) : Calls Try.prog 146 #[.agg #[.int .i64 R.ra, .int .i64 R.rb, .float .f64 R.r2, .float .f64 R.r3, .float .f64 R.r4, .float .f64 R.r5, .float .f64 R.r6, .float .f64 R.r7, .float .f64 R.r8, .float .f64 R.r9, .float .f64 R.r10, .float .f64 R.r11, .int .i64 R.ro, .float .f64 R.r13]] w fun e w' => e = .returned (.bool (mayB R)) ∧ Bel w w' := by
 have c1 := cmp_le .f64
 have c2 := cmp_ge .f64
 have g0 : (finK .f64 R.r2 && finK .f64 R.r3) = true := by unfold f7B at h7; simp only [Bool.and_eq_true] at h7; simp [h7]
 have g1 : (finK .f64 R.r4 && finK .f64 R.r5) = true := by unfold f7B at h7; simp only [Bool.and_eq_true] at h7; simp [h7]
 have g2 : finK .f64 R.r6 = true := by unfold f7B at h7; simp only [Bool.and_eq_true] at h7; simp [h7]
 have g3 : finK .f64 R.r7 = true := by unfold f7B at h7; simp only [Bool.and_eq_true] at h7; simp [h7]
 have g4 : finK .f64 R.r8 = true := by unfold f7B at h7; simp only [Bool.and_eq_true] at h7; simp [h7]
 have g5 : finK .f64 R.r11 = true := by unfold f7B at h7; simp only [Bool.and_eq_true] at h7; simp [h7]
 have g6 : finK .f64 R.r13 = true := by unfold f7B at h7; simp only [Bool.and_eq_true] at h7; simp [h7]
 have z0_0 : (w.alloc (.cells #[.int .i64 R.ra, .int .i64 R.rb, .float .f64 R.r2, .float .f64 R.r3, .float .f64 R.r4, .float .f64 R.r5, .float .f64 R.r6, .float .f64 R.r7, .float .f64 R.r8, .float .f64 R.r9, .float .f64 R.r10, .float .f64 R.r11, .int .i64 R.ro, .float .f64 R.r13] 43)).cell? ⟨w.heap.size, 0, none⟩ = some (.int .i64 R.ra) := by rw [World.cell?_alloc_new]; rfl
 have z0_1 : (w.alloc (.cells #[.int .i64 R.ra, .int .i64 R.rb, .float .f64 R.r2, .float .f64 R.r3, .float .f64 R.r4, .float .f64 R.r5, .float .f64 R.r6, .float .f64 R.r7, .float .f64 R.r8, .float .f64 R.r9, .float .f64 R.r10, .float .f64 R.r11, .int .i64 R.ro, .float .f64 R.r13] 43)).cell? ⟨w.heap.size, 1, none⟩ = some (.int .i64 R.rb) := by rw [World.cell?_alloc_new]; rfl
 have z0_2 : (w.alloc (.cells #[.int .i64 R.ra, .int .i64 R.rb, .float .f64 R.r2, .float .f64 R.r3, .float .f64 R.r4, .float .f64 R.r5, .float .f64 R.r6, .float .f64 R.r7, .float .f64 R.r8, .float .f64 R.r9, .float .f64 R.r10, .float .f64 R.r11, .int .i64 R.ro, .float .f64 R.r13] 43)).cell? ⟨w.heap.size, 2, none⟩ = some (.float .f64 R.r2) := by rw [World.cell?_alloc_new]; rfl
 have z0_3 : (w.alloc (.cells #[.int .i64 R.ra, .int .i64 R.rb, .float .f64 R.r2, .float .f64 R.r3, .float .f64 R.r4, .float .f64 R.r5, .float .f64 R.r6, .float .f64 R.r7, .float .f64 R.r8, .float .f64 R.r9, .float .f64 R.r10, .float .f64 R.r11, .int .i64 R.ro, .float .f64 R.r13] 43)).cell? ⟨w.heap.size, 3, none⟩ = some (.float .f64 R.r3) := by rw [World.cell?_alloc_new]; rfl
 have z0_4 : (w.alloc (.cells #[.int .i64 R.ra, .int .i64 R.rb, .float .f64 R.r2, .float .f64 R.r3, .float .f64 R.r4, .float .f64 R.r5, .float .f64 R.r6, .float .f64 R.r7, .float .f64 R.r8, .float .f64 R.r9, .float .f64 R.r10, .float .f64 R.r11, .int .i64 R.ro, .float .f64 R.r13] 43)).cell? ⟨w.heap.size, 4, none⟩ = some (.float .f64 R.r4) := by rw [World.cell?_alloc_new]; rfl
 have z0_5 : (w.alloc (.cells #[.int .i64 R.ra, .int .i64 R.rb, .float .f64 R.r2, .float .f64 R.r3, .float .f64 R.r4, .float .f64 R.r5, .float .f64 R.r6, .float .f64 R.r7, .float .f64 R.r8, .float .f64 R.r9, .float .f64 R.r10, .float .f64 R.r11, .int .i64 R.ro, .float .f64 R.r13] 43)).cell? ⟨w.heap.size, 5, none⟩ = some (.float .f64 R.r5) := by rw [World.cell?_alloc_new]; rfl
 have z0_6 : (w.alloc (.cells #[.int .i64 R.ra, .int .i64 R.rb, .float .f64 R.r2, .float .f64 R.r3, .float .f64 R.r4, .float .f64 R.r5, .float .f64 R.r6, .float .f64 R.r7, .float .f64 R.r8, .float .f64 R.r9, .float .f64 R.r10, .float .f64 R.r11, .int .i64 R.ro, .float .f64 R.r13] 43)).cell? ⟨w.heap.size, 6, none⟩ = some (.float .f64 R.r6) := by rw [World.cell?_alloc_new]; rfl
 have z0_7 : (w.alloc (.cells #[.int .i64 R.ra, .int .i64 R.rb, .float .f64 R.r2, .float .f64 R.r3, .float .f64 R.r4, .float .f64 R.r5, .float .f64 R.r6, .float .f64 R.r7, .float .f64 R.r8, .float .f64 R.r9, .float .f64 R.r10, .float .f64 R.r11, .int .i64 R.ro, .float .f64 R.r13] 43)).cell? ⟨w.heap.size, 7, none⟩ = some (.float .f64 R.r7) := by rw [World.cell?_alloc_new]; rfl
 have z0_8 : (w.alloc (.cells #[.int .i64 R.ra, .int .i64 R.rb, .float .f64 R.r2, .float .f64 R.r3, .float .f64 R.r4, .float .f64 R.r5, .float .f64 R.r6, .float .f64 R.r7, .float .f64 R.r8, .float .f64 R.r9, .float .f64 R.r10, .float .f64 R.r11, .int .i64 R.ro, .float .f64 R.r13] 43)).cell? ⟨w.heap.size, 8, none⟩ = some (.float .f64 R.r8) := by rw [World.cell?_alloc_new]; rfl
 have z0_9 : (w.alloc (.cells #[.int .i64 R.ra, .int .i64 R.rb, .float .f64 R.r2, .float .f64 R.r3, .float .f64 R.r4, .float .f64 R.r5, .float .f64 R.r6, .float .f64 R.r7, .float .f64 R.r8, .float .f64 R.r9, .float .f64 R.r10, .float .f64 R.r11, .int .i64 R.ro, .float .f64 R.r13] 43)).cell? ⟨w.heap.size, 9, none⟩ = some (.float .f64 R.r9) := by rw [World.cell?_alloc_new]; rfl
 have z0_10 : (w.alloc (.cells #[.int .i64 R.ra, .int .i64 R.rb, .float .f64 R.r2, .float .f64 R.r3, .float .f64 R.r4, .float .f64 R.r5, .float .f64 R.r6, .float .f64 R.r7, .float .f64 R.r8, .float .f64 R.r9, .float .f64 R.r10, .float .f64 R.r11, .int .i64 R.ro, .float .f64 R.r13] 43)).cell? ⟨w.heap.size, 10, none⟩ = some (.float .f64 R.r10) := by rw [World.cell?_alloc_new]; rfl
 have z0_11 : (w.alloc (.cells #[.int .i64 R.ra, .int .i64 R.rb, .float .f64 R.r2, .float .f64 R.r3, .float .f64 R.r4, .float .f64 R.r5, .float .f64 R.r6, .float .f64 R.r7, .float .f64 R.r8, .float .f64 R.r9, .float .f64 R.r10, .float .f64 R.r11, .int .i64 R.ro, .float .f64 R.r13] 43)).cell? ⟨w.heap.size, 11, none⟩ = some (.float .f64 R.r11) := by rw [World.cell?_alloc_new]; rfl
 have z0_12 : (w.alloc (.cells #[.int .i64 R.ra, .int .i64 R.rb, .float .f64 R.r2, .float .f64 R.r3, .float .f64 R.r4, .float .f64 R.r5, .float .f64 R.r6, .float .f64 R.r7, .float .f64 R.r8, .float .f64 R.r9, .float .f64 R.r10, .float .f64 R.r11, .int .i64 R.ro, .float .f64 R.r13] 43)).cell? ⟨w.heap.size, 12, none⟩ = some (.int .i64 R.ro) := by rw [World.cell?_alloc_new]; rfl
 have z0_13 : (w.alloc (.cells #[.int .i64 R.ra, .int .i64 R.rb, .float .f64 R.r2, .float .f64 R.r3, .float .f64 R.r4, .float .f64 R.r5, .float .f64 R.r6, .float .f64 R.r7, .float .f64 R.r8, .float .f64 R.r9, .float .f64 R.r10, .float .f64 R.r11, .int .i64 R.ro, .float .f64 R.r13] 43)).cell? ⟨w.heap.size, 13, none⟩ = some (.float .f64 R.r13) := by rw [World.cell?_alloc_new]; rfl
 have B0 : Bel w (w.alloc (.cells #[.int .i64 R.ra, .int .i64 R.rb, .float .f64 R.r2, .float .f64 R.r3, .float .f64 R.r4, .float .f64 R.r5, .float .f64 R.r6, .float .f64 R.r7, .float .f64 R.r8, .float .f64 R.r9, .float .f64 R.r10, .float .f64 R.r11, .int .i64 R.ro, .float .f64 R.r13] 43)) := bl_alloc (bl_refl w) _ _
 by_cases h0 : 0 ≤ R.ra
 rotate_left
 ·have e : mayB R = false := by rw [f7_yes h7]; rw [decide_eq_false h0]; simp
  go_enter Try.func146, Try.ntmps146
  go_wp2_with (first | (go_at_call 153; (with_reducible refine (rFinite_any R.r2 R.r3 _).mono ?_); rintro e w' ⟨rfl, hb⟩; (first | have B := bl_trans B hb | have B := bl_trans (by repeat (first | exact B | apply bl_drewN)) hb | have B := bl_trans (by repeat (first | exact B | apply bl_drewN | apply bl_drew | apply bl_alloc | refine bl_set ?_ (by simp <;> omega))) hb | have B := hb); (try clear hc hf hz); obtain ⟨hc, hf⟩ := bcell B; have hz := B.size; (try simp at hz); rw [g0]) | (go_at_call 153; (with_reducible refine (rFinite_any R.r4 R.r5 _).mono ?_); rintro e w' ⟨rfl, hb⟩; (first | have B := bl_trans B hb | have B := bl_trans (by repeat (first | exact B | apply bl_drewN)) hb | have B := bl_trans (by repeat (first | exact B | apply bl_drewN | apply bl_drew | apply bl_alloc | refine bl_set ?_ (by simp <;> omega))) hb | have B := hb); (try clear hc hf hz); obtain ⟨hc, hf⟩ := bcell B; have hz := B.size; (try simp at hz); rw [g1]) | (go_at_call 127; (with_reducible refine (rEnd_any R.r6 _).mono ?_); rintro e w' ⟨n, rfl, rfl⟩; rw [g2]) | (go_at_call 127; (with_reducible refine (rEnd_any R.r7 _).mono ?_); rintro e w' ⟨n, rfl, rfl⟩; rw [g3]) | (go_at_call 127; (with_reducible refine (rEnd_any R.r8 _).mono ?_); rintro e w' ⟨n, rfl, rfl⟩; rw [g4]) | (go_at_call 127; (with_reducible refine (rEnd_any R.r11 _).mono ?_); rintro e w' ⟨n, rfl, rfl⟩; rw [g5]) | (go_at_call 127; (with_reducible refine (rEnd_any R.r13 _).mono ?_); rintro e w' ⟨n, rfl, rfl⟩; rw [g6]))
  go_ret
  exact ⟨by first | rfl | (rw [e]; done) | (rw [e]; rfl) | (simp [e]; omega) | (simp [e]; done), by repeat (first | exact bl_refl _ | assumption | apply bl_drewN | apply bl_drew | apply bl_alloc | refine bl_set ?_ (by simp <;> omega) | refine bl_trans ?_ (by assumption))⟩
 by_cases h1 : 0 ≤ R.rb
 rotate_left
 ·have e : mayB R = false := by rw [f7_yes h7]; rw [decide_eq_false h1]; simp
  go_enter Try.func146, Try.ntmps146
  go_wp2_with (first | (go_at_call 153; (with_reducible refine (rFinite_any R.r2 R.r3 _).mono ?_); rintro e w' ⟨rfl, hb⟩; (first | have B := bl_trans B hb | have B := bl_trans (by repeat (first | exact B | apply bl_drewN)) hb | have B := bl_trans (by repeat (first | exact B | apply bl_drewN | apply bl_drew | apply bl_alloc | refine bl_set ?_ (by simp <;> omega))) hb | have B := hb); (try clear hc hf hz); obtain ⟨hc, hf⟩ := bcell B; have hz := B.size; (try simp at hz); rw [g0]) | (go_at_call 153; (with_reducible refine (rFinite_any R.r4 R.r5 _).mono ?_); rintro e w' ⟨rfl, hb⟩; (first | have B := bl_trans B hb | have B := bl_trans (by repeat (first | exact B | apply bl_drewN)) hb | have B := bl_trans (by repeat (first | exact B | apply bl_drewN | apply bl_drew | apply bl_alloc | refine bl_set ?_ (by simp <;> omega))) hb | have B := hb); (try clear hc hf hz); obtain ⟨hc, hf⟩ := bcell B; have hz := B.size; (try simp at hz); rw [g1]) | (go_at_call 127; (with_reducible refine (rEnd_any R.r6 _).mono ?_); rintro e w' ⟨n, rfl, rfl⟩; rw [g2]) | (go_at_call 127; (with_reducible refine (rEnd_any R.r7 _).mono ?_); rintro e w' ⟨n, rfl, rfl⟩; rw [g3]) | (go_at_call 127; (with_reducible refine (rEnd_any R.r8 _).mono ?_); rintro e w' ⟨n, rfl, rfl⟩; rw [g4]) | (go_at_call 127; (with_reducible refine (rEnd_any R.r11 _).mono ?_); rintro e w' ⟨n, rfl, rfl⟩; rw [g5]) | (go_at_call 127; (with_reducible refine (rEnd_any R.r13 _).mono ?_); rintro e w' ⟨n, rfl, rfl⟩; rw [g6]))
  go_ret
  exact ⟨by first | rfl | (rw [e]; done) | (rw [e]; rfl) | (simp [e]; omega) | (simp [e]; done), by repeat (first | exact bl_refl _ | assumption | apply bl_drewN | apply bl_drew | apply bl_alloc | refine bl_set ?_ (by simp <;> omega) | refine bl_trans ?_ (by assumption))⟩
 by_cases h2 : R.ra ≠ R.rb
 rotate_left
 ·have h2e := Decidable.not_not.1 h2
  have h2b : (R.ra == R.rb) = true := by simp [h2e]
  have e : mayB R = false := by rw [f7_yes h7]; rw [decide_eq_false h2]; simp
  go_enter Try.func146, Try.ntmps146
  go_wp2_with (first | (go_at_call 153; (with_reducible refine (rFinite_any R.r2 R.r3 _).mono ?_); rintro e w' ⟨rfl, hb⟩; (first | have B := bl_trans B hb | have B := bl_trans (by repeat (first | exact B | apply bl_drewN)) hb | have B := bl_trans (by repeat (first | exact B | apply bl_drewN | apply bl_drew | apply bl_alloc | refine bl_set ?_ (by simp <;> omega))) hb | have B := hb); (try clear hc hf hz); obtain ⟨hc, hf⟩ := bcell B; have hz := B.size; (try simp at hz); rw [g0]) | (go_at_call 153; (with_reducible refine (rFinite_any R.r4 R.r5 _).mono ?_); rintro e w' ⟨rfl, hb⟩; (first | have B := bl_trans B hb | have B := bl_trans (by repeat (first | exact B | apply bl_drewN)) hb | have B := bl_trans (by repeat (first | exact B | apply bl_drewN | apply bl_drew | apply bl_alloc | refine bl_set ?_ (by simp <;> omega))) hb | have B := hb); (try clear hc hf hz); obtain ⟨hc, hf⟩ := bcell B; have hz := B.size; (try simp at hz); rw [g1]) | (go_at_call 127; (with_reducible refine (rEnd_any R.r6 _).mono ?_); rintro e w' ⟨n, rfl, rfl⟩; rw [g2]) | (go_at_call 127; (with_reducible refine (rEnd_any R.r7 _).mono ?_); rintro e w' ⟨n, rfl, rfl⟩; rw [g3]) | (go_at_call 127; (with_reducible refine (rEnd_any R.r8 _).mono ?_); rintro e w' ⟨n, rfl, rfl⟩; rw [g4]) | (go_at_call 127; (with_reducible refine (rEnd_any R.r11 _).mono ?_); rintro e w' ⟨n, rfl, rfl⟩; rw [g5]) | (go_at_call 127; (with_reducible refine (rEnd_any R.r13 _).mono ?_); rintro e w' ⟨n, rfl, rfl⟩; rw [g6]))
  go_ret
  exact ⟨by first | rfl | (rw [e]; done) | (rw [e]; rfl) | (simp [e]; omega) | (simp [e]; done), by repeat (first | exact bl_refl _ | assumption | apply bl_drewN | apply bl_drew | apply bl_alloc | refine bl_set ?_ (by simp <;> omega) | refine bl_trans ?_ (by assumption))⟩
 cases h3 : leK .f64 0 R.r13
 ·have h2b : (R.ra == R.rb) = false := by simp [h2]
  have e : mayB R = false := by rw [f7_yes h7]; simp [h0, h1, h2, h3]
  go_enter Try.func146, Try.ntmps146
  go_wp2_with (first | (go_at_call 153; (with_reducible refine (rFinite_any R.r2 R.r3 _).mono ?_); rintro e w' ⟨rfl, hb⟩; (first | have B := bl_trans B hb | have B := bl_trans (by repeat (first | exact B | apply bl_drewN)) hb | have B := bl_trans (by repeat (first | exact B | apply bl_drewN | apply bl_drew | apply bl_alloc | refine bl_set ?_ (by simp <;> omega))) hb | have B := hb); (try clear hc hf hz); obtain ⟨hc, hf⟩ := bcell B; have hz := B.size; (try simp at hz); rw [g0]) | (go_at_call 153; (with_reducible refine (rFinite_any R.r4 R.r5 _).mono ?_); rintro e w' ⟨rfl, hb⟩; (first | have B := bl_trans B hb | have B := bl_trans (by repeat (first | exact B | apply bl_drewN)) hb | have B := bl_trans (by repeat (first | exact B | apply bl_drewN | apply bl_drew | apply bl_alloc | refine bl_set ?_ (by simp <;> omega))) hb | have B := hb); (try clear hc hf hz); obtain ⟨hc, hf⟩ := bcell B; have hz := B.size; (try simp at hz); rw [g1]) | (go_at_call 127; (with_reducible refine (rEnd_any R.r6 _).mono ?_); rintro e w' ⟨n, rfl, rfl⟩; rw [g2]) | (go_at_call 127; (with_reducible refine (rEnd_any R.r7 _).mono ?_); rintro e w' ⟨n, rfl, rfl⟩; rw [g3]) | (go_at_call 127; (with_reducible refine (rEnd_any R.r8 _).mono ?_); rintro e w' ⟨n, rfl, rfl⟩; rw [g4]) | (go_at_call 127; (with_reducible refine (rEnd_any R.r11 _).mono ?_); rintro e w' ⟨n, rfl, rfl⟩; rw [g5]) | (go_at_call 127; (with_reducible refine (rEnd_any R.r13 _).mono ?_); rintro e w' ⟨n, rfl, rfl⟩; rw [g6]))
  go_ret
  exact ⟨by first | rfl | (rw [e]; done) | (rw [e]; rfl) | (simp [e]; exact h2) | (simp [e]; omega) | (simp [e]; done), by repeat (first | exact bl_refl _ | assumption | apply bl_drewN | apply bl_drew | apply bl_alloc | refine bl_set ?_ (by simp <;> omega) | refine bl_trans ?_ (by assumption))⟩
 cases h4 : leK .f64 R.r9 R.r10
 ·have h2b : (R.ra == R.rb) = false := by simp [h2]
  have e : mayB R = false := by rw [f7_yes h7]; simp [h0, h1, h2, h3, h4]
  go_enter Try.func146, Try.ntmps146
  go_wp2_with (first | (go_at_call 153; (with_reducible refine (rFinite_any R.r2 R.r3 _).mono ?_); rintro e w' ⟨rfl, hb⟩; (first | have B := bl_trans B hb | have B := bl_trans (by repeat (first | exact B | apply bl_drewN)) hb | have B := bl_trans (by repeat (first | exact B | apply bl_drewN | apply bl_drew | apply bl_alloc | refine bl_set ?_ (by simp <;> omega))) hb | have B := hb); (try clear hc hf hz); obtain ⟨hc, hf⟩ := bcell B; have hz := B.size; (try simp at hz); rw [g0]) | (go_at_call 153; (with_reducible refine (rFinite_any R.r4 R.r5 _).mono ?_); rintro e w' ⟨rfl, hb⟩; (first | have B := bl_trans B hb | have B := bl_trans (by repeat (first | exact B | apply bl_drewN)) hb | have B := bl_trans (by repeat (first | exact B | apply bl_drewN | apply bl_drew | apply bl_alloc | refine bl_set ?_ (by simp <;> omega))) hb | have B := hb); (try clear hc hf hz); obtain ⟨hc, hf⟩ := bcell B; have hz := B.size; (try simp at hz); rw [g1]) | (go_at_call 127; (with_reducible refine (rEnd_any R.r6 _).mono ?_); rintro e w' ⟨n, rfl, rfl⟩; rw [g2]) | (go_at_call 127; (with_reducible refine (rEnd_any R.r7 _).mono ?_); rintro e w' ⟨n, rfl, rfl⟩; rw [g3]) | (go_at_call 127; (with_reducible refine (rEnd_any R.r8 _).mono ?_); rintro e w' ⟨n, rfl, rfl⟩; rw [g4]) | (go_at_call 127; (with_reducible refine (rEnd_any R.r11 _).mono ?_); rintro e w' ⟨n, rfl, rfl⟩; rw [g5]) | (go_at_call 127; (with_reducible refine (rEnd_any R.r13 _).mono ?_); rintro e w' ⟨n, rfl, rfl⟩; rw [g6]))
  go_ret
  exact ⟨by first | rfl | (rw [e]; done) | (rw [e]; rfl) | (simp [e]; exact h2) | (simp [e]; omega) | (simp [e]; done), by repeat (first | exact bl_refl _ | assumption | apply bl_drewN | apply bl_drew | apply bl_alloc | refine bl_set ?_ (by simp <;> omega) | refine bl_trans ?_ (by assumption))⟩
 by_cases h5 : -1 ≤ R.ro
 rotate_left
 ·have h2b : (R.ra == R.rb) = false := by simp [h2]
  have e : mayB R = false := by rw [f7_yes h7]; rw [decide_eq_false h5]; simp
  go_enter Try.func146, Try.ntmps146
  go_wp2_with (first | (go_at_call 153; (with_reducible refine (rFinite_any R.r2 R.r3 _).mono ?_); rintro e w' ⟨rfl, hb⟩; (first | have B := bl_trans B hb | have B := bl_trans (by repeat (first | exact B | apply bl_drewN)) hb | have B := bl_trans (by repeat (first | exact B | apply bl_drewN | apply bl_drew | apply bl_alloc | refine bl_set ?_ (by simp <;> omega))) hb | have B := hb); (try clear hc hf hz); obtain ⟨hc, hf⟩ := bcell B; have hz := B.size; (try simp at hz); rw [g0]) | (go_at_call 153; (with_reducible refine (rFinite_any R.r4 R.r5 _).mono ?_); rintro e w' ⟨rfl, hb⟩; (first | have B := bl_trans B hb | have B := bl_trans (by repeat (first | exact B | apply bl_drewN)) hb | have B := bl_trans (by repeat (first | exact B | apply bl_drewN | apply bl_drew | apply bl_alloc | refine bl_set ?_ (by simp <;> omega))) hb | have B := hb); (try clear hc hf hz); obtain ⟨hc, hf⟩ := bcell B; have hz := B.size; (try simp at hz); rw [g1]) | (go_at_call 127; (with_reducible refine (rEnd_any R.r6 _).mono ?_); rintro e w' ⟨n, rfl, rfl⟩; rw [g2]) | (go_at_call 127; (with_reducible refine (rEnd_any R.r7 _).mono ?_); rintro e w' ⟨n, rfl, rfl⟩; rw [g3]) | (go_at_call 127; (with_reducible refine (rEnd_any R.r8 _).mono ?_); rintro e w' ⟨n, rfl, rfl⟩; rw [g4]) | (go_at_call 127; (with_reducible refine (rEnd_any R.r11 _).mono ?_); rintro e w' ⟨n, rfl, rfl⟩; rw [g5]) | (go_at_call 127; (with_reducible refine (rEnd_any R.r13 _).mono ?_); rintro e w' ⟨n, rfl, rfl⟩; rw [g6]))
  go_ret
  exact ⟨by first | rfl | (rw [e]; done) | (rw [e]; rfl) | (simp [e]; exact h2) | (simp [e]; omega) | (simp [e]; done), by repeat (first | exact bl_refl _ | assumption | apply bl_drewN | apply bl_drew | apply bl_alloc | refine bl_set ?_ (by simp <;> omega) | refine bl_trans ?_ (by assumption))⟩
 have h2b : (R.ra == R.rb) = false := by simp [h2]
 have e : mayB R = true := by rw [f7_yes h7]; simp [h0, h1, h2, h3, h4, h5]
 go_enter Try.func146, Try.ntmps146
 go_wp2_with (first | (go_at_call 153; (with_reducible refine (rFinite_any R.r2 R.r3 _).mono ?_); rintro e w' ⟨rfl, hb⟩; (first | have B := bl_trans B hb | have B := bl_trans (by repeat (first | exact B | apply bl_drewN)) hb | have B := bl_trans (by repeat (first | exact B | apply bl_drewN | apply bl_drew | apply bl_alloc | refine bl_set ?_ (by simp <;> omega))) hb | have B := hb); (try clear hc hf hz); obtain ⟨hc, hf⟩ := bcell B; have hz := B.size; (try simp at hz); rw [g0]) | (go_at_call 153; (with_reducible refine (rFinite_any R.r4 R.r5 _).mono ?_); rintro e w' ⟨rfl, hb⟩; (first | have B := bl_trans B hb | have B := bl_trans (by repeat (first | exact B | apply bl_drewN)) hb | have B := bl_trans (by repeat (first | exact B | apply bl_drewN | apply bl_drew | apply bl_alloc | refine bl_set ?_ (by simp <;> omega))) hb | have B := hb); (try clear hc hf hz); obtain ⟨hc, hf⟩ := bcell B; have hz := B.size; (try simp at hz); rw [g1]) | (go_at_call 127; (with_reducible refine (rEnd_any R.r6 _).mono ?_); rintro e w' ⟨n, rfl, rfl⟩; rw [g2]) | (go_at_call 127; (with_reducible refine (rEnd_any R.r7 _).mono ?_); rintro e w' ⟨n, rfl, rfl⟩; rw [g3]) | (go_at_call 127; (with_reducible refine (rEnd_any R.r8 _).mono ?_); rintro e w' ⟨n, rfl, rfl⟩; rw [g4]) | (go_at_call 127; (with_reducible refine (rEnd_any R.r11 _).mono ?_); rintro e w' ⟨n, rfl, rfl⟩; rw [g5]) | (go_at_call 127; (with_reducible refine (rEnd_any R.r13 _).mono ?_); rintro e w' ⟨n, rfl, rfl⟩; rw [g6]))
 go_ret
 exact ⟨by first | rfl | (rw [e]; done) | (rw [e]; rfl) | (simp [e]; exact h2) | (simp [e]; omega) | (simp [e]; done), by repeat (first | exact bl_refl _ | assumption | apply bl_drewN | apply bl_drew | apply bl_alloc | refine bl_set ?_ (by simp <;> omega) | refine bl_trans ?_ (by assumption))⟩

set_option maxRecDepth 100000 in
set_option maxHeartbeats 8000000 in
theorem rmay_n (R : RD) (w : World) (h7 : f7B R = false) : Calls Try.prog 146 #[.agg #[.int .i64 R.ra, .int .i64 R.rb, .float .f64 R.r2, .float .f64 R.r3, .float .f64 R.r4, .float .f64 R.r5, .float .f64 R.r6, .float .f64 R.r7, .float .f64 R.r8, .float .f64 R.r9, .float .f64 R.r10, .float .f64 R.r11, .int .i64 R.ro, .float .f64 R.r13]] w fun e w' => e = .returned (.bool (mayB R)) ∧ Bel w w' := by
 have e := f7_no h7
 have z0_0 : (w.alloc (.cells #[.int .i64 R.ra, .int .i64 R.rb, .float .f64 R.r2, .float .f64 R.r3, .float .f64 R.r4, .float .f64 R.r5, .float .f64 R.r6, .float .f64 R.r7, .float .f64 R.r8, .float .f64 R.r9, .float .f64 R.r10, .float .f64 R.r11, .int .i64 R.ro, .float .f64 R.r13] 43)).cell? ⟨w.heap.size, 0, none⟩ = some (.int .i64 R.ra) := by rw [World.cell?_alloc_new]; rfl
 have z0_1 : (w.alloc (.cells #[.int .i64 R.ra, .int .i64 R.rb, .float .f64 R.r2, .float .f64 R.r3, .float .f64 R.r4, .float .f64 R.r5, .float .f64 R.r6, .float .f64 R.r7, .float .f64 R.r8, .float .f64 R.r9, .float .f64 R.r10, .float .f64 R.r11, .int .i64 R.ro, .float .f64 R.r13] 43)).cell? ⟨w.heap.size, 1, none⟩ = some (.int .i64 R.rb) := by rw [World.cell?_alloc_new]; rfl
 have z0_2 : (w.alloc (.cells #[.int .i64 R.ra, .int .i64 R.rb, .float .f64 R.r2, .float .f64 R.r3, .float .f64 R.r4, .float .f64 R.r5, .float .f64 R.r6, .float .f64 R.r7, .float .f64 R.r8, .float .f64 R.r9, .float .f64 R.r10, .float .f64 R.r11, .int .i64 R.ro, .float .f64 R.r13] 43)).cell? ⟨w.heap.size, 2, none⟩ = some (.float .f64 R.r2) := by rw [World.cell?_alloc_new]; rfl
 have z0_3 : (w.alloc (.cells #[.int .i64 R.ra, .int .i64 R.rb, .float .f64 R.r2, .float .f64 R.r3, .float .f64 R.r4, .float .f64 R.r5, .float .f64 R.r6, .float .f64 R.r7, .float .f64 R.r8, .float .f64 R.r9, .float .f64 R.r10, .float .f64 R.r11, .int .i64 R.ro, .float .f64 R.r13] 43)).cell? ⟨w.heap.size, 3, none⟩ = some (.float .f64 R.r3) := by rw [World.cell?_alloc_new]; rfl
 have z0_4 : (w.alloc (.cells #[.int .i64 R.ra, .int .i64 R.rb, .float .f64 R.r2, .float .f64 R.r3, .float .f64 R.r4, .float .f64 R.r5, .float .f64 R.r6, .float .f64 R.r7, .float .f64 R.r8, .float .f64 R.r9, .float .f64 R.r10, .float .f64 R.r11, .int .i64 R.ro, .float .f64 R.r13] 43)).cell? ⟨w.heap.size, 4, none⟩ = some (.float .f64 R.r4) := by rw [World.cell?_alloc_new]; rfl
 have z0_5 : (w.alloc (.cells #[.int .i64 R.ra, .int .i64 R.rb, .float .f64 R.r2, .float .f64 R.r3, .float .f64 R.r4, .float .f64 R.r5, .float .f64 R.r6, .float .f64 R.r7, .float .f64 R.r8, .float .f64 R.r9, .float .f64 R.r10, .float .f64 R.r11, .int .i64 R.ro, .float .f64 R.r13] 43)).cell? ⟨w.heap.size, 5, none⟩ = some (.float .f64 R.r5) := by rw [World.cell?_alloc_new]; rfl
 have z0_6 : (w.alloc (.cells #[.int .i64 R.ra, .int .i64 R.rb, .float .f64 R.r2, .float .f64 R.r3, .float .f64 R.r4, .float .f64 R.r5, .float .f64 R.r6, .float .f64 R.r7, .float .f64 R.r8, .float .f64 R.r9, .float .f64 R.r10, .float .f64 R.r11, .int .i64 R.ro, .float .f64 R.r13] 43)).cell? ⟨w.heap.size, 6, none⟩ = some (.float .f64 R.r6) := by rw [World.cell?_alloc_new]; rfl
 have z0_7 : (w.alloc (.cells #[.int .i64 R.ra, .int .i64 R.rb, .float .f64 R.r2, .float .f64 R.r3, .float .f64 R.r4, .float .f64 R.r5, .float .f64 R.r6, .float .f64 R.r7, .float .f64 R.r8, .float .f64 R.r9, .float .f64 R.r10, .float .f64 R.r11, .int .i64 R.ro, .float .f64 R.r13] 43)).cell? ⟨w.heap.size, 7, none⟩ = some (.float .f64 R.r7) := by rw [World.cell?_alloc_new]; rfl
 have z0_8 : (w.alloc (.cells #[.int .i64 R.ra, .int .i64 R.rb, .float .f64 R.r2, .float .f64 R.r3, .float .f64 R.r4, .float .f64 R.r5, .float .f64 R.r6, .float .f64 R.r7, .float .f64 R.r8, .float .f64 R.r9, .float .f64 R.r10, .float .f64 R.r11, .int .i64 R.ro, .float .f64 R.r13] 43)).cell? ⟨w.heap.size, 8, none⟩ = some (.float .f64 R.r8) := by rw [World.cell?_alloc_new]; rfl
 have z0_9 : (w.alloc (.cells #[.int .i64 R.ra, .int .i64 R.rb, .float .f64 R.r2, .float .f64 R.r3, .float .f64 R.r4, .float .f64 R.r5, .float .f64 R.r6, .float .f64 R.r7, .float .f64 R.r8, .float .f64 R.r9, .float .f64 R.r10, .float .f64 R.r11, .int .i64 R.ro, .float .f64 R.r13] 43)).cell? ⟨w.heap.size, 9, none⟩ = some (.float .f64 R.r9) := by rw [World.cell?_alloc_new]; rfl
 have z0_10 : (w.alloc (.cells #[.int .i64 R.ra, .int .i64 R.rb, .float .f64 R.r2, .float .f64 R.r3, .float .f64 R.r4, .float .f64 R.r5, .float .f64 R.r6, .float .f64 R.r7, .float .f64 R.r8, .float .f64 R.r9, .float .f64 R.r10, .float .f64 R.r11, .int .i64 R.ro, .float .f64 R.r13] 43)).cell? ⟨w.heap.size, 10, none⟩ = some (.float .f64 R.r10) := by rw [World.cell?_alloc_new]; rfl
 have z0_11 : (w.alloc (.cells #[.int .i64 R.ra, .int .i64 R.rb, .float .f64 R.r2, .float .f64 R.r3, .float .f64 R.r4, .float .f64 R.r5, .float .f64 R.r6, .float .f64 R.r7, .float .f64 R.r8, .float .f64 R.r9, .float .f64 R.r10, .float .f64 R.r11, .int .i64 R.ro, .float .f64 R.r13] 43)).cell? ⟨w.heap.size, 11, none⟩ = some (.float .f64 R.r11) := by rw [World.cell?_alloc_new]; rfl
 have z0_12 : (w.alloc (.cells #[.int .i64 R.ra, .int .i64 R.rb, .float .f64 R.r2, .float .f64 R.r3, .float .f64 R.r4, .float .f64 R.r5, .float .f64 R.r6, .float .f64 R.r7, .float .f64 R.r8, .float .f64 R.r9, .float .f64 R.r10, .float .f64 R.r11, .int .i64 R.ro, .float .f64 R.r13] 43)).cell? ⟨w.heap.size, 12, none⟩ = some (.int .i64 R.ro) := by rw [World.cell?_alloc_new]; rfl
 have z0_13 : (w.alloc (.cells #[.int .i64 R.ra, .int .i64 R.rb, .float .f64 R.r2, .float .f64 R.r3, .float .f64 R.r4, .float .f64 R.r5, .float .f64 R.r6, .float .f64 R.r7, .float .f64 R.r8, .float .f64 R.r9, .float .f64 R.r10, .float .f64 R.r11, .int .i64 R.ro, .float .f64 R.r13] 43)).cell? ⟨w.heap.size, 13, none⟩ = some (.float .f64 R.r13) := by rw [World.cell?_alloc_new]; rfl
 have B0 : Bel w (w.alloc (.cells #[.int .i64 R.ra, .int .i64 R.rb, .float .f64 R.r2, .float .f64 R.r3, .float .f64 R.r4, .float .f64 R.r5, .float .f64 R.r6, .float .f64 R.r7, .float .f64 R.r8, .float .f64 R.r9, .float .f64 R.r10, .float .f64 R.r11, .int .i64 R.ro, .float .f64 R.r13] 43)) := bl_alloc (bl_refl w) _ _
 go_enter Try.func146, Try.ntmps146
 go_wp2_with (first | (go_at_call 153; (with_reducible refine (rFinite_any R.r2 R.r3 _).mono ?_); rintro e w' ⟨rfl, hb⟩; (first | have B := bl_trans B hb | have B := bl_trans (by repeat (first | exact B | apply bl_drewN)) hb | have B := bl_trans (by repeat (first | exact B | apply bl_drewN | apply bl_drew | apply bl_alloc | refine bl_set ?_ (by simp <;> omega))) hb | have B := hb); (try clear hc hf hz); obtain ⟨hc, hf⟩ := bcell B; have hz := B.size; (try simp at hz); rcases (show (finK .f64 R.r2 && finK .f64 R.r3) = false ∨ (finK .f64 R.r2 && finK .f64 R.r3) = true by cases (finK .f64 R.r2 && finK .f64 R.r3) <;> simp) with g0 | g0 <;> rw [g0]) | (go_at_call 153; (with_reducible refine (rFinite_any R.r4 R.r5 _).mono ?_); rintro e w' ⟨rfl, hb⟩; (first | have B := bl_trans B hb | have B := bl_trans (by repeat (first | exact B | apply bl_drewN)) hb | have B := bl_trans (by repeat (first | exact B | apply bl_drewN | apply bl_drew | apply bl_alloc | refine bl_set ?_ (by simp <;> omega))) hb | have B := hb); (try clear hc hf hz); obtain ⟨hc, hf⟩ := bcell B; have hz := B.size; (try simp at hz); rcases (show (finK .f64 R.r4 && finK .f64 R.r5) = false ∨ (finK .f64 R.r4 && finK .f64 R.r5) = true by cases (finK .f64 R.r4 && finK .f64 R.r5) <;> simp) with g1 | g1 <;> rw [g1]) | (go_at_call 127; (with_reducible refine (rEnd_any R.r6 _).mono ?_); rintro e w' ⟨n, rfl, rfl⟩; rcases (show finK .f64 R.r6 = false ∨ finK .f64 R.r6 = true by cases finK .f64 R.r6 <;> simp) with g2 | g2 <;> rw [g2]) | (go_at_call 127; (with_reducible refine (rEnd_any R.r7 _).mono ?_); rintro e w' ⟨n, rfl, rfl⟩; rcases (show finK .f64 R.r7 = false ∨ finK .f64 R.r7 = true by cases finK .f64 R.r7 <;> simp) with g3 | g3 <;> rw [g3]) | (go_at_call 127; (with_reducible refine (rEnd_any R.r8 _).mono ?_); rintro e w' ⟨n, rfl, rfl⟩; rcases (show finK .f64 R.r8 = false ∨ finK .f64 R.r8 = true by cases finK .f64 R.r8 <;> simp) with g4 | g4 <;> rw [g4]) | (go_at_call 127; (with_reducible refine (rEnd_any R.r11 _).mono ?_); rintro e w' ⟨n, rfl, rfl⟩; rcases (show finK .f64 R.r11 = false ∨ finK .f64 R.r11 = true by cases finK .f64 R.r11 <;> simp) with g5 | g5 <;> rw [g5]) | (go_at_call 127; (with_reducible refine (rEnd_any R.r13 _).mono ?_); rintro e w' ⟨n, rfl, rfl⟩; rcases (show finK .f64 R.r13 = false ∨ finK .f64 R.r13 = true by cases finK .f64 R.r13 <;> simp) with g6 | g6 <;> rw [g6] <;> first | (exfalso; simp only [Bool.and_eq_true] at g0 g1 g2 g3 g4 g5 g6; simp [f7B, g0, g1, g2, g3, g4, g5, g6] at h7; done) | skip))
 all_goals
  go_ret
  exact ⟨by rw [e]; rfl, by repeat (first | exact bl_refl _ | assumption | apply bl_drewN | apply bl_drew | apply bl_alloc | refine bl_set ?_ (by simp <;> omega) | refine bl_trans ?_ (by assumption))⟩
theorem rmay_w (R : RD) (w : World) : Calls Try.prog 146 #[.agg #[.int .i64 R.ra, .int .i64 R.rb, .float .f64 R.r2, .float .f64 R.r3, .float .f64 R.r4, .float .f64 R.r5, .float .f64 R.r6, .float .f64 R.r7, .float .f64 R.r8, .float .f64 R.r9, .float .f64 R.r10, .float .f64 R.r11, .int .i64 R.ro, .float .f64 R.r13]] w fun e w' => e = .returned (.bool (mayB R)) ∧ Bel w w' := by
 cases h : f7B R
 ·exact rmay_n R w h
 ·exact rmay_y R w h

set_option maxRecDepth 100000 in
theorem rrests_w (a : SD) (w : World) : Calls Try.prog 147 #[.agg #[.float .f64 a.sm, .float .f64 a.si, .float .f64 a.sx, .float .f64 a.sy, .float .f64 a.ss]] w fun e w' => e = .returned (.bool (stB a)) ∧ Bel w w' := by
 have c2 := cmp_ge .f64
 have z0_0 : (w.alloc (.cells #[.float .f64 a.sm, .float .f64 a.si, .float .f64 a.sx, .float .f64 a.sy, .float .f64 a.ss] 45)).cell? ⟨w.heap.size, 0, none⟩ = some (.float .f64 a.sm) := by rw [World.cell?_alloc_new]; rfl
 have z0_1 : (w.alloc (.cells #[.float .f64 a.sm, .float .f64 a.si, .float .f64 a.sx, .float .f64 a.sy, .float .f64 a.ss] 45)).cell? ⟨w.heap.size, 1, none⟩ = some (.float .f64 a.si) := by rw [World.cell?_alloc_new]; rfl
 have z0_2 : (w.alloc (.cells #[.float .f64 a.sm, .float .f64 a.si, .float .f64 a.sx, .float .f64 a.sy, .float .f64 a.ss] 45)).cell? ⟨w.heap.size, 2, none⟩ = some (.float .f64 a.sx) := by rw [World.cell?_alloc_new]; rfl
 have z0_3 : (w.alloc (.cells #[.float .f64 a.sm, .float .f64 a.si, .float .f64 a.sx, .float .f64 a.sy, .float .f64 a.ss] 45)).cell? ⟨w.heap.size, 3, none⟩ = some (.float .f64 a.sy) := by rw [World.cell?_alloc_new]; rfl
 have z0_4 : (w.alloc (.cells #[.float .f64 a.sm, .float .f64 a.si, .float .f64 a.sx, .float .f64 a.sy, .float .f64 a.ss] 45)).cell? ⟨w.heap.size, 4, none⟩ = some (.float .f64 a.ss) := by rw [World.cell?_alloc_new]; rfl
 have B0 : Bel w (w.alloc (.cells #[.float .f64 a.sm, .float .f64 a.si, .float .f64 a.sx, .float .f64 a.sy, .float .f64 a.ss] 45)) := bl_alloc (bl_refl w) _ _
 cases g0 : finK .f64 a.sm
 ·cases g1 : finK .f64 a.si
  all_goals
   have e : stB a = false := by unfold stB weB; simp [g0]
   go_enter Try.func147, Try.ntmps147
   go_wp2_with (first | (go_at_call 127; (with_reducible refine (rEnd_any a.sm _).mono ?_); rintro e w' ⟨n, rfl, rfl⟩; rw [g0]) | (go_at_call 127; (with_reducible refine (rEnd_any a.si _).mono ?_); rintro e w' ⟨n, rfl, rfl⟩; rw [g1]))
   go_ret
   exact ⟨by rw [e]; rfl, by repeat (first | exact bl_refl _ | assumption | apply bl_drewN | apply bl_drew | apply bl_alloc | refine bl_set ?_ (by simp <;> omega) | refine bl_trans ?_ (by assumption))⟩
 cases g1 : finK .f64 a.si
 ·have e : stB a = false := by unfold stB weB; simp [g1]
  go_enter Try.func147, Try.ntmps147
  go_wp2_with (first | (go_at_call 127; (with_reducible refine (rEnd_any a.sm _).mono ?_); rintro e w' ⟨n, rfl, rfl⟩; rw [g0]) | (go_at_call 127; (with_reducible refine (rEnd_any a.si _).mono ?_); rintro e w' ⟨n, rfl, rfl⟩; rw [g1]))
  go_ret
  exact ⟨by rw [e]; rfl, by repeat (first | exact bl_refl _ | assumption | apply bl_drewN | apply bl_drew | apply bl_alloc | refine bl_set ?_ (by simp <;> omega) | refine bl_trans ?_ (by assumption))⟩
 cases h0 : leK .f64 0 a.sm
 ·have e : stB a = false := by unfold stB weB; simp [h0]
  go_enter Try.func147, Try.ntmps147
  go_wp2_with (first | (go_at_call 127; (with_reducible refine (rEnd_any a.sm _).mono ?_); rintro e w' ⟨n, rfl, rfl⟩; rw [g0]) | (go_at_call 127; (with_reducible refine (rEnd_any a.si _).mono ?_); rintro e w' ⟨n, rfl, rfl⟩; rw [g1]))
  go_ret
  exact ⟨by rw [e]; rfl, by repeat (first | exact bl_refl _ | assumption | apply bl_drewN | apply bl_drew | apply bl_alloc | refine bl_set ?_ (by simp <;> omega) | refine bl_trans ?_ (by assumption))⟩
 cases h1 : leK .f64 0 a.si
 ·have e : stB a = false := by unfold stB weB; simp [h1]
  go_enter Try.func147, Try.ntmps147
  go_wp2_with (first | (go_at_call 127; (with_reducible refine (rEnd_any a.sm _).mono ?_); rintro e w' ⟨n, rfl, rfl⟩; rw [g0]) | (go_at_call 127; (with_reducible refine (rEnd_any a.si _).mono ?_); rintro e w' ⟨n, rfl, rfl⟩; rw [g1]))
  go_ret
  exact ⟨by rw [e]; rfl, by repeat (first | exact bl_refl _ | assumption | apply bl_drewN | apply bl_drew | apply bl_alloc | refine bl_set ?_ (by simp <;> omega) | refine bl_trans ?_ (by assumption))⟩
 have e : stB a = true := by unfold stB weB; simp [g0, g1, h0, h1]
 go_enter Try.func147, Try.ntmps147
 go_wp2_with (first | (go_at_call 127; (with_reducible refine (rEnd_any a.sm _).mono ?_); rintro e w' ⟨n, rfl, rfl⟩; rw [g0]) | (go_at_call 127; (with_reducible refine (rEnd_any a.si _).mono ?_); rintro e w' ⟨n, rfl, rfl⟩; rw [g1]))
 go_ret
 exact ⟨by rw [e]; rfl, by repeat (first | exact bl_refl _ | assumption | apply bl_drewN | apply bl_drew | apply bl_alloc | refine bl_set ?_ (by simp <;> omega) | refine bl_trans ?_ (by assumption))⟩

set_option maxRecDepth 100000 in
set_option maxHeartbeats 4000000 in
theorem rall_w (R : RD) (a b : SD) (w : World) : Calls Try.prog 122 #[.agg #[.int .i64 R.ra, .int .i64 R.rb, .float .f64 R.r2, .float .f64 R.r3, .float .f64 R.r4, .float .f64 R.r5, .float .f64 R.r6, .float .f64 R.r7, .float .f64 R.r8, .float .f64 R.r9, .float .f64 R.r10, .float .f64 R.r11, .int .i64 R.ro, .float .f64 R.r13], .agg #[.float .f64 a.sm, .float .f64 a.si, .float .f64 a.sx, .float .f64 a.sy, .float .f64 a.ss], .agg #[.float .f64 b.sm, .float .f64 b.si, .float .f64 b.sx, .float .f64 b.sy, .float .f64 b.ss]] w fun e w' => e = .returned (.bool (alB R a b)) ∧ Bel w w' := by
 unfold alB
 obtain ⟨_, rfl, hR, hRt, hA, hAt, hBb, hBbt, B0, hz0⟩ := frm0 R a b w
 cases h0 : mayB R <;> cases h1 : stB a <;> cases h2 : stB b
 all_goals
  go_enter Try.func122, Try.ntmps122
  repeat (first | (with_reducible show Oper.wp _ _ _ _ _ _; refine wp_load_mid (P := Try.prog) 43 _ rfl (w.heap.size) 0 rfl [.int .i64 R.ra, .int .i64 R.rb, .float .f64 R.r2, .float .f64 R.r3, .float .f64 R.r4, .float .f64 R.r5, .float .f64 R.r6, .float .f64 R.r7, .float .f64 R.r8, .float .f64 R.r9, .float .f64 R.r10, .float .f64 R.r11, .int .i64 R.ro, .float .f64 R.r13] _ (by with_reducible assumption) Try.underlying43 rfl (by kernel_rfl) ?_; simp only [go_sem]) | (with_reducible show Oper.wp _ _ _ _ _ _; refine wp_load_mid (P := Try.prog) 45 _ rfl (w.heap.size + 1) 0 rfl [.float .f64 a.sm, .float .f64 a.si, .float .f64 a.sx, .float .f64 a.sy, .float .f64 a.ss] _ (by with_reducible assumption) Try.underlying45 rfl (by kernel_rfl) ?_; simp only [go_sem]) | (with_reducible show Oper.wp _ _ _ _ _ _; refine wp_load_mid (P := Try.prog) 45 _ rfl (w.heap.size + 1 + 1) 0 rfl [.float .f64 b.sm, .float .f64 b.si, .float .f64 b.sx, .float .f64 b.sy, .float .f64 b.ss] _ (by with_reducible assumption) Try.underlying45 rfl (by kernel_rfl) ?_; simp only [go_sem]) | (go_at_call 146; (with_reducible refine (rmay_w R _).mono ?_); rintro e w' ⟨rfl, hb⟩; rw [h0]; have hAn := rng_bel hA hb; have hBn := rng_bel hBb hb; clear hA hBb; have hA := hAn; have hBb := hBn; clear hAn hBn; have B0 := bl_trans B0 hb) | (go_at_call 147; (with_reducible refine (rrests_w a _).mono ?_); rintro e w' ⟨rfl, hb⟩; rw [h1]; have hAn := rng_bel hA hb; have hBn := rng_bel hBb hb; clear hA hBb; have hA := hAn; have hBb := hBn; clear hAn hBn; have B0 := bl_trans B0 hb) | (go_at_call 147; (with_reducible refine (rrests_w b _).mono ?_); rintro e w' ⟨rfl, hb⟩; rw [h2]; have hAn := rng_bel hA hb; have hBn := rng_bel hBb hb; clear hA hBb; have hA := hAn; have hBb := hBn; clear hAn hBn; have B0 := bl_trans B0 hb) | go_values | go_skip | go_guarded | go_step | go_upon | go_back | dsimp only)
  go_ret
  exact ⟨rfl, B0⟩

set_option maxRecDepth 100000 in
set_option maxHeartbeats 4000000 in
theorem rcheck_w (R : RD) (n m : Int) (w : World) : Calls Try.prog 120 #[.agg #[.int .i64 R.ra, .int .i64 R.rb, .float .f64 R.r2, .float .f64 R.r3, .float .f64 R.r4, .float .f64 R.r5, .float .f64 R.r6, .float .f64 R.r7, .float .f64 R.r8, .float .f64 R.r9, .float .f64 R.r10, .float .f64 R.r11, .int .i64 R.ro, .float .f64 R.r13], .int .i64 n, .int .i64 m] w fun e w' => e = .returned (.int .i64 (bif chB R n m then 0 else 200)) ∧ Bel w w' := by
 have hR := rng_new w [.int .i64 R.ra, .int .i64 R.rb, .float .f64 R.r2, .float .f64 R.r3, .float .f64 R.r4, .float .f64 R.r5, .float .f64 R.r6, .float .f64 R.r7, .float .f64 R.r8, .float .f64 R.r9, .float .f64 R.r10, .float .f64 R.r11, .int .i64 R.ro, .float .f64 R.r13] 43
 have B0 : Bel w _ := bl_alloc (bl_refl w) #[.int .i64 R.ra, .int .i64 R.rb, .float .f64 R.r2, .float .f64 R.r3, .float .f64 R.r4, .float .f64 R.r5, .float .f64 R.r6, .float .f64 R.r7, .float .f64 R.r8, .float .f64 R.r9, .float .f64 R.r10, .float .f64 R.r11, .int .i64 R.ro, .float .f64 R.r13] 43
 cases h0 : mayB R
 ·have e : chB R n m = false := by simp [chB, h0]
  rw [e]
  go_enter Try.func120, Try.ntmps120
  repeat (first | (with_reducible show Oper.wp _ _ _ _ _ _; refine wp_load_mid (P := Try.prog) 43 _ rfl (w.heap.size) 0 rfl [.int .i64 R.ra, .int .i64 R.rb, .float .f64 R.r2, .float .f64 R.r3, .float .f64 R.r4, .float .f64 R.r5, .float .f64 R.r6, .float .f64 R.r7, .float .f64 R.r8, .float .f64 R.r9, .float .f64 R.r10, .float .f64 R.r11, .int .i64 R.ro, .float .f64 R.r13] _ (by with_reducible assumption) Try.underlying43 rfl (by kernel_rfl) ?_; simp only [go_sem]) | (go_at_call 146; (with_reducible refine (rmay_w R _).mono ?_); rintro e w' ⟨rfl, hb⟩; rw [h0]; have hRn := rng_bel hR hb; (have k0 : w'.cell? ⟨w.heap.size, 0, none⟩ = some (.int .i64 R.ra) := by have h := hRn 0 _ rfl; rwa [Nat.zero_add] at h); (have k1 : w'.cell? ⟨w.heap.size, 1, none⟩ = some (.int .i64 R.rb) := by have h := hRn 1 _ rfl; rwa [Nat.zero_add] at h); (have k12 : w'.cell? ⟨w.heap.size, 12, none⟩ = some (.int .i64 R.ro) := by have h := hRn 12 _ rfl; rwa [Nat.zero_add] at h)) | go_values | go_skip | go_guarded | go_step | go_upon | go_back | dsimp only)
  go_ret
  exact ⟨rfl, bl_trans B0 hb⟩
 by_cases h1 : R.ra < m
 rotate_left
 ·have e : chB R n m = false := by unfold chB; rw [decide_eq_false h1]; simp
  have nh1 : m ≤ R.ra := by omega
  rw [e]
  go_enter Try.func120, Try.ntmps120
  repeat (first | (with_reducible show Oper.wp _ _ _ _ _ _; refine wp_load_mid (P := Try.prog) 43 _ rfl (w.heap.size) 0 rfl [.int .i64 R.ra, .int .i64 R.rb, .float .f64 R.r2, .float .f64 R.r3, .float .f64 R.r4, .float .f64 R.r5, .float .f64 R.r6, .float .f64 R.r7, .float .f64 R.r8, .float .f64 R.r9, .float .f64 R.r10, .float .f64 R.r11, .int .i64 R.ro, .float .f64 R.r13] _ (by with_reducible assumption) Try.underlying43 rfl (by kernel_rfl) ?_; simp only [go_sem]) | (go_at_call 146; (with_reducible refine (rmay_w R _).mono ?_); rintro e w' ⟨rfl, hb⟩; rw [h0]; have hRn := rng_bel hR hb; (have k0 : w'.cell? ⟨w.heap.size, 0, none⟩ = some (.int .i64 R.ra) := by have h := hRn 0 _ rfl; rwa [Nat.zero_add] at h); (have k1 : w'.cell? ⟨w.heap.size, 1, none⟩ = some (.int .i64 R.rb) := by have h := hRn 1 _ rfl; rwa [Nat.zero_add] at h); (have k12 : w'.cell? ⟨w.heap.size, 12, none⟩ = some (.int .i64 R.ro) := by have h := hRn 12 _ rfl; rwa [Nat.zero_add] at h)) | go_values | go_skip | go_guarded | go_step | go_upon | go_back | dsimp only)
  go_ret
  exact ⟨rfl, bl_trans B0 hb⟩
 by_cases h2 : R.rb < m
 rotate_left
 ·have e : chB R n m = false := by unfold chB; rw [decide_eq_false h2]; simp
  have nh1 : ¬ m ≤ R.ra := by omega
  have nh2 : m ≤ R.rb := by omega
  rw [e]
  go_enter Try.func120, Try.ntmps120
  repeat (first | (with_reducible show Oper.wp _ _ _ _ _ _; refine wp_load_mid (P := Try.prog) 43 _ rfl (w.heap.size) 0 rfl [.int .i64 R.ra, .int .i64 R.rb, .float .f64 R.r2, .float .f64 R.r3, .float .f64 R.r4, .float .f64 R.r5, .float .f64 R.r6, .float .f64 R.r7, .float .f64 R.r8, .float .f64 R.r9, .float .f64 R.r10, .float .f64 R.r11, .int .i64 R.ro, .float .f64 R.r13] _ (by with_reducible assumption) Try.underlying43 rfl (by kernel_rfl) ?_; simp only [go_sem]) | (go_at_call 146; (with_reducible refine (rmay_w R _).mono ?_); rintro e w' ⟨rfl, hb⟩; rw [h0]; have hRn := rng_bel hR hb; (have k0 : w'.cell? ⟨w.heap.size, 0, none⟩ = some (.int .i64 R.ra) := by have h := hRn 0 _ rfl; rwa [Nat.zero_add] at h); (have k1 : w'.cell? ⟨w.heap.size, 1, none⟩ = some (.int .i64 R.rb) := by have h := hRn 1 _ rfl; rwa [Nat.zero_add] at h); (have k12 : w'.cell? ⟨w.heap.size, 12, none⟩ = some (.int .i64 R.ro) := by have h := hRn 12 _ rfl; rwa [Nat.zero_add] at h)) | go_values | go_skip | go_guarded | go_step | go_upon | go_back | dsimp only)
  go_ret
  exact ⟨rfl, bl_trans B0 hb⟩
 by_cases h3 : R.ro < n
 rotate_left
 ·have e : chB R n m = false := by unfold chB; rw [decide_eq_false h3]; simp
  have nh1 : ¬ m ≤ R.ra := by omega
  have nh2 : ¬ m ≤ R.rb := by omega
  have nh3 : n ≤ R.ro := by omega
  rw [e]
  go_enter Try.func120, Try.ntmps120
  repeat (first | (with_reducible show Oper.wp _ _ _ _ _ _; refine wp_load_mid (P := Try.prog) 43 _ rfl (w.heap.size) 0 rfl [.int .i64 R.ra, .int .i64 R.rb, .float .f64 R.r2, .float .f64 R.r3, .float .f64 R.r4, .float .f64 R.r5, .float .f64 R.r6, .float .f64 R.r7, .float .f64 R.r8, .float .f64 R.r9, .float .f64 R.r10, .float .f64 R.r11, .int .i64 R.ro, .float .f64 R.r13] _ (by with_reducible assumption) Try.underlying43 rfl (by kernel_rfl) ?_; simp only [go_sem]) | (go_at_call 146; (with_reducible refine (rmay_w R _).mono ?_); rintro e w' ⟨rfl, hb⟩; rw [h0]; have hRn := rng_bel hR hb; (have k0 : w'.cell? ⟨w.heap.size, 0, none⟩ = some (.int .i64 R.ra) := by have h := hRn 0 _ rfl; rwa [Nat.zero_add] at h); (have k1 : w'.cell? ⟨w.heap.size, 1, none⟩ = some (.int .i64 R.rb) := by have h := hRn 1 _ rfl; rwa [Nat.zero_add] at h); (have k12 : w'.cell? ⟨w.heap.size, 12, none⟩ = some (.int .i64 R.ro) := by have h := hRn 12 _ rfl; rwa [Nat.zero_add] at h)) | go_values | go_skip | go_guarded | go_step | go_upon | go_back | dsimp only)
  go_ret
  exact ⟨rfl, bl_trans B0 hb⟩
 have e : chB R n m = true := by simp [chB, h0, h1, h2, h3]
 have nh1 : ¬ m ≤ R.ra := by omega
 have nh2 : ¬ m ≤ R.rb := by omega
 have nh3 : ¬ n ≤ R.ro := by omega
 rw [e]
 go_enter Try.func120, Try.ntmps120
 repeat (first | (with_reducible show Oper.wp _ _ _ _ _ _; refine wp_load_mid (P := Try.prog) 43 _ rfl (w.heap.size) 0 rfl [.int .i64 R.ra, .int .i64 R.rb, .float .f64 R.r2, .float .f64 R.r3, .float .f64 R.r4, .float .f64 R.r5, .float .f64 R.r6, .float .f64 R.r7, .float .f64 R.r8, .float .f64 R.r9, .float .f64 R.r10, .float .f64 R.r11, .int .i64 R.ro, .float .f64 R.r13] _ (by with_reducible assumption) Try.underlying43 rfl (by kernel_rfl) ?_; simp only [go_sem]) | (go_at_call 146; (with_reducible refine (rmay_w R _).mono ?_); rintro e w' ⟨rfl, hb⟩; rw [h0]; have hRn := rng_bel hR hb; (have k0 : w'.cell? ⟨w.heap.size, 0, none⟩ = some (.int .i64 R.ra) := by have h := hRn 0 _ rfl; rwa [Nat.zero_add] at h); (have k1 : w'.cell? ⟨w.heap.size, 1, none⟩ = some (.int .i64 R.rb) := by have h := hRn 1 _ rfl; rwa [Nat.zero_add] at h); (have k12 : w'.cell? ⟨w.heap.size, 12, none⟩ = some (.int .i64 R.ro) := by have h := hRn 12 _ rfl; rwa [Nat.zero_add] at h)) | go_values | go_skip | go_guarded | go_step | go_upon | go_back | dsimp only)
 go_ret
 exact ⟨rfl, bl_trans B0 hb⟩

end Go.Proofs.Ytfohggiehbplkaa
