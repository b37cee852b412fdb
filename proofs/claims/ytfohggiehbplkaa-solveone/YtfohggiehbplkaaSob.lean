/-
  SolveOne: one row alone, of the model.
-/
import Derived.Test.YtfohggiehbplkaaVec
import Derived.Test.YtfohggiehbplkaaSoa
import Derived.Test.YtfohggiehbplkaaXj
import Derived.Below
import Derived.WalkKit
import Derived.WalkLawsBesides
import Derived.WalkSpells
import Derived.ProofKit
import Derived.OpenShut
import Derived.Deep.RegionHeld3
namespace Go.Proofs.Ytfohggiehbplkaa
open Go.ChangeShapes Go.WideShapes Go.ChangeAt Go.RowKit
set_option linter.unusedVariables false
set_option linter.unusedSimpArgs false

/-- a middling float -/
def mdB (x : Nat) : Bool := eqK .f64 (rgK .f64 x) 0 || (leK .f64 4517110426252607488 (rgK .f64 x) && leK .f64 (rgK .f64 x) 4697254411347427328)
theorem md_us {x : Nat} (o : okK .f64 x) (h : mdB x = true) : usB x = true := by
  unfold mdB at h
  unfold usB
  rw [Bool.or_eq_true, Bool.and_eq_true] at h ⊢
  rcases h with h | ⟨h1, h2⟩
  · left
    unfold eqK at h ⊢
    simp only [Bool.and_eq_true, decide_eq_true_eq, Bool.not_eq_true'] at h ⊢
    obtain ⟨⟨h1, h2⟩, h3⟩ := h
    have z : woK .f64 0 = 0 := by decide +kernel
    have rr : rgK .f64 (rgK .f64 x) = rgK .f64 x := by rw [rg64, rg64]; omega
    have h1 : nanK .f64 x = false := by rw [nanK_eq, rr] at h1; rw [nanK_eq]; exact h1
    refine ⟨⟨h1, h2⟩, ?_⟩
    rw [z] at h3 ⊢
    rw [woK_eq, rr] at h3
    rw [woK_eq]
    have g : ngK .f64 (rgK .f64 x) = false := by rw [ng64, rg64, beq_eq_false_iff_ne]; omega
    rw [g] at h3
    simp at h3
    rw [h3]
    cases ngK .f64 x <;> rfl
  · right
    unfold leK at h1 h2 ⊢
    simp only [Bool.and_eq_true, decide_eq_true_eq, Bool.not_eq_true'] at h1 h2 ⊢
    have c1 : woK .f64 4517110426252607488 = 4517110426252607488 := by decide +kernel
    have c2 : woK .f64 4697254411347427328 = 4697254411347427328 := by decide +kernel
    have c3 : woK .f64 4427038433705197568 = 4427038433705197568 := by decide +kernel
    have c4 : woK .f64 4787326403894837248 = 4787326403894837248 := by decide +kernel
    have n3 : nanK .f64 4427038433705197568 = false := by decide +kernel
    have n4 : nanK .f64 4787326403894837248 = false := by decide +kernel
    rw [c1] at h1
    rw [c2] at h2
    rw [c3, c4]
    refine ⟨⟨⟨n3, h1.1.2⟩, ?_⟩, ⟨h1.1.2, n4⟩, ?_⟩ <;> omega
set_option maxRecDepth 100000 in
theorem mid_w (x : Nat) (w : World) (o : okK .f64 x) : Calls Try.prog 85 #[.float .f64 x] w fun e w' => e = .returned (.bool (mdB x)) ∧ w' = w := by
  have c1 := cmp_gt .f64
  have c2 := cmp_lt .f64
  have c3 := cmp_eq .f64
  have c4 := cmp_le2 .f64
  have c5 := cmp_ge2 .f64
  unfold mdB
  cases h1 : eqK .f64 (rgK .f64 x) 0
  · cases h2 : leK .f64 4517110426252607488 (rgK .f64 x)
    · go_enter Try.func85, Try.ntmps85
      repeat (first | (go_at_call 22; refine (abs_any x _ o).mono ?_; rintro e w8 ⟨rfl, hw8⟩; rw [hw8]) | go_values | go_skip | go_guarded | go_step | go_upon | go_back | dsimp only)
      go_ret
      exact ⟨rfl, rfl⟩
    · cases h3 : leK .f64 (rgK .f64 x) 4697254411347427328
      all_goals
        go_enter Try.func85, Try.ntmps85
        repeat (first | (go_at_call 22; refine (abs_any x _ o).mono ?_; rintro e w8 ⟨rfl, hw8⟩; rw [hw8]) | go_values | go_skip | go_guarded | go_step | go_upon | go_back | dsimp only)
        go_ret
        exact ⟨rfl, rfl⟩
  · go_enter Try.func85, Try.ntmps85
    repeat (first | (go_at_call 22; refine (abs_any x _ o).mono ?_; rintro e w8 ⟨rfl, hw8⟩; rw [hw8]) | go_values | go_skip | go_guarded | go_step | go_upon | go_back | dsimp only)
    go_ret
    exact ⟨rfl, rfl⟩
set_option maxRecDepth 100000 in
set_option maxHeartbeats 4000000 in
theorem mildStill_w (s : SD) (w : World) (o : sok s) : Calls Try.prog 42 #[.agg #[.float .f64 s.sm, .float .f64 s.si, .float .f64 s.sx, .float .f64 s.sy, .float .f64 s.ss]] w fun e w' => ∃ u : Bool, (u = true → leK .f64 0 s.sm = true ∧ leK .f64 0 s.si = true ∧ mdB s.sm = true ∧ mdB s.si = true ∧ mdB s.sx = true ∧ mdB s.sy = true ∧ mdB s.ss = true) ∧ e = .returned (.bool u) ∧ Bel w w' := by
  have c1 := cmp_ge .f64
  obtain ⟨osm, osi, osx, osy, oss⟩ := o
  have hA : (w.alloc (.cells #[.float .f64 s.sm, .float .f64 s.si, .float .f64 s.sx, .float .f64 s.sy, .float .f64 s.ss] 45)).rangeAt w.heap.size 0 [.float .f64 s.sm, .float .f64 s.si, .float .f64 s.sx, .float .f64 s.sy, .float .f64 s.ss] := rng_new w [.float .f64 s.sm, .float .f64 s.si, .float .f64 s.sx, .float .f64 s.sy, .float .f64 s.ss] 45
  have k0 : (w.alloc (.cells #[.float .f64 s.sm, .float .f64 s.si, .float .f64 s.sx, .float .f64 s.sy, .float .f64 s.ss] 45)).cell? ⟨w.heap.size, 0, none⟩ = some (.float .f64 s.sm) := hA 0 _ rfl
  have k1 : (w.alloc (.cells #[.float .f64 s.sm, .float .f64 s.si, .float .f64 s.sx, .float .f64 s.sy, .float .f64 s.ss] 45)).cell? ⟨w.heap.size, 1, none⟩ = some (.float .f64 s.si) := hA 1 _ rfl
  have k2 : (w.alloc (.cells #[.float .f64 s.sm, .float .f64 s.si, .float .f64 s.sx, .float .f64 s.sy, .float .f64 s.ss] 45)).cell? ⟨w.heap.size, 2, none⟩ = some (.float .f64 s.sx) := hA 2 _ rfl
  have k3 : (w.alloc (.cells #[.float .f64 s.sm, .float .f64 s.si, .float .f64 s.sx, .float .f64 s.sy, .float .f64 s.ss] 45)).cell? ⟨w.heap.size, 3, none⟩ = some (.float .f64 s.sy) := hA 3 _ rfl
  have k4 : (w.alloc (.cells #[.float .f64 s.sm, .float .f64 s.si, .float .f64 s.sx, .float .f64 s.sy, .float .f64 s.ss] 45)).cell? ⟨w.heap.size, 4, none⟩ = some (.float .f64 s.ss) := hA 4 _ rfl
  have B0 : Bel w (w.alloc (.cells #[.float .f64 s.sm, .float .f64 s.si, .float .f64 s.sx, .float .f64 s.sy, .float .f64 s.ss] 45)) := bl_alloc (bl_refl w) _ _
  rcases Bool.eq_false_or_eq_true (leK .f64 0 s.sm) with h0 | h0
  rotate_left 1
  · go_enter Try.func42, Try.ntmps42
    repeat (first | go_values | go_skip | go_guarded | go_step | go_upon | go_back | dsimp only)
    go_ret
    exact ⟨false, fun h => (by cases h), rfl, B0⟩
  rcases Bool.eq_false_or_eq_true (leK .f64 0 s.si) with h1 | h1
  rotate_left 1
  · go_enter Try.func42, Try.ntmps42
    repeat (first | go_values | go_skip | go_guarded | go_step | go_upon | go_back | dsimp only)
    go_ret
    exact ⟨false, fun h => (by cases h), rfl, B0⟩
  rcases Bool.eq_false_or_eq_true (mdB s.sm) with h2 | h2
  rotate_left 1
  · go_enter Try.func42, Try.ntmps42
    repeat (first | (go_at_call 85; (with_reducible refine (mid_w s.sm _ osm).mono ?_); rintro e w8 ⟨rfl, hw8⟩; rw [hw8, h2]) | go_values | go_skip | go_guarded | go_step | go_upon | go_back | dsimp only)
    go_ret
    exact ⟨false, fun h => (by cases h), rfl, B0⟩
  rcases Bool.eq_false_or_eq_true (mdB s.si) with h3 | h3
  rotate_left 1
  · go_enter Try.func42, Try.ntmps42
    repeat (first | (go_at_call 85; (with_reducible refine (mid_w s.sm _ osm).mono ?_); rintro e w8 ⟨rfl, hw8⟩; rw [hw8, h2]) | (go_at_call 85; (with_reducible refine (mid_w s.si _ osi).mono ?_); rintro e w8 ⟨rfl, hw8⟩; rw [hw8, h3]) | go_values | go_skip | go_guarded | go_step | go_upon | go_back | dsimp only)
    go_ret
    exact ⟨false, fun h => (by cases h), rfl, B0⟩
  rcases Bool.eq_false_or_eq_true (mdB s.sx) with h4 | h4
  rotate_left 1
  · go_enter Try.func42, Try.ntmps42
    repeat (first | (go_at_call 85; (with_reducible refine (mid_w s.sm _ osm).mono ?_); rintro e w8 ⟨rfl, hw8⟩; rw [hw8, h2]) | (go_at_call 85; (with_reducible refine (mid_w s.si _ osi).mono ?_); rintro e w8 ⟨rfl, hw8⟩; rw [hw8, h3]) | (go_at_call 85; (with_reducible refine (mid_w s.sx _ osx).mono ?_); rintro e w8 ⟨rfl, hw8⟩; rw [hw8, h4]) | go_values | go_skip | go_guarded | go_step | go_upon | go_back | dsimp only)
    go_ret
    exact ⟨false, fun h => (by cases h), rfl, B0⟩
  rcases Bool.eq_false_or_eq_true (mdB s.sy) with h5 | h5
  rotate_left 1
  · go_enter Try.func42, Try.ntmps42
    repeat (first | (go_at_call 85; (with_reducible refine (mid_w s.sm _ osm).mono ?_); rintro e w8 ⟨rfl, hw8⟩; rw [hw8, h2]) | (go_at_call 85; (with_reducible refine (mid_w s.si _ osi).mono ?_); rintro e w8 ⟨rfl, hw8⟩; rw [hw8, h3]) | (go_at_call 85; (with_reducible refine (mid_w s.sx _ osx).mono ?_); rintro e w8 ⟨rfl, hw8⟩; rw [hw8, h4]) | (go_at_call 85; (with_reducible refine (mid_w s.sy _ osy).mono ?_); rintro e w8 ⟨rfl, hw8⟩; rw [hw8, h5]) | go_values | go_skip | go_guarded | go_step | go_upon | go_back | dsimp only)
    go_ret
    exact ⟨false, fun h => (by cases h), rfl, B0⟩
  rcases Bool.eq_false_or_eq_true (mdB s.ss) with h6 | h6
  rotate_left 1
  · go_enter Try.func42, Try.ntmps42
    repeat (first | (go_at_call 85; (with_reducible refine (mid_w s.sm _ osm).mono ?_); rintro e w8 ⟨rfl, hw8⟩; rw [hw8, h2]) | (go_at_call 85; (with_reducible refine (mid_w s.si _ osi).mono ?_); rintro e w8 ⟨rfl, hw8⟩; rw [hw8, h3]) | (go_at_call 85; (with_reducible refine (mid_w s.sx _ osx).mono ?_); rintro e w8 ⟨rfl, hw8⟩; rw [hw8, h4]) | (go_at_call 85; (with_reducible refine (mid_w s.sy _ osy).mono ?_); rintro e w8 ⟨rfl, hw8⟩; rw [hw8, h5]) | (go_at_call 85; (with_reducible refine (mid_w s.ss _ oss).mono ?_); rintro e w8 ⟨rfl, hw8⟩; rw [hw8, h6]) | go_values | go_skip | go_guarded | go_step | go_upon | go_back | dsimp only)
    go_ret
    exact ⟨false, fun h => (by cases h), rfl, B0⟩
  go_enter Try.func42, Try.ntmps42
  repeat (first | (go_at_call 85; (with_reducible refine (mid_w s.sm _ osm).mono ?_); rintro e w8 ⟨rfl, hw8⟩; rw [hw8, h2]) | (go_at_call 85; (with_reducible refine (mid_w s.si _ osi).mono ?_); rintro e w8 ⟨rfl, hw8⟩; rw [hw8, h3]) | (go_at_call 85; (with_reducible refine (mid_w s.sx _ osx).mono ?_); rintro e w8 ⟨rfl, hw8⟩; rw [hw8, h4]) | (go_at_call 85; (with_reducible refine (mid_w s.sy _ osy).mono ?_); rintro e w8 ⟨rfl, hw8⟩; rw [hw8, h5]) | (go_at_call 85; (with_reducible refine (mid_w s.ss _ oss).mono ?_); rintro e w8 ⟨rfl, hw8⟩; rw [hw8, h6]) | go_values | go_skip | go_guarded | go_step | go_upon | go_back | dsimp only)
  go_ret
  exact ⟨true, fun _ => ⟨h0, h1, h2, h3, h4, h5, h6⟩, rfl, B0⟩
set_option maxRecDepth 100000 in
set_option maxHeartbeats 4000000 in
theorem mildRow_w (R : RD) (w : World) (o : rok R) : Calls Try.prog 41 #[.agg #[.int .i64 R.ra, .int .i64 R.rb, .float .f64 R.r2, .float .f64 R.r3, .float .f64 R.r4, .float .f64 R.r5, .float .f64 R.r6, .float .f64 R.r7, .float .f64 R.r8, .float .f64 R.r9, .float .f64 R.r10, .float .f64 R.r11, .int .i64 R.ro, .float .f64 R.r13]] w fun e w' => ∃ u : Bool, (u = true → mdB R.r2 = true ∧ mdB R.r3 = true ∧ mdB R.r4 = true ∧ mdB R.r5 = true ∧ mdB R.r6 = true ∧ mdB R.r7 = true ∧ mdB R.r8 = true ∧ mdB R.r11 = true) ∧ e = .returned (.bool u) ∧ Bel w w' := by
  have c1 := cmp_ge .f64
  obtain ⟨o2, o3, o4, o5, o6, o7, o8, o9, o10, o11, o13⟩ := o
  have hA : (w.alloc (.cells #[.int .i64 R.ra, .int .i64 R.rb, .float .f64 R.r2, .float .f64 R.r3, .float .f64 R.r4, .float .f64 R.r5, .float .f64 R.r6, .float .f64 R.r7, .float .f64 R.r8, .float .f64 R.r9, .float .f64 R.r10, .float .f64 R.r11, .int .i64 R.ro, .float .f64 R.r13] 43)).rangeAt w.heap.size 0 [.int .i64 R.ra, .int .i64 R.rb, .float .f64 R.r2, .float .f64 R.r3, .float .f64 R.r4, .float .f64 R.r5, .float .f64 R.r6, .float .f64 R.r7, .float .f64 R.r8, .float .f64 R.r9, .float .f64 R.r10, .float .f64 R.r11, .int .i64 R.ro, .float .f64 R.r13] := rng_new w [.int .i64 R.ra, .int .i64 R.rb, .float .f64 R.r2, .float .f64 R.r3, .float .f64 R.r4, .float .f64 R.r5, .float .f64 R.r6, .float .f64 R.r7, .float .f64 R.r8, .float .f64 R.r9, .float .f64 R.r10, .float .f64 R.r11, .int .i64 R.ro, .float .f64 R.r13] 43
  have k0 : (w.alloc (.cells #[.int .i64 R.ra, .int .i64 R.rb, .float .f64 R.r2, .float .f64 R.r3, .float .f64 R.r4, .float .f64 R.r5, .float .f64 R.r6, .float .f64 R.r7, .float .f64 R.r8, .float .f64 R.r9, .float .f64 R.r10, .float .f64 R.r11, .int .i64 R.ro, .float .f64 R.r13] 43)).cell? ⟨w.heap.size, 0, none⟩ = some (.int .i64 R.ra) := hA 0 _ rfl
  have k1 : (w.alloc (.cells #[.int .i64 R.ra, .int .i64 R.rb, .float .f64 R.r2, .float .f64 R.r3, .float .f64 R.r4, .float .f64 R.r5, .float .f64 R.r6, .float .f64 R.r7, .float .f64 R.r8, .float .f64 R.r9, .float .f64 R.r10, .float .f64 R.r11, .int .i64 R.ro, .float .f64 R.r13] 43)).cell? ⟨w.heap.size, 1, none⟩ = some (.int .i64 R.rb) := hA 1 _ rfl
  have k2 : (w.alloc (.cells #[.int .i64 R.ra, .int .i64 R.rb, .float .f64 R.r2, .float .f64 R.r3, .float .f64 R.r4, .float .f64 R.r5, .float .f64 R.r6, .float .f64 R.r7, .float .f64 R.r8, .float .f64 R.r9, .float .f64 R.r10, .float .f64 R.r11, .int .i64 R.ro, .float .f64 R.r13] 43)).cell? ⟨w.heap.size, 2, none⟩ = some (.float .f64 R.r2) := hA 2 _ rfl
  have k3 : (w.alloc (.cells #[.int .i64 R.ra, .int .i64 R.rb, .float .f64 R.r2, .float .f64 R.r3, .float .f64 R.r4, .float .f64 R.r5, .float .f64 R.r6, .float .f64 R.r7, .float .f64 R.r8, .float .f64 R.r9, .float .f64 R.r10, .float .f64 R.r11, .int .i64 R.ro, .float .f64 R.r13] 43)).cell? ⟨w.heap.size, 3, none⟩ = some (.float .f64 R.r3) := hA 3 _ rfl
  have k4 : (w.alloc (.cells #[.int .i64 R.ra, .int .i64 R.rb, .float .f64 R.r2, .float .f64 R.r3, .float .f64 R.r4, .float .f64 R.r5, .float .f64 R.r6, .float .f64 R.r7, .float .f64 R.r8, .float .f64 R.r9, .float .f64 R.r10, .float .f64 R.r11, .int .i64 R.ro, .float .f64 R.r13] 43)).cell? ⟨w.heap.size, 4, none⟩ = some (.float .f64 R.r4) := hA 4 _ rfl
  have k5 : (w.alloc (.cells #[.int .i64 R.ra, .int .i64 R.rb, .float .f64 R.r2, .float .f64 R.r3, .float .f64 R.r4, .float .f64 R.r5, .float .f64 R.r6, .float .f64 R.r7, .float .f64 R.r8, .float .f64 R.r9, .float .f64 R.r10, .float .f64 R.r11, .int .i64 R.ro, .float .f64 R.r13] 43)).cell? ⟨w.heap.size, 5, none⟩ = some (.float .f64 R.r5) := hA 5 _ rfl
  have k6 : (w.alloc (.cells #[.int .i64 R.ra, .int .i64 R.rb, .float .f64 R.r2, .float .f64 R.r3, .float .f64 R.r4, .float .f64 R.r5, .float .f64 R.r6, .float .f64 R.r7, .float .f64 R.r8, .float .f64 R.r9, .float .f64 R.r10, .float .f64 R.r11, .int .i64 R.ro, .float .f64 R.r13] 43)).cell? ⟨w.heap.size, 6, none⟩ = some (.float .f64 R.r6) := hA 6 _ rfl
  have k7 : (w.alloc (.cells #[.int .i64 R.ra, .int .i64 R.rb, .float .f64 R.r2, .float .f64 R.r3, .float .f64 R.r4, .float .f64 R.r5, .float .f64 R.r6, .float .f64 R.r7, .float .f64 R.r8, .float .f64 R.r9, .float .f64 R.r10, .float .f64 R.r11, .int .i64 R.ro, .float .f64 R.r13] 43)).cell? ⟨w.heap.size, 7, none⟩ = some (.float .f64 R.r7) := hA 7 _ rfl
  have k8 : (w.alloc (.cells #[.int .i64 R.ra, .int .i64 R.rb, .float .f64 R.r2, .float .f64 R.r3, .float .f64 R.r4, .float .f64 R.r5, .float .f64 R.r6, .float .f64 R.r7, .float .f64 R.r8, .float .f64 R.r9, .float .f64 R.r10, .float .f64 R.r11, .int .i64 R.ro, .float .f64 R.r13] 43)).cell? ⟨w.heap.size, 8, none⟩ = some (.float .f64 R.r8) := hA 8 _ rfl
  have k9 : (w.alloc (.cells #[.int .i64 R.ra, .int .i64 R.rb, .float .f64 R.r2, .float .f64 R.r3, .float .f64 R.r4, .float .f64 R.r5, .float .f64 R.r6, .float .f64 R.r7, .float .f64 R.r8, .float .f64 R.r9, .float .f64 R.r10, .float .f64 R.r11, .int .i64 R.ro, .float .f64 R.r13] 43)).cell? ⟨w.heap.size, 9, none⟩ = some (.float .f64 R.r9) := hA 9 _ rfl
  have k10 : (w.alloc (.cells #[.int .i64 R.ra, .int .i64 R.rb, .float .f64 R.r2, .float .f64 R.r3, .float .f64 R.r4, .float .f64 R.r5, .float .f64 R.r6, .float .f64 R.r7, .float .f64 R.r8, .float .f64 R.r9, .float .f64 R.r10, .float .f64 R.r11, .int .i64 R.ro, .float .f64 R.r13] 43)).cell? ⟨w.heap.size, 10, none⟩ = some (.float .f64 R.r10) := hA 10 _ rfl
  have k11 : (w.alloc (.cells #[.int .i64 R.ra, .int .i64 R.rb, .float .f64 R.r2, .float .f64 R.r3, .float .f64 R.r4, .float .f64 R.r5, .float .f64 R.r6, .float .f64 R.r7, .float .f64 R.r8, .float .f64 R.r9, .float .f64 R.r10, .float .f64 R.r11, .int .i64 R.ro, .float .f64 R.r13] 43)).cell? ⟨w.heap.size, 11, none⟩ = some (.float .f64 R.r11) := hA 11 _ rfl
  have k12 : (w.alloc (.cells #[.int .i64 R.ra, .int .i64 R.rb, .float .f64 R.r2, .float .f64 R.r3, .float .f64 R.r4, .float .f64 R.r5, .float .f64 R.r6, .float .f64 R.r7, .float .f64 R.r8, .float .f64 R.r9, .float .f64 R.r10, .float .f64 R.r11, .int .i64 R.ro, .float .f64 R.r13] 43)).cell? ⟨w.heap.size, 12, none⟩ = some (.int .i64 R.ro) := hA 12 _ rfl
  have k13 : (w.alloc (.cells #[.int .i64 R.ra, .int .i64 R.rb, .float .f64 R.r2, .float .f64 R.r3, .float .f64 R.r4, .float .f64 R.r5, .float .f64 R.r6, .float .f64 R.r7, .float .f64 R.r8, .float .f64 R.r9, .float .f64 R.r10, .float .f64 R.r11, .int .i64 R.ro, .float .f64 R.r13] 43)).cell? ⟨w.heap.size, 13, none⟩ = some (.float .f64 R.r13) := hA 13 _ rfl
  have B0 : Bel w (w.alloc (.cells #[.int .i64 R.ra, .int .i64 R.rb, .float .f64 R.r2, .float .f64 R.r3, .float .f64 R.r4, .float .f64 R.r5, .float .f64 R.r6, .float .f64 R.r7, .float .f64 R.r8, .float .f64 R.r9, .float .f64 R.r10, .float .f64 R.r11, .int .i64 R.ro, .float .f64 R.r13] 43)) := bl_alloc (bl_refl w) _ _
  rcases Bool.eq_false_or_eq_true (mdB R.r2) with h0 | h0
  rotate_left 1
  · go_enter Try.func41, Try.ntmps41
    repeat (first | (go_at_call 85; (with_reducible refine (mid_w R.r2 _ o2).mono ?_); rintro e w8 ⟨rfl, hw8⟩; rw [hw8, h0]) | go_values | go_skip | go_guarded | go_step | go_upon | go_back | dsimp only)
    go_ret
    exact ⟨false, fun h => (by cases h), rfl, B0⟩
  rcases Bool.eq_false_or_eq_true (mdB R.r3) with h1 | h1
  rotate_left 1
  · go_enter Try.func41, Try.ntmps41
    repeat (first | (go_at_call 85; (with_reducible refine (mid_w R.r2 _ o2).mono ?_); rintro e w8 ⟨rfl, hw8⟩; rw [hw8, h0]) | (go_at_call 85; (with_reducible refine (mid_w R.r3 _ o3).mono ?_); rintro e w8 ⟨rfl, hw8⟩; rw [hw8, h1]) | go_values | go_skip | go_guarded | go_step | go_upon | go_back | dsimp only)
    go_ret
    exact ⟨false, fun h => (by cases h), rfl, B0⟩
  rcases Bool.eq_false_or_eq_true (mdB R.r4) with h2 | h2
  rotate_left 1
  · go_enter Try.func41, Try.ntmps41
    repeat (first | (go_at_call 85; (with_reducible refine (mid_w R.r2 _ o2).mono ?_); rintro e w8 ⟨rfl, hw8⟩; rw [hw8, h0]) | (go_at_call 85; (with_reducible refine (mid_w R.r3 _ o3).mono ?_); rintro e w8 ⟨rfl, hw8⟩; rw [hw8, h1]) | (go_at_call 85; (with_reducible refine (mid_w R.r4 _ o4).mono ?_); rintro e w8 ⟨rfl, hw8⟩; rw [hw8, h2]) | go_values | go_skip | go_guarded | go_step | go_upon | go_back | dsimp only)
    go_ret
    exact ⟨false, fun h => (by cases h), rfl, B0⟩
  rcases Bool.eq_false_or_eq_true (mdB R.r5) with h3 | h3
  rotate_left 1
  · go_enter Try.func41, Try.ntmps41
    repeat (first | (go_at_call 85; (with_reducible refine (mid_w R.r2 _ o2).mono ?_); rintro e w8 ⟨rfl, hw8⟩; rw [hw8, h0]) | (go_at_call 85; (with_reducible refine (mid_w R.r3 _ o3).mono ?_); rintro e w8 ⟨rfl, hw8⟩; rw [hw8, h1]) | (go_at_call 85; (with_reducible refine (mid_w R.r4 _ o4).mono ?_); rintro e w8 ⟨rfl, hw8⟩; rw [hw8, h2]) | (go_at_call 85; (with_reducible refine (mid_w R.r5 _ o5).mono ?_); rintro e w8 ⟨rfl, hw8⟩; rw [hw8, h3]) | go_values | go_skip | go_guarded | go_step | go_upon | go_back | dsimp only)
    go_ret
    exact ⟨false, fun h => (by cases h), rfl, B0⟩
  rcases Bool.eq_false_or_eq_true (mdB R.r6) with h4 | h4
  rotate_left 1
  · go_enter Try.func41, Try.ntmps41
    repeat (first | (go_at_call 85; (with_reducible refine (mid_w R.r2 _ o2).mono ?_); rintro e w8 ⟨rfl, hw8⟩; rw [hw8, h0]) | (go_at_call 85; (with_reducible refine (mid_w R.r3 _ o3).mono ?_); rintro e w8 ⟨rfl, hw8⟩; rw [hw8, h1]) | (go_at_call 85; (with_reducible refine (mid_w R.r4 _ o4).mono ?_); rintro e w8 ⟨rfl, hw8⟩; rw [hw8, h2]) | (go_at_call 85; (with_reducible refine (mid_w R.r5 _ o5).mono ?_); rintro e w8 ⟨rfl, hw8⟩; rw [hw8, h3]) | (go_at_call 85; (with_reducible refine (mid_w R.r6 _ o6).mono ?_); rintro e w8 ⟨rfl, hw8⟩; rw [hw8, h4]) | go_values | go_skip | go_guarded | go_step | go_upon | go_back | dsimp only)
    go_ret
    exact ⟨false, fun h => (by cases h), rfl, B0⟩
  rcases Bool.eq_false_or_eq_true (mdB R.r7) with h5 | h5
  rotate_left 1
  · go_enter Try.func41, Try.ntmps41
    repeat (first | (go_at_call 85; (with_reducible refine (mid_w R.r2 _ o2).mono ?_); rintro e w8 ⟨rfl, hw8⟩; rw [hw8, h0]) | (go_at_call 85; (with_reducible refine (mid_w R.r3 _ o3).mono ?_); rintro e w8 ⟨rfl, hw8⟩; rw [hw8, h1]) | (go_at_call 85; (with_reducible refine (mid_w R.r4 _ o4).mono ?_); rintro e w8 ⟨rfl, hw8⟩; rw [hw8, h2]) | (go_at_call 85; (with_reducible refine (mid_w R.r5 _ o5).mono ?_); rintro e w8 ⟨rfl, hw8⟩; rw [hw8, h3]) | (go_at_call 85; (with_reducible refine (mid_w R.r6 _ o6).mono ?_); rintro e w8 ⟨rfl, hw8⟩; rw [hw8, h4]) | (go_at_call 85; (with_reducible refine (mid_w R.r7 _ o7).mono ?_); rintro e w8 ⟨rfl, hw8⟩; rw [hw8, h5]) | go_values | go_skip | go_guarded | go_step | go_upon | go_back | dsimp only)
    go_ret
    exact ⟨false, fun h => (by cases h), rfl, B0⟩
  rcases Bool.eq_false_or_eq_true (mdB R.r8) with h6 | h6
  rotate_left 1
  · go_enter Try.func41, Try.ntmps41
    repeat (first | (go_at_call 85; (with_reducible refine (mid_w R.r2 _ o2).mono ?_); rintro e w8 ⟨rfl, hw8⟩; rw [hw8, h0]) | (go_at_call 85; (with_reducible refine (mid_w R.r3 _ o3).mono ?_); rintro e w8 ⟨rfl, hw8⟩; rw [hw8, h1]) | (go_at_call 85; (with_reducible refine (mid_w R.r4 _ o4).mono ?_); rintro e w8 ⟨rfl, hw8⟩; rw [hw8, h2]) | (go_at_call 85; (with_reducible refine (mid_w R.r5 _ o5).mono ?_); rintro e w8 ⟨rfl, hw8⟩; rw [hw8, h3]) | (go_at_call 85; (with_reducible refine (mid_w R.r6 _ o6).mono ?_); rintro e w8 ⟨rfl, hw8⟩; rw [hw8, h4]) | (go_at_call 85; (with_reducible refine (mid_w R.r7 _ o7).mono ?_); rintro e w8 ⟨rfl, hw8⟩; rw [hw8, h5]) | (go_at_call 85; (with_reducible refine (mid_w R.r8 _ o8).mono ?_); rintro e w8 ⟨rfl, hw8⟩; rw [hw8, h6]) | go_values | go_skip | go_guarded | go_step | go_upon | go_back | dsimp only)
    go_ret
    exact ⟨false, fun h => (by cases h), rfl, B0⟩
  rcases Bool.eq_false_or_eq_true (mdB R.r11) with h7 | h7
  rotate_left 1
  · go_enter Try.func41, Try.ntmps41
    repeat (first | (go_at_call 85; (with_reducible refine (mid_w R.r2 _ o2).mono ?_); rintro e w8 ⟨rfl, hw8⟩; rw [hw8, h0]) | (go_at_call 85; (with_reducible refine (mid_w R.r3 _ o3).mono ?_); rintro e w8 ⟨rfl, hw8⟩; rw [hw8, h1]) | (go_at_call 85; (with_reducible refine (mid_w R.r4 _ o4).mono ?_); rintro e w8 ⟨rfl, hw8⟩; rw [hw8, h2]) | (go_at_call 85; (with_reducible refine (mid_w R.r5 _ o5).mono ?_); rintro e w8 ⟨rfl, hw8⟩; rw [hw8, h3]) | (go_at_call 85; (with_reducible refine (mid_w R.r6 _ o6).mono ?_); rintro e w8 ⟨rfl, hw8⟩; rw [hw8, h4]) | (go_at_call 85; (with_reducible refine (mid_w R.r7 _ o7).mono ?_); rintro e w8 ⟨rfl, hw8⟩; rw [hw8, h5]) | (go_at_call 85; (with_reducible refine (mid_w R.r8 _ o8).mono ?_); rintro e w8 ⟨rfl, hw8⟩; rw [hw8, h6]) | (go_at_call 85; (with_reducible refine (mid_w R.r11 _ o11).mono ?_); rintro e w8 ⟨rfl, hw8⟩; rw [hw8, h7]) | go_values | go_skip | go_guarded | go_step | go_upon | go_back | dsimp only)
    go_ret
    exact ⟨false, fun h => (by cases h), rfl, B0⟩
  go_enter Try.func41, Try.ntmps41
  repeat (first | (go_at_call 85; (with_reducible refine (mid_w R.r2 _ o2).mono ?_); rintro e w8 ⟨rfl, hw8⟩; rw [hw8, h0]) | (go_at_call 85; (with_reducible refine (mid_w R.r3 _ o3).mono ?_); rintro e w8 ⟨rfl, hw8⟩; rw [hw8, h1]) | (go_at_call 85; (with_reducible refine (mid_w R.r4 _ o4).mono ?_); rintro e w8 ⟨rfl, hw8⟩; rw [hw8, h2]) | (go_at_call 85; (with_reducible refine (mid_w R.r5 _ o5).mono ?_); rintro e w8 ⟨rfl, hw8⟩; rw [hw8, h3]) | (go_at_call 85; (with_reducible refine (mid_w R.r6 _ o6).mono ?_); rintro e w8 ⟨rfl, hw8⟩; rw [hw8, h4]) | (go_at_call 85; (with_reducible refine (mid_w R.r7 _ o7).mono ?_); rintro e w8 ⟨rfl, hw8⟩; rw [hw8, h5]) | (go_at_call 85; (with_reducible refine (mid_w R.r8 _ o8).mono ?_); rintro e w8 ⟨rfl, hw8⟩; rw [hw8, h6]) | (go_at_call 85; (with_reducible refine (mid_w R.r11 _ o11).mono ?_); rintro e w8 ⟨rfl, hw8⟩; rw [hw8, h7]) | go_values | go_skip | go_guarded | go_step | go_upon | go_back | dsimp only)
  go_ret
  exact ⟨true, fun _ => ⟨h0, h1, h2, h3, h4, h5, h6, h7⟩, rfl, B0⟩

end Go.Proofs.Ytfohggiehbplkaa
