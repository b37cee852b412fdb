/-
  What each function of package poly answers, and what the reference of its chapter answers: one contract a function, for every float: the answer stands in the relation of its formula to what was given; of the memory that was there nothing has turned.
-/
import Derived.Test.YtfohggiehbplkaaVec
import Derived.Test.YtfohggiehbplkaaWh
import Derived.Below
import Derived.WalkKit
import Derived.WalkLawsBesides
import Derived.WalkSpells
import Derived.ProofKit
import Derived.OpenShut
import Derived.Deep.RegionHeld3
namespace Go.Proofs.Ytfohggiehbplkaa
open Go.ChangeShapes Go.WideShapes Go.ChangeAt Go.RowKit
set_option linter.unusedVariables false
set_option linter.unusedSimpArgs false


set_option maxRecDepth 100000 in
set_option maxHeartbeats 4000000 in
theorem rspeed_w (R : RD) (a b : SD) (w : World) (oR : rok R) (oa : sok a) (ob : sok b) : Calls Try.prog 124 #[.agg #[.int .i64 R.ra, .int .i64 R.rb, .float .f64 R.r2, .float .f64 R.r3, .float .f64 R.r4, .float .f64 R.r5, .float .f64 R.r6, .float .f64 R.r7, .float .f64 R.r8, .float .f64 R.r9, .float .f64 R.r10, .float .f64 R.r11, .int .i64 R.ro, .float .f64 R.r13], .agg #[.float .f64 a.sm, .float .f64 a.si, .float .f64 a.sx, .float .f64 a.sy, .float .f64 a.ss], .agg #[.float .f64 b.sm, .float .f64 b.si, .float .f64 b.sx, .float .f64 b.sy, .float .f64 b.ss]] w fun e w' => ∃ r, isF r (spF R a b) ∧ e = .returned (.float .f64 r) ∧ Bel w w' := by
 obtain ⟨o2, o3, o4, o5, o6, o7, o8, o9, o10, o11, o13⟩ := oR
 obtain ⟨oam, oai, oax, oay, oas⟩ := oa
 obtain ⟨obm, obi, obx, oby, obs⟩ := ob
 have q1 := run_mul Try.prog
 have q2 := run_add Try.prog
 obtain ⟨_, rfl, hR, hRt, hA, hAt, hBb, hBbt, B0, hz0⟩ := frm0 R a b w
 (have k2 : (((w.alloc (.cells #[.int .i64 R.ra, .int .i64 R.rb, .float .f64 R.r2, .float .f64 R.r3, .float .f64 R.r4, .float .f64 R.r5, .float .f64 R.r6, .float .f64 R.r7, .float .f64 R.r8, .float .f64 R.r9, .float .f64 R.r10, .float .f64 R.r11, .int .i64 R.ro, .float .f64 R.r13] 43)).alloc (.cells #[.float .f64 a.sm, .float .f64 a.si, .float .f64 a.sx, .float .f64 a.sy, .float .f64 a.ss] 45)).alloc (.cells #[.float .f64 b.sm, .float .f64 b.si, .float .f64 b.sx, .float .f64 b.sy, .float .f64 b.ss] 45)).cell? ⟨w.heap.size, 2, none⟩ = some (.float .f64 R.r2) := by have h := (rng_bel hR (bl_refl _)) 2 _ rfl; rwa [Nat.zero_add] at h)
 (have k3 : (((w.alloc (.cells #[.int .i64 R.ra, .int .i64 R.rb, .float .f64 R.r2, .float .f64 R.r3, .float .f64 R.r4, .float .f64 R.r5, .float .f64 R.r6, .float .f64 R.r7, .float .f64 R.r8, .float .f64 R.r9, .float .f64 R.r10, .float .f64 R.r11, .int .i64 R.ro, .float .f64 R.r13] 43)).alloc (.cells #[.float .f64 a.sm, .float .f64 a.si, .float .f64 a.sx, .float .f64 a.sy, .float .f64 a.ss] 45)).alloc (.cells #[.float .f64 b.sm, .float .f64 b.si, .float .f64 b.sx, .float .f64 b.sy, .float .f64 b.ss] 45)).cell? ⟨w.heap.size, 3, none⟩ = some (.float .f64 R.r3) := by have h := (rng_bel hR (bl_refl _)) 3 _ rfl; rwa [Nat.zero_add] at h)
 (have k4 : (((w.alloc (.cells #[.int .i64 R.ra, .int .i64 R.rb, .float .f64 R.r2, .float .f64 R.r3, .float .f64 R.r4, .float .f64 R.r5, .float .f64 R.r6, .float .f64 R.r7, .float .f64 R.r8, .float .f64 R.r9, .float .f64 R.r10, .float .f64 R.r11, .int .i64 R.ro, .float .f64 R.r13] 43)).alloc (.cells #[.float .f64 a.sm, .float .f64 a.si, .float .f64 a.sx, .float .f64 a.sy, .float .f64 a.ss] 45)).alloc (.cells #[.float .f64 b.sm, .float .f64 b.si, .float .f64 b.sx, .float .f64 b.sy, .float .f64 b.ss] 45)).cell? ⟨w.heap.size, 4, none⟩ = some (.float .f64 R.r4) := by have h := (rng_bel hR (bl_refl _)) 4 _ rfl; rwa [Nat.zero_add] at h)
 (have k5 : (((w.alloc (.cells #[.int .i64 R.ra, .int .i64 R.rb, .float .f64 R.r2, .float .f64 R.r3, .float .f64 R.r4, .float .f64 R.r5, .float .f64 R.r6, .float .f64 R.r7, .float .f64 R.r8, .float .f64 R.r9, .float .f64 R.r10, .float .f64 R.r11, .int .i64 R.ro, .float .f64 R.r13] 43)).alloc (.cells #[.float .f64 a.sm, .float .f64 a.si, .float .f64 a.sx, .float .f64 a.sy, .float .f64 a.ss] 45)).alloc (.cells #[.float .f64 b.sm, .float .f64 b.si, .float .f64 b.sx, .float .f64 b.sy, .float .f64 b.ss] 45)).cell? ⟨w.heap.size, 5, none⟩ = some (.float .f64 R.r5) := by have h := (rng_bel hR (bl_refl _)) 5 _ rfl; rwa [Nat.zero_add] at h)
 (have k6 : (((w.alloc (.cells #[.int .i64 R.ra, .int .i64 R.rb, .float .f64 R.r2, .float .f64 R.r3, .float .f64 R.r4, .float .f64 R.r5, .float .f64 R.r6, .float .f64 R.r7, .float .f64 R.r8, .float .f64 R.r9, .float .f64 R.r10, .float .f64 R.r11, .int .i64 R.ro, .float .f64 R.r13] 43)).alloc (.cells #[.float .f64 a.sm, .float .f64 a.si, .float .f64 a.sx, .float .f64 a.sy, .float .f64 a.ss] 45)).alloc (.cells #[.float .f64 b.sm, .float .f64 b.si, .float .f64 b.sx, .float .f64 b.sy, .float .f64 b.ss] 45)).cell? ⟨w.heap.size, 6, none⟩ = some (.float .f64 R.r6) := by have h := (rng_bel hR (bl_refl _)) 6 _ rfl; rwa [Nat.zero_add] at h)
 (have k7 : (((w.alloc (.cells #[.int .i64 R.ra, .int .i64 R.rb, .float .f64 R.r2, .float .f64 R.r3, .float .f64 R.r4, .float .f64 R.r5, .float .f64 R.r6, .float .f64 R.r7, .float .f64 R.r8, .float .f64 R.r9, .float .f64 R.r10, .float .f64 R.r11, .int .i64 R.ro, .float .f64 R.r13] 43)).alloc (.cells #[.float .f64 a.sm, .float .f64 a.si, .float .f64 a.sx, .float .f64 a.sy, .float .f64 a.ss] 45)).alloc (.cells #[.float .f64 b.sm, .float .f64 b.si, .float .f64 b.sx, .float .f64 b.sy, .float .f64 b.ss] 45)).cell? ⟨w.heap.size, 7, none⟩ = some (.float .f64 R.r7) := by have h := (rng_bel hR (bl_refl _)) 7 _ rfl; rwa [Nat.zero_add] at h)
 (have a0 : (((w.alloc (.cells #[.int .i64 R.ra, .int .i64 R.rb, .float .f64 R.r2, .float .f64 R.r3, .float .f64 R.r4, .float .f64 R.r5, .float .f64 R.r6, .float .f64 R.r7, .float .f64 R.r8, .float .f64 R.r9, .float .f64 R.r10, .float .f64 R.r11, .int .i64 R.ro, .float .f64 R.r13] 43)).alloc (.cells #[.float .f64 a.sm, .float .f64 a.si, .float .f64 a.sx, .float .f64 a.sy, .float .f64 a.ss] 45)).alloc (.cells #[.float .f64 b.sm, .float .f64 b.si, .float .f64 b.sx, .float .f64 b.sy, .float .f64 b.ss] 45)).cell? ⟨w.heap.size + 1, 0, none⟩ = some (.float .f64 a.sm) := by have h := (rng_bel hA (bl_refl _)) 0 _ rfl; rwa [Nat.zero_add] at h)
 (have a1 : (((w.alloc (.cells #[.int .i64 R.ra, .int .i64 R.rb, .float .f64 R.r2, .float .f64 R.r3, .float .f64 R.r4, .float .f64 R.r5, .float .f64 R.r6, .float .f64 R.r7, .float .f64 R.r8, .float .f64 R.r9, .float .f64 R.r10, .float .f64 R.r11, .int .i64 R.ro, .float .f64 R.r13] 43)).alloc (.cells #[.float .f64 a.sm, .float .f64 a.si, .float .f64 a.sx, .float .f64 a.sy, .float .f64 a.ss] 45)).alloc (.cells #[.float .f64 b.sm, .float .f64 b.si, .float .f64 b.sx, .float .f64 b.sy, .float .f64 b.ss] 45)).cell? ⟨w.heap.size + 1, 1, none⟩ = some (.float .f64 a.si) := by have h := (rng_bel hA (bl_refl _)) 1 _ rfl; rwa [Nat.zero_add] at h)
 (have a2 : (((w.alloc (.cells #[.int .i64 R.ra, .int .i64 R.rb, .float .f64 R.r2, .float .f64 R.r3, .float .f64 R.r4, .float .f64 R.r5, .float .f64 R.r6, .float .f64 R.r7, .float .f64 R.r8, .float .f64 R.r9, .float .f64 R.r10, .float .f64 R.r11, .int .i64 R.ro, .float .f64 R.r13] 43)).alloc (.cells #[.float .f64 a.sm, .float .f64 a.si, .float .f64 a.sx, .float .f64 a.sy, .float .f64 a.ss] 45)).alloc (.cells #[.float .f64 b.sm, .float .f64 b.si, .float .f64 b.sx, .float .f64 b.sy, .float .f64 b.ss] 45)).cell? ⟨w.heap.size + 1, 2, none⟩ = some (.float .f64 a.sx) := by have h := (rng_bel hA (bl_refl _)) 2 _ rfl; rwa [Nat.zero_add] at h)
 (have a3 : (((w.alloc (.cells #[.int .i64 R.ra, .int .i64 R.rb, .float .f64 R.r2, .float .f64 R.r3, .float .f64 R.r4, .float .f64 R.r5, .float .f64 R.r6, .float .f64 R.r7, .float .f64 R.r8, .float .f64 R.r9, .float .f64 R.r10, .float .f64 R.r11, .int .i64 R.ro, .float .f64 R.r13] 43)).alloc (.cells #[.float .f64 a.sm, .float .f64 a.si, .float .f64 a.sx, .float .f64 a.sy, .float .f64 a.ss] 45)).alloc (.cells #[.float .f64 b.sm, .float .f64 b.si, .float .f64 b.sx, .float .f64 b.sy, .float .f64 b.ss] 45)).cell? ⟨w.heap.size + 1, 3, none⟩ = some (.float .f64 a.sy) := by have h := (rng_bel hA (bl_refl _)) 3 _ rfl; rwa [Nat.zero_add] at h)
 (have a4 : (((w.alloc (.cells #[.int .i64 R.ra, .int .i64 R.rb, .float .f64 R.r2, .float .f64 R.r3, .float .f64 R.r4, .float .f64 R.r5, .float .f64 R.r6, .float .f64 R.r7, .float .f64 R.r8, .float .f64 R.r9, .float .f64 R.r10, .float .f64 R.r11, .int .i64 R.ro, .float .f64 R.r13] 43)).alloc (.cells #[.float .f64 a.sm, .float .f64 a.si, .float .f64 a.sx, .float .f64 a.sy, .float .f64 a.ss] 45)).alloc (.cells #[.float .f64 b.sm, .float .f64 b.si, .float .f64 b.sx, .float .f64 b.sy, .float .f64 b.ss] 45)).cell? ⟨w.heap.size + 1, 4, none⟩ = some (.float .f64 a.ss) := by have h := (rng_bel hA (bl_refl _)) 4 _ rfl; rwa [Nat.zero_add] at h)
 (have b0 : (((w.alloc (.cells #[.int .i64 R.ra, .int .i64 R.rb, .float .f64 R.r2, .float .f64 R.r3, .float .f64 R.r4, .float .f64 R.r5, .float .f64 R.r6, .float .f64 R.r7, .float .f64 R.r8, .float .f64 R.r9, .float .f64 R.r10, .float .f64 R.r11, .int .i64 R.ro, .float .f64 R.r13] 43)).alloc (.cells #[.float .f64 a.sm, .float .f64 a.si, .float .f64 a.sx, .float .f64 a.sy, .float .f64 a.ss] 45)).alloc (.cells #[.float .f64 b.sm, .float .f64 b.si, .float .f64 b.sx, .float .f64 b.sy, .float .f64 b.ss] 45)).cell? ⟨w.heap.size + 1 + 1, 0, none⟩ = some (.float .f64 b.sm) := by have h := (rng_bel hBb (bl_refl _)) 0 _ rfl; rwa [Nat.zero_add] at h)
 (have b1 : (((w.alloc (.cells #[.int .i64 R.ra, .int .i64 R.rb, .float .f64 R.r2, .float .f64 R.r3, .float .f64 R.r4, .float .f64 R.r5, .float .f64 R.r6, .float .f64 R.r7, .float .f64 R.r8, .float .f64 R.r9, .float .f64 R.r10, .float .f64 R.r11, .int .i64 R.ro, .float .f64 R.r13] 43)).alloc (.cells #[.float .f64 a.sm, .float .f64 a.si, .float .f64 a.sx, .float .f64 a.sy, .float .f64 a.ss] 45)).alloc (.cells #[.float .f64 b.sm, .float .f64 b.si, .float .f64 b.sx, .float .f64 b.sy, .float .f64 b.ss] 45)).cell? ⟨w.heap.size + 1 + 1, 1, none⟩ = some (.float .f64 b.si) := by have h := (rng_bel hBb (bl_refl _)) 1 _ rfl; rwa [Nat.zero_add] at h)
 (have b2 : (((w.alloc (.cells #[.int .i64 R.ra, .int .i64 R.rb, .float .f64 R.r2, .float .f64 R.r3, .float .f64 R.r4, .float .f64 R.r5, .float .f64 R.r6, .float .f64 R.r7, .float .f64 R.r8, .float .f64 R.r9, .float .f64 R.r10, .float .f64 R.r11, .int .i64 R.ro, .float .f64 R.r13] 43)).alloc (.cells #[.float .f64 a.sm, .float .f64 a.si, .float .f64 a.sx, .float .f64 a.sy, .float .f64 a.ss] 45)).alloc (.cells #[.float .f64 b.sm, .float .f64 b.si, .float .f64 b.sx, .float .f64 b.sy, .float .f64 b.ss] 45)).cell? ⟨w.heap.size + 1 + 1, 2, none⟩ = some (.float .f64 b.sx) := by have h := (rng_bel hBb (bl_refl _)) 2 _ rfl; rwa [Nat.zero_add] at h)
 (have b3 : (((w.alloc (.cells #[.int .i64 R.ra, .int .i64 R.rb, .float .f64 R.r2, .float .f64 R.r3, .float .f64 R.r4, .float .f64 R.r5, .float .f64 R.r6, .float .f64 R.r7, .float .f64 R.r8, .float .f64 R.r9, .float .f64 R.r10, .float .f64 R.r11, .int .i64 R.ro, .float .f64 R.r13] 43)).alloc (.cells #[.float .f64 a.sm, .float .f64 a.si, .float .f64 a.sx, .float .f64 a.sy, .float .f64 a.ss] 45)).alloc (.cells #[.float .f64 b.sm, .float .f64 b.si, .float .f64 b.sx, .float .f64 b.sy, .float .f64 b.ss] 45)).cell? ⟨w.heap.size + 1 + 1, 3, none⟩ = some (.float .f64 b.sy) := by have h := (rng_bel hBb (bl_refl _)) 3 _ rfl; rwa [Nat.zero_add] at h)
 (have b4 : (((w.alloc (.cells #[.int .i64 R.ra, .int .i64 R.rb, .float .f64 R.r2, .float .f64 R.r3, .float .f64 R.r4, .float .f64 R.r5, .float .f64 R.r6, .float .f64 R.r7, .float .f64 R.r8, .float .f64 R.r9, .float .f64 R.r10, .float .f64 R.r11, .int .i64 R.ro, .float .f64 R.r13] 43)).alloc (.cells #[.float .f64 a.sm, .float .f64 a.si, .float .f64 a.sx, .float .f64 a.sy, .float .f64 a.ss] 45)).alloc (.cells #[.float .f64 b.sm, .float .f64 b.si, .float .f64 b.sx, .float .f64 b.sy, .float .f64 b.ss] 45)).cell? ⟨w.heap.size + 1 + 1, 4, none⟩ = some (.float .f64 b.ss) := by have h := (rng_bel hBb (bl_refl _)) 4 _ rfl; rwa [Nat.zero_add] at h)
 go_enter Try.func124, Try.ntmps124
 go_wp2_with (first | (go_at_call 149; (with_reducible refine (rDot_n _ (isP_r o2 o3) (isP_r oax oay)).mono ?_); rintro e w1 ⟨r1, hr1, rfl, hb1⟩; (have k2 : w1.cell? ⟨w.heap.size, 2, none⟩ = some (.float .f64 R.r2) := by have h := (rng_bel hR hb1) 2 _ rfl; rwa [Nat.zero_add] at h); (have k3 : w1.cell? ⟨w.heap.size, 3, none⟩ = some (.float .f64 R.r3) := by have h := (rng_bel hR hb1) 3 _ rfl; rwa [Nat.zero_add] at h); (have k4 : w1.cell? ⟨w.heap.size, 4, none⟩ = some (.float .f64 R.r4) := by have h := (rng_bel hR hb1) 4 _ rfl; rwa [Nat.zero_add] at h); (have k5 : w1.cell? ⟨w.heap.size, 5, none⟩ = some (.float .f64 R.r5) := by have h := (rng_bel hR hb1) 5 _ rfl; rwa [Nat.zero_add] at h); (have k6 : w1.cell? ⟨w.heap.size, 6, none⟩ = some (.float .f64 R.r6) := by have h := (rng_bel hR hb1) 6 _ rfl; rwa [Nat.zero_add] at h); (have k7 : w1.cell? ⟨w.heap.size, 7, none⟩ = some (.float .f64 R.r7) := by have h := (rng_bel hR hb1) 7 _ rfl; rwa [Nat.zero_add] at h); (have a0 : w1.cell? ⟨w.heap.size + 1, 0, none⟩ = some (.float .f64 a.sm) := by have h := (rng_bel hA hb1) 0 _ rfl; rwa [Nat.zero_add] at h); (have a1 : w1.cell? ⟨w.heap.size + 1, 1, none⟩ = some (.float .f64 a.si) := by have h := (rng_bel hA hb1) 1 _ rfl; rwa [Nat.zero_add] at h); (have a2 : w1.cell? ⟨w.heap.size + 1, 2, none⟩ = some (.float .f64 a.sx) := by have h := (rng_bel hA hb1) 2 _ rfl; rwa [Nat.zero_add] at h); (have a3 : w1.cell? ⟨w.heap.size + 1, 3, none⟩ = some (.float .f64 a.sy) := by have h := (rng_bel hA hb1) 3 _ rfl; rwa [Nat.zero_add] at h); (have a4 : w1.cell? ⟨w.heap.size + 1, 4, none⟩ = some (.float .f64 a.ss) := by have h := (rng_bel hA hb1) 4 _ rfl; rwa [Nat.zero_add] at h); (have b0 : w1.cell? ⟨w.heap.size + 1 + 1, 0, none⟩ = some (.float .f64 b.sm) := by have h := (rng_bel hBb hb1) 0 _ rfl; rwa [Nat.zero_add] at h); (have b1 : w1.cell? ⟨w.heap.size + 1 + 1, 1, none⟩ = some (.float .f64 b.si) := by have h := (rng_bel hBb hb1) 1 _ rfl; rwa [Nat.zero_add] at h); (have b2 : w1.cell? ⟨w.heap.size + 1 + 1, 2, none⟩ = some (.float .f64 b.sx) := by have h := (rng_bel hBb hb1) 2 _ rfl; rwa [Nat.zero_add] at h); (have b3 : w1.cell? ⟨w.heap.size + 1 + 1, 3, none⟩ = some (.float .f64 b.sy) := by have h := (rng_bel hBb hb1) 3 _ rfl; rwa [Nat.zero_add] at h); (have b4 : w1.cell? ⟨w.heap.size + 1 + 1, 4, none⟩ = some (.float .f64 b.ss) := by have h := (rng_bel hBb hb1) 4 _ rfl; rwa [Nat.zero_add] at h)) | (go_at_call 149; (with_reducible refine (rDot_n _ (isP_r o4 o5) (isP_r obx oby)).mono ?_); rintro e w2 ⟨r2, hr2, rfl, hb2⟩; replace hb2 := bl_trans (show Bel (((w.alloc (.cells #[.int .i64 R.ra, .int .i64 R.rb, .float .f64 R.r2, .float .f64 R.r3, .float .f64 R.r4, .float .f64 R.r5, .float .f64 R.r6, .float .f64 R.r7, .float .f64 R.r8, .float .f64 R.r9, .float .f64 R.r10, .float .f64 R.r11, .int .i64 R.ro, .float .f64 R.r13] 43)).alloc (.cells #[.float .f64 a.sm, .float .f64 a.si, .float .f64 a.sx, .float .f64 a.sy, .float .f64 a.ss] 45)).alloc (.cells #[.float .f64 b.sm, .float .f64 b.si, .float .f64 b.sx, .float .f64 b.sy, .float .f64 b.ss] 45)) _ by repeat (first | exact bl_refl _ | assumption | apply bl_drewN | apply bl_drew | apply bl_alloc | refine bl_set ?_ (by simp <;> omega) | refine bl_trans ?_ (by assumption))) hb2; (have k2 : w2.cell? ⟨w.heap.size, 2, none⟩ = some (.float .f64 R.r2) := by have h := (rng_bel hR hb2) 2 _ rfl; rwa [Nat.zero_add] at h); (have k3 : w2.cell? ⟨w.heap.size, 3, none⟩ = some (.float .f64 R.r3) := by have h := (rng_bel hR hb2) 3 _ rfl; rwa [Nat.zero_add] at h); (have k4 : w2.cell? ⟨w.heap.size, 4, none⟩ = some (.float .f64 R.r4) := by have h := (rng_bel hR hb2) 4 _ rfl; rwa [Nat.zero_add] at h); (have k5 : w2.cell? ⟨w.heap.size, 5, none⟩ = some (.float .f64 R.r5) := by have h := (rng_bel hR hb2) 5 _ rfl; rwa [Nat.zero_add] at h); (have k6 : w2.cell? ⟨w.heap.size, 6, none⟩ = some (.float .f64 R.r6) := by have h := (rng_bel hR hb2) 6 _ rfl; rwa [Nat.zero_add] at h); (have k7 : w2.cell? ⟨w.heap.size, 7, none⟩ = some (.float .f64 R.r7) := by have h := (rng_bel hR hb2) 7 _ rfl; rwa [Nat.zero_add] at h); (have a0 : w2.cell? ⟨w.heap.size + 1, 0, none⟩ = some (.float .f64 a.sm) := by have h := (rng_bel hA hb2) 0 _ rfl; rwa [Nat.zero_add] at h); (have a1 : w2.cell? ⟨w.heap.size + 1, 1, none⟩ = some (.float .f64 a.si) := by have h := (rng_bel hA hb2) 1 _ rfl; rwa [Nat.zero_add] at h); (have a2 : w2.cell? ⟨w.heap.size + 1, 2, none⟩ = some (.float .f64 a.sx) := by have h := (rng_bel hA hb2) 2 _ rfl; rwa [Nat.zero_add] at h); (have a3 : w2.cell? ⟨w.heap.size + 1, 3, none⟩ = some (.float .f64 a.sy) := by have h := (rng_bel hA hb2) 3 _ rfl; rwa [Nat.zero_add] at h); (have a4 : w2.cell? ⟨w.heap.size + 1, 4, none⟩ = some (.float .f64 a.ss) := by have h := (rng_bel hA hb2) 4 _ rfl; rwa [Nat.zero_add] at h); (have b0 : w2.cell? ⟨w.heap.size + 1 + 1, 0, none⟩ = some (.float .f64 b.sm) := by have h := (rng_bel hBb hb2) 0 _ rfl; rwa [Nat.zero_add] at h); (have b1 : w2.cell? ⟨w.heap.size + 1 + 1, 1, none⟩ = some (.float .f64 b.si) := by have h := (rng_bel hBb hb2) 1 _ rfl; rwa [Nat.zero_add] at h); (have b2 : w2.cell? ⟨w.heap.size + 1 + 1, 2, none⟩ = some (.float .f64 b.sx) := by have h := (rng_bel hBb hb2) 2 _ rfl; rwa [Nat.zero_add] at h); (have b3 : w2.cell? ⟨w.heap.size + 1 + 1, 3, none⟩ = some (.float .f64 b.sy) := by have h := (rng_bel hBb hb2) 3 _ rfl; rwa [Nat.zero_add] at h); (have b4 : w2.cell? ⟨w.heap.size + 1 + 1, 4, none⟩ = some (.float .f64 b.ss) := by have h := (rng_bel hBb hb2) 4 _ rfl; rwa [Nat.zero_add] at h)))
 go_ret
 exact ⟨_, o_is _ (o_is _ (o_is _ hr1 (o_is _ (isF_r o6) (isF_r oas))) hr2) (o_is _ (isF_r o7) (isF_r obs)), rfl, by repeat (first | exact bl_refl _ | assumption | apply bl_drewN | apply bl_drew | apply bl_alloc | refine bl_set ?_ (by simp <;> omega) | refine bl_trans ?_ (by assumption))⟩

set_option maxRecDepth 100000 in
set_option maxHeartbeats 4000000 in
theorem rweight_w (R : RD) (a b : SD) (w : World) (oR : rok R) (oa : sok a) (ob : sok b) : Calls Try.prog 125 #[.agg #[.int .i64 R.ra, .int .i64 R.rb, .float .f64 R.r2, .float .f64 R.r3, .float .f64 R.r4, .float .f64 R.r5, .float .f64 R.r6, .float .f64 R.r7, .float .f64 R.r8, .float .f64 R.r9, .float .f64 R.r10, .float .f64 R.r11, .int .i64 R.ro, .float .f64 R.r13], .agg #[.float .f64 a.sm, .float .f64 a.si, .float .f64 a.sx, .float .f64 a.sy, .float .f64 a.ss], .agg #[.float .f64 b.sm, .float .f64 b.si, .float .f64 b.sx, .float .f64 b.sy, .float .f64 b.ss]] w fun e w' => ∃ r, isF r (wtF R a b) ∧ e = .returned (.float .f64 r) ∧ Bel w w' := by
 obtain ⟨o2, o3, o4, o5, o6, o7, o8, o9, o10, o11, o13⟩ := oR
 obtain ⟨oam, oai, oax, oay, oas⟩ := oa
 obtain ⟨obm, obi, obx, oby, obs⟩ := ob
 have q1 := run_mul Try.prog
 have q2 := run_add Try.prog
 obtain ⟨_, rfl, hR, hRt, hA, hAt, hBb, hBbt, B0, hz0⟩ := frm0 R a b w
 go_enter Try.func125, Try.ntmps125
 go_wp2
 refine wp_region_mono 7 rfl (fun i W v => match i with | 0 => v = .pointer (some ⟨w.heap.size + 1, 0, none⟩) | 1 => v = .float .f64 a.sm | 2 => v = .pointer (some ⟨w.heap.size, 2, none⟩) | 3 => v = .agg #[.float .f64 R.r2, .float .f64 R.r3] | 4 => ∃ p, isF p (dtF (nP (R.r2, R.r3)) (nP (R.r2, R.r3))) ∧ v = .float .f64 p | 5 => ∃ p, isF p (oF .mul (bitsK a.sm) (dtF (nP (R.r2, R.r3)) (nP (R.r2, R.r3)))) ∧ v = .float .f64 p | 6 => ∃ p, isF p (oF .mul (bitsK a.sm) (dtF (nP (R.r2, R.r3)) (nP (R.r2, R.r3)))) ∧ v = .float .f64 p | _ => False) ?A_rw1 (by kernel_rfl) (by kernel_rfl) ?hA_rw1 ?hmo_rw1 ?hq_rw1 ?ht_rw1
 case hA_rw1 =>
  intro s
  simp only [putL, dstO, Act.put, List.getElem?_toArray, List.getElem?_cons_zero, List.getElem?_cons_succ, Option.bind_some, List.setIfInBounds_toArray, List.set_cons_zero, List.set_cons_succ, if_true]
  all_goals exact rfl
 case hmo_rw1 =>
  intro i W W' v hi hb h
  rcases (show i = 0 ∨ i = 1 ∨ i = 2 ∨ i = 3 ∨ i = 4 ∨ i = 5 ∨ i = 6 by omega) with rfl | rfl | rfl | rfl | rfl | rfl | rfl
  all_goals exact h
 case hq_rw1 =>
  intro i o hi ho s W hs hb K hK
  have q1 := run_mul Try.prog; have q2 := run_add Try.prog; (have k2 : W.cell? ⟨w.heap.size, 2, none⟩ = some (.float .f64 R.r2) := by have h := (rng_bel hR hb) 2 _ rfl; rwa [Nat.zero_add] at h); (have k3 : W.cell? ⟨w.heap.size, 3, none⟩ = some (.float .f64 R.r3) := by have h := (rng_bel hR hb) 3 _ rfl; rwa [Nat.zero_add] at h); (have k4 : W.cell? ⟨w.heap.size, 4, none⟩ = some (.float .f64 R.r4) := by have h := (rng_bel hR hb) 4 _ rfl; rwa [Nat.zero_add] at h); (have k5 : W.cell? ⟨w.heap.size, 5, none⟩ = some (.float .f64 R.r5) := by have h := (rng_bel hR hb) 5 _ rfl; rwa [Nat.zero_add] at h); (have k6 : W.cell? ⟨w.heap.size, 6, none⟩ = some (.float .f64 R.r6) := by have h := (rng_bel hR hb) 6 _ rfl; rwa [Nat.zero_add] at h); (have k7 : W.cell? ⟨w.heap.size, 7, none⟩ = some (.float .f64 R.r7) := by have h := (rng_bel hR hb) 7 _ rfl; rwa [Nat.zero_add] at h); (have a0 : W.cell? ⟨w.heap.size + 1, 0, none⟩ = some (.float .f64 a.sm) := by have h := (rng_bel hA hb) 0 _ rfl; rwa [Nat.zero_add] at h); (have a1 : W.cell? ⟨w.heap.size + 1, 1, none⟩ = some (.float .f64 a.si) := by have h := (rng_bel hA hb) 1 _ rfl; rwa [Nat.zero_add] at h); (have a2 : W.cell? ⟨w.heap.size + 1, 2, none⟩ = some (.float .f64 a.sx) := by have h := (rng_bel hA hb) 2 _ rfl; rwa [Nat.zero_add] at h); (have a3 : W.cell? ⟨w.heap.size + 1, 3, none⟩ = some (.float .f64 a.sy) := by have h := (rng_bel hA hb) 3 _ rfl; rwa [Nat.zero_add] at h); (have a4 : W.cell? ⟨w.heap.size + 1, 4, none⟩ = some (.float .f64 a.ss) := by have h := (rng_bel hA hb) 4 _ rfl; rwa [Nat.zero_add] at h); (have b0 : W.cell? ⟨w.heap.size + 1 + 1, 0, none⟩ = some (.float .f64 b.sm) := by have h := (rng_bel hBb hb) 0 _ rfl; rwa [Nat.zero_add] at h); (have b1 : W.cell? ⟨w.heap.size + 1 + 1, 1, none⟩ = some (.float .f64 b.si) := by have h := (rng_bel hBb hb) 1 _ rfl; rwa [Nat.zero_add] at h); (have b2 : W.cell? ⟨w.heap.size + 1 + 1, 2, none⟩ = some (.float .f64 b.sx) := by have h := (rng_bel hBb hb) 2 _ rfl; rwa [Nat.zero_add] at h); (have b3 : W.cell? ⟨w.heap.size + 1 + 1, 3, none⟩ = some (.float .f64 b.sy) := by have h := (rng_bel hBb hb) 3 _ rfl; rwa [Nat.zero_add] at h); (have b4 : W.cell? ⟨w.heap.size + 1 + 1, 4, none⟩ = some (.float .f64 b.ss) := by have h := (rng_bel hBb hb) 4 _ rfl; rwa [Nat.zero_add] at h)
  rcases (show i = 0 ∨ i = 1 ∨ i = 2 ∨ i = 3 ∨ i = 4 ∨ i = 5 ∨ i = 6 by omega) with rfl | rfl | rfl | rfl | rfl | rfl | rfl
  rotate_left 1
  cases ho
  have e0 : s 0 = _ := hs 0 (by decide) (by kernel_rfl)
  simp only [e0] at hK ⊢
  rotate_left 2
  cases ho
  have e2 : s 2 = _ := hs 2 (by decide) (by kernel_rfl)
  simp only [e2] at hK ⊢
  rotate_left 1
  ·cases ho
   have e3 : s 3 = _ := hs 3 (by decide) (by kernel_rfl)
   simp only [e3] at hK ⊢
   simp only [Act.put, List.setIfInBounds_toArray, List.set_cons_zero, List.set_cons_succ] at hK
   clear hs
   go_simp
   all_goals (try go_wp2_with (first | (go_at_call 141; (with_reducible refine (rSquare_n _ (isP_r o2 o3)).mono ?_); rintro e w' ⟨r, hr, rfl, hb1⟩)))
   all_goals first | with_reducible exact hK.out _ _ ⟨_, hr, rfl⟩ hb1 | exact hK.out _ _ ⟨_, hr, rfl⟩ hb1 | with_reducible exact hK.out _ _ rfl (bl_refl _) | exact hK.out _ _ rfl (bl_refl _)
  ·cases ho
   have e1 : s 1 = _ := hs 1 (by decide) (by kernel_rfl)
   obtain ⟨p4, h4, e4⟩ := hs 4 (by decide) (by kernel_rfl)
   simp only [e1, e4] at hK ⊢
   simp only [Act.put, List.setIfInBounds_toArray, List.set_cons_zero, List.set_cons_succ] at hK
   clear hs
   go_simp
   all_goals first | with_reducible exact hK.out _ _ ⟨_, o_is _ (isF_r oam) h4, rfl⟩ (by first | exact bl_refl _ | exact bl_drewN (bl_refl _) _ | exact bl_drew (bl_refl _)) | exact hK.out _ _ ⟨_, o_is _ (isF_r oam) h4, rfl⟩ (by first | exact bl_refl _ | exact bl_drewN (bl_refl _) _ | exact bl_drew (bl_refl _)) | with_reducible exact hK.out _ _ rfl (bl_refl _) | exact hK.out _ _ rfl (bl_refl _)
  ·cases ho
   obtain ⟨p5, h5, e5⟩ := hs 5 (by decide) (by kernel_rfl)
   simp only [e5] at hK ⊢
   simp only [Act.put, List.setIfInBounds_toArray, List.set_cons_zero, List.set_cons_succ] at hK
   clear hs
   go_simp
   all_goals first | with_reducible exact hK.out _ _ ⟨_, h5, rfl⟩ (bl_refl _) | exact hK.out _ _ ⟨_, h5, rfl⟩ (bl_refl _) | with_reducible exact hK.out _ _ rfl (bl_refl _) | exact hK.out _ _ rfl (bl_refl _)
  all_goals
   try cases ho
   simp only [Act.put, List.setIfInBounds_toArray, List.set_cons_zero, List.set_cons_succ] at hK
   clear hs
   go_simp
   all_goals first | with_reducible exact hK.out _ _ rfl (bl_refl _) | exact hK.out _ _ rfl (bl_refl _)
 case ht_rw1 =>
  intro s W hs hb
  have e0 : s 0 = _ := hs 0 (by decide)
  have e1 : s 1 = _ := hs 1 (by decide)
  have e2 : s 2 = _ := hs 2 (by decide)
  have e3 : s 3 = _ := hs 3 (by decide)
  obtain ⟨p4, h4, e4⟩ := hs 4 (by decide)
  obtain ⟨p5, h5, e5⟩ := hs 5 (by decide)
  obtain ⟨p6, h6, e6⟩ := hs 6 (by decide)
  simp only [e0, e1, e2, e3, e4, e5, e6]
  clear hs e0 e1 e2 e3 e4 e5 e6
  have hS1 := h6
  have hb4 := hb
  (have k2 : W.cell? ⟨w.heap.size, 2, none⟩ = some (.float .f64 R.r2) := by have h := (rng_bel hR hb4) 2 _ rfl; rwa [Nat.zero_add] at h)
  (have k3 : W.cell? ⟨w.heap.size, 3, none⟩ = some (.float .f64 R.r3) := by have h := (rng_bel hR hb4) 3 _ rfl; rwa [Nat.zero_add] at h)
  (have k4 : W.cell? ⟨w.heap.size, 4, none⟩ = some (.float .f64 R.r4) := by have h := (rng_bel hR hb4) 4 _ rfl; rwa [Nat.zero_add] at h)
  (have k5 : W.cell? ⟨w.heap.size, 5, none⟩ = some (.float .f64 R.r5) := by have h := (rng_bel hR hb4) 5 _ rfl; rwa [Nat.zero_add] at h)
  (have k6 : W.cell? ⟨w.heap.size, 6, none⟩ = some (.float .f64 R.r6) := by have h := (rng_bel hR hb4) 6 _ rfl; rwa [Nat.zero_add] at h)
  (have k7 : W.cell? ⟨w.heap.size, 7, none⟩ = some (.float .f64 R.r7) := by have h := (rng_bel hR hb4) 7 _ rfl; rwa [Nat.zero_add] at h)
  (have a0 : W.cell? ⟨w.heap.size + 1, 0, none⟩ = some (.float .f64 a.sm) := by have h := (rng_bel hA hb4) 0 _ rfl; rwa [Nat.zero_add] at h)
  (have a1 : W.cell? ⟨w.heap.size + 1, 1, none⟩ = some (.float .f64 a.si) := by have h := (rng_bel hA hb4) 1 _ rfl; rwa [Nat.zero_add] at h)
  (have a2 : W.cell? ⟨w.heap.size + 1, 2, none⟩ = some (.float .f64 a.sx) := by have h := (rng_bel hA hb4) 2 _ rfl; rwa [Nat.zero_add] at h)
  (have a3 : W.cell? ⟨w.heap.size + 1, 3, none⟩ = some (.float .f64 a.sy) := by have h := (rng_bel hA hb4) 3 _ rfl; rwa [Nat.zero_add] at h)
  (have a4 : W.cell? ⟨w.heap.size + 1, 4, none⟩ = some (.float .f64 a.ss) := by have h := (rng_bel hA hb4) 4 _ rfl; rwa [Nat.zero_add] at h)
  (have b0 : W.cell? ⟨w.heap.size + 1 + 1, 0, none⟩ = some (.float .f64 b.sm) := by have h := (rng_bel hBb hb4) 0 _ rfl; rwa [Nat.zero_add] at h)
  (have b1 : W.cell? ⟨w.heap.size + 1 + 1, 1, none⟩ = some (.float .f64 b.si) := by have h := (rng_bel hBb hb4) 1 _ rfl; rwa [Nat.zero_add] at h)
  (have b2 : W.cell? ⟨w.heap.size + 1 + 1, 2, none⟩ = some (.float .f64 b.sx) := by have h := (rng_bel hBb hb4) 2 _ rfl; rwa [Nat.zero_add] at h)
  (have b3 : W.cell? ⟨w.heap.size + 1 + 1, 3, none⟩ = some (.float .f64 b.sy) := by have h := (rng_bel hBb hb4) 3 _ rfl; rwa [Nat.zero_add] at h)
  (have b4 : W.cell? ⟨w.heap.size + 1 + 1, 4, none⟩ = some (.float .f64 b.ss) := by have h := (rng_bel hBb hb4) 4 _ rfl; rwa [Nat.zero_add] at h)
  go_wp2
  refine at_world (fun Z => Bel (((w.alloc (.cells #[.int .i64 R.ra, .int .i64 R.rb, .float .f64 R.r2, .float .f64 R.r3, .float .f64 R.r4, .float .f64 R.r5, .float .f64 R.r6, .float .f64 R.r7, .float .f64 R.r8, .float .f64 R.r9, .float .f64 R.r10, .float .f64 R.r11, .int .i64 R.ro, .float .f64 R.r13] 43)).alloc (.cells #[.float .f64 a.sm, .float .f64 a.si, .float .f64 a.sx, .float .f64 a.sy, .float .f64 a.ss] 45)).alloc (.cells #[.float .f64 b.sm, .float .f64 b.si, .float .f64 b.sx, .float .f64 b.sy, .float .f64 b.ss] 45)) Z) (by repeat (first | exact bl_refl _ | assumption | apply bl_drewN | apply bl_drew | apply bl_alloc | refine bl_set ?_ (by simp <;> omega) | refine bl_trans ?_ (by assumption))) ?_
  intro Z hbX
  have hS := fun (V1 V2 V3 : World) => o_is (op := .add) V3 hS1 (o_is (op := .mul) V2 (isF_r oai) (o_is (op := .mul) V1 (isF_r o6) (isF_r o6)))
  refine wp_region_multiA 8 (fun i v => match i with | 0 => ∃ p, isF p (oF .add (oF .mul (bitsK a.sm) (dtF (nP (R.r2, R.r3)) (nP (R.r2, R.r3)))) (oF .mul (bitsK a.si) (oF .mul (bitsK R.r6) (bitsK R.r6)))) ∧ v = .float .f64 p | 1 => v = .pointer (some ⟨w.heap.size + 1 + 1, 0, none⟩) | 2 => v = .float .f64 b.sm | 3 => v = .pointer (some ⟨w.heap.size, 4, none⟩) | 4 => v = .agg #[.float .f64 R.r4, .float .f64 R.r5] | 5 => ∃ p, isF p (dtF (nP (R.r4, R.r5)) (nP (R.r4, R.r5))) ∧ v = .float .f64 p | 6 => ∃ p, isF p (oF .mul (bitsK b.sm) (dtF (nP (R.r4, R.r5)) (nP (R.r4, R.r5)))) ∧ v = .float .f64 p | 7 => ∃ p, isF p (oF .add (oF .add (oF .mul (bitsK a.sm) (dtF (nP (R.r2, R.r3)) (nP (R.r2, R.r3)))) (oF .mul (bitsK a.si) (oF .mul (bitsK R.r6) (bitsK R.r6)))) (oF .mul (bitsK b.sm) (dtF (nP (R.r4, R.r5)) (nP (R.r4, R.r5))))) ∧ v = .float .f64 p | _ => False) (fun _ => none) ?A_rw3 (by kernel_rfl) (by kernel_rfl) ?hA_rw3 ?ha_rw3 ?hq_rw3 [8] rfl ?ht_rw3
  case hA_rw3 =>
   intro s
   simp only [putL, dstO, Act.put, List.getElem?_toArray, List.getElem?_cons_zero, List.getElem?_cons_succ, Option.bind_some, List.setIfInBounds_toArray, List.set_cons_zero, List.set_cons_succ, if_true]
   all_goals exact rfl
  case ha_rw3 =>
   intro i o ob hi ho hal
   cases hal
  case hq_rw3 =>
   intro i o hi ho hal s hs W hb K hK
   have q1 := run_mul Try.prog; have q2 := run_add Try.prog; (have k2 : W.cell? ⟨w.heap.size, 2, none⟩ = some (.float .f64 R.r2) := by have h := (rng_bel hR (bl_trans hbX hb)) 2 _ rfl; rwa [Nat.zero_add] at h); (have k3 : W.cell? ⟨w.heap.size, 3, none⟩ = some (.float .f64 R.r3) := by have h := (rng_bel hR (bl_trans hbX hb)) 3 _ rfl; rwa [Nat.zero_add] at h); (have k4 : W.cell? ⟨w.heap.size, 4, none⟩ = some (.float .f64 R.r4) := by have h := (rng_bel hR (bl_trans hbX hb)) 4 _ rfl; rwa [Nat.zero_add] at h); (have k5 : W.cell? ⟨w.heap.size, 5, none⟩ = some (.float .f64 R.r5) := by have h := (rng_bel hR (bl_trans hbX hb)) 5 _ rfl; rwa [Nat.zero_add] at h); (have k6 : W.cell? ⟨w.heap.size, 6, none⟩ = some (.float .f64 R.r6) := by have h := (rng_bel hR (bl_trans hbX hb)) 6 _ rfl; rwa [Nat.zero_add] at h); (have k7 : W.cell? ⟨w.heap.size, 7, none⟩ = some (.float .f64 R.r7) := by have h := (rng_bel hR (bl_trans hbX hb)) 7 _ rfl; rwa [Nat.zero_add] at h); (have a0 : W.cell? ⟨w.heap.size + 1, 0, none⟩ = some (.float .f64 a.sm) := by have h := (rng_bel hA (bl_trans hbX hb)) 0 _ rfl; rwa [Nat.zero_add] at h); (have a1 : W.cell? ⟨w.heap.size + 1, 1, none⟩ = some (.float .f64 a.si) := by have h := (rng_bel hA (bl_trans hbX hb)) 1 _ rfl; rwa [Nat.zero_add] at h); (have a2 : W.cell? ⟨w.heap.size + 1, 2, none⟩ = some (.float .f64 a.sx) := by have h := (rng_bel hA (bl_trans hbX hb)) 2 _ rfl; rwa [Nat.zero_add] at h); (have a3 : W.cell? ⟨w.heap.size + 1, 3, none⟩ = some (.float .f64 a.sy) := by have h := (rng_bel hA (bl_trans hbX hb)) 3 _ rfl; rwa [Nat.zero_add] at h); (have a4 : W.cell? ⟨w.heap.size + 1, 4, none⟩ = some (.float .f64 a.ss) := by have h := (rng_bel hA (bl_trans hbX hb)) 4 _ rfl; rwa [Nat.zero_add] at h); (have b0 : W.cell? ⟨w.heap.size + 1 + 1, 0, none⟩ = some (.float .f64 b.sm) := by have h := (rng_bel hBb (bl_trans hbX hb)) 0 _ rfl; rwa [Nat.zero_add] at h); (have b1 : W.cell? ⟨w.heap.size + 1 + 1, 1, none⟩ = some (.float .f64 b.si) := by have h := (rng_bel hBb (bl_trans hbX hb)) 1 _ rfl; rwa [Nat.zero_add] at h); (have b2 : W.cell? ⟨w.heap.size + 1 + 1, 2, none⟩ = some (.float .f64 b.sx) := by have h := (rng_bel hBb (bl_trans hbX hb)) 2 _ rfl; rwa [Nat.zero_add] at h); (have b3 : W.cell? ⟨w.heap.size + 1 + 1, 3, none⟩ = some (.float .f64 b.sy) := by have h := (rng_bel hBb (bl_trans hbX hb)) 3 _ rfl; rwa [Nat.zero_add] at h); (have b4 : W.cell? ⟨w.heap.size + 1 + 1, 4, none⟩ = some (.float .f64 b.ss) := by have h := (rng_bel hBb (bl_trans hbX hb)) 4 _ rfl; rwa [Nat.zero_add] at h)
   rcases (show i = 0 ∨ i = 1 ∨ i = 2 ∨ i = 3 ∨ i = 4 ∨ i = 5 ∨ i = 6 ∨ i = 7 by omega) with rfl | rfl | rfl | rfl | rfl | rfl | rfl | rfl
   ·cases ho
    simp only [Act.put, List.setIfInBounds_toArray, List.set_cons_zero, List.set_cons_succ] at hK
    clear hs
    go_simp
    all_goals first | with_reducible exact hK.out _ _ ⟨_, hS _ _ _, rfl⟩ (bl_refl _) | exact hK.out _ _ ⟨_, hS _ _ _, rfl⟩ (bl_refl _) | with_reducible exact hK.out _ _ rfl (bl_refl _) | exact hK.out _ _ rfl (bl_refl _)
   rotate_left 1
   cases ho
   have e1 : s 1 = _ := hs 1 (by decide) (by kernel_rfl)
   simp only [e1] at hK ⊢
   rotate_left 2
   cases ho
   have e3 : s 3 = _ := hs 3 (by decide) (by kernel_rfl)
   simp only [e3] at hK ⊢
   rotate_left 1
   ·cases ho
    have e4 : s 4 = _ := hs 4 (by decide) (by kernel_rfl)
    simp only [e4] at hK ⊢
    simp only [Act.put, List.setIfInBounds_toArray, List.set_cons_zero, List.set_cons_succ] at hK
    clear hs
    go_simp
    all_goals (try go_wp2_with (first | (go_at_call 141; (with_reducible refine (rSquare_n _ (isP_r o4 o5)).mono ?_); rintro e w' ⟨r, hr, rfl, hb1⟩)))
    all_goals first | with_reducible exact hK.out _ _ ⟨_, hr, rfl⟩ hb1 | exact hK.out _ _ ⟨_, hr, rfl⟩ hb1 | with_reducible exact hK.out _ _ rfl (bl_refl _) | exact hK.out _ _ rfl (bl_refl _)
   ·cases ho
    have e2 : s 2 = _ := hs 2 (by decide) (by kernel_rfl)
    obtain ⟨p5, h5, e5⟩ := hs 5 (by decide) (by kernel_rfl)
    simp only [e2, e5] at hK ⊢
    simp only [Act.put, List.setIfInBounds_toArray, List.set_cons_zero, List.set_cons_succ] at hK
    clear hs
    go_simp
    all_goals first | with_reducible exact hK.out _ _ ⟨_, o_is _ (isF_r obm) h5, rfl⟩ (by first | exact bl_refl _ | exact bl_drewN (bl_refl _) _ | exact bl_drew (bl_refl _)) | exact hK.out _ _ ⟨_, o_is _ (isF_r obm) h5, rfl⟩ (by first | exact bl_refl _ | exact bl_drewN (bl_refl _) _ | exact bl_drew (bl_refl _)) | with_reducible exact hK.out _ _ rfl (bl_refl _) | exact hK.out _ _ rfl (bl_refl _)
   ·cases ho
    obtain ⟨p0, h0, e0⟩ := hs 0 (by decide) (by kernel_rfl)
    obtain ⟨p6, h6, e6⟩ := hs 6 (by decide) (by kernel_rfl)
    simp only [e0, e6] at hK ⊢
    simp only [Act.put, List.setIfInBounds_toArray, List.set_cons_zero, List.set_cons_succ] at hK
    clear hs
    go_simp
    all_goals first | with_reducible exact hK.out _ _ ⟨_, o_is _ h0 h6, rfl⟩ (by first | exact bl_refl _ | exact bl_drewN (bl_refl _) _ | exact bl_drew (bl_refl _)) | exact hK.out _ _ ⟨_, o_is _ h0 h6, rfl⟩ (by first | exact bl_refl _ | exact bl_drewN (bl_refl _) _ | exact bl_drew (bl_refl _)) | with_reducible exact hK.out _ _ rfl (bl_refl _) | exact hK.out _ _ rfl (bl_refl _)
   all_goals
    try cases ho
    simp only [Act.put, List.setIfInBounds_toArray, List.set_cons_zero, List.set_cons_succ] at hK
    clear hs
    go_simp
    all_goals first | with_reducible exact hK.out _ _ rfl (bl_refl _) | exact hK.out _ _ rfl (bl_refl _)
  case ht_rw3 =>
   intro s hs W hb hJ
   clear hJ
   obtain ⟨p0, h0, e0⟩ := hs 0 (by decide)
   have e1 : s 1 = _ := hs 1 (by decide)
   have e2 : s 2 = _ := hs 2 (by decide)
   have e3 : s 3 = _ := hs 3 (by decide)
   have e4 : s 4 = _ := hs 4 (by decide)
   obtain ⟨p5, h5, e5⟩ := hs 5 (by decide)
   obtain ⟨p6, h6, e6⟩ := hs 6 (by decide)
   obtain ⟨p7, h7, e7⟩ := hs 7 (by decide)
   simp only [e0, e1, e2, e3, e4, e5, e6, e7]
   clear hs e0 e1 e2 e3 e4 e5 e6 e7
   refine tail_step rfl (fun K hK => ?_)
   go_simp
   refine hK.out _ _ ?_
   clear hK K
   refine tail_end ?_
   have hS3 := h7
   have hbZ := bl_trans hbX hb
   (have k2 : W.cell? ⟨w.heap.size, 2, none⟩ = some (.float .f64 R.r2) := by have h := (rng_bel hR hbZ) 2 _ rfl; rwa [Nat.zero_add] at h)
   (have k3 : W.cell? ⟨w.heap.size, 3, none⟩ = some (.float .f64 R.r3) := by have h := (rng_bel hR hbZ) 3 _ rfl; rwa [Nat.zero_add] at h)
   (have k4 : W.cell? ⟨w.heap.size, 4, none⟩ = some (.float .f64 R.r4) := by have h := (rng_bel hR hbZ) 4 _ rfl; rwa [Nat.zero_add] at h)
   (have k5 : W.cell? ⟨w.heap.size, 5, none⟩ = some (.float .f64 R.r5) := by have h := (rng_bel hR hbZ) 5 _ rfl; rwa [Nat.zero_add] at h)
   (have k6 : W.cell? ⟨w.heap.size, 6, none⟩ = some (.float .f64 R.r6) := by have h := (rng_bel hR hbZ) 6 _ rfl; rwa [Nat.zero_add] at h)
   (have k7 : W.cell? ⟨w.heap.size, 7, none⟩ = some (.float .f64 R.r7) := by have h := (rng_bel hR hbZ) 7 _ rfl; rwa [Nat.zero_add] at h)
   (have a0 : W.cell? ⟨w.heap.size + 1, 0, none⟩ = some (.float .f64 a.sm) := by have h := (rng_bel hA hbZ) 0 _ rfl; rwa [Nat.zero_add] at h)
   (have a1 : W.cell? ⟨w.heap.size + 1, 1, none⟩ = some (.float .f64 a.si) := by have h := (rng_bel hA hbZ) 1 _ rfl; rwa [Nat.zero_add] at h)
   (have a2 : W.cell? ⟨w.heap.size + 1, 2, none⟩ = some (.float .f64 a.sx) := by have h := (rng_bel hA hbZ) 2 _ rfl; rwa [Nat.zero_add] at h)
   (have a3 : W.cell? ⟨w.heap.size + 1, 3, none⟩ = some (.float .f64 a.sy) := by have h := (rng_bel hA hbZ) 3 _ rfl; rwa [Nat.zero_add] at h)
   (have a4 : W.cell? ⟨w.heap.size + 1, 4, none⟩ = some (.float .f64 a.ss) := by have h := (rng_bel hA hbZ) 4 _ rfl; rwa [Nat.zero_add] at h)
   (have b0 : W.cell? ⟨w.heap.size + 1 + 1, 0, none⟩ = some (.float .f64 b.sm) := by have h := (rng_bel hBb hbZ) 0 _ rfl; rwa [Nat.zero_add] at h)
   (have b1 : W.cell? ⟨w.heap.size + 1 + 1, 1, none⟩ = some (.float .f64 b.si) := by have h := (rng_bel hBb hbZ) 1 _ rfl; rwa [Nat.zero_add] at h)
   (have b2 : W.cell? ⟨w.heap.size + 1 + 1, 2, none⟩ = some (.float .f64 b.sx) := by have h := (rng_bel hBb hbZ) 2 _ rfl; rwa [Nat.zero_add] at h)
   (have b3 : W.cell? ⟨w.heap.size + 1 + 1, 3, none⟩ = some (.float .f64 b.sy) := by have h := (rng_bel hBb hbZ) 3 _ rfl; rwa [Nat.zero_add] at h)
   (have b4 : W.cell? ⟨w.heap.size + 1 + 1, 4, none⟩ = some (.float .f64 b.ss) := by have h := (rng_bel hBb hbZ) 4 _ rfl; rwa [Nat.zero_add] at h)
   go_wp2
   go_ret
   exact ⟨_, o_is _ hS3 (o_is _ (isF_r obi) (o_is _ (isF_r o7) (isF_r o7))), rfl, bl_trans B0 (by repeat (first | exact hbZ | exact bl_refl _ | assumption | apply bl_drewN | apply bl_drew | apply bl_alloc | refine bl_set ?_ (by simp <;> omega) | refine bl_trans ?_ (by assumption)))⟩

theorem wp_load_abs {P : Program} {op : Oper} {a : Act} {w : World} {K : Act → World → Prop} {Q : Exit → Act → World → Prop} (ty : TypeId) (x : Operand) (ho : op.op = .load ty x) (b o : Nat) (hx : a.eval x = .pointer (some ⟨b, o, none⟩)) (I : World → List Value → Prop) (cs : List Value) (hI : I w cs) (hc : w.rangeAt b o cs) {d : TypeDesc} (hu : P.underlying ty = some d) (hd : d.isRow = true) (hi : (P.info? ty).map (·.size) = some cs.length)
  (h : ∀ W cs, I W cs → K (a.put op.dst (.agg cs.toArray)) W) : op.wp P a w K Q :=
 wp_load_mid ty x ho b o hx cs d hc hu hd hi (h w cs hI)
set_option maxRecDepth 100000 in
set_option maxHeartbeats 4000000 in
theorem rpushed_w (a : SD) (gx gy g : Nat) {p P : Nat} (w : World) (oa : sok a) (ogx : okK .f64 gx) (ogy : okK .f64 gy) (og : okK .f64 g) (hs : stB a = true) (hP : isF p P) : Calls Try.prog 123 #[.agg #[.float .f64 a.sm, .float .f64 a.si, .float .f64 a.sx, .float .f64 a.sy, .float .f64 a.ss], .agg #[.float .f64 gx, .float .f64 gy], .float .f64 g, .float .f64 p] w fun e w' => ∃ x y u, isF x (puX a.sm a.sx gx P) ∧ isF y (puX a.sm a.sy gy P) ∧ isF u (puT a.si a.ss g P) ∧ e = .returned (.agg #[.float .f64 a.sm, .float .f64 a.si, .float .f64 x, .float .f64 y, .float .f64 u]) ∧ Bel w w' := by
 obtain ⟨oam, oai, oax, oay, oas⟩ := oa
 have c1 := cmp_ne .f64
 have q1 := run_mul Try.prog
 have q2 := run_add Try.prog
 have hwm : weB a.sm = true := by unfold stB at hs; rw [Bool.and_eq_true] at hs; exact hs.1
 have hwi : weB a.si = true := by unfold stB at hs; rw [Bool.and_eq_true] at hs; exact hs.2
 have hA : (((w.alloc (.cells #[.float .f64 a.sm, .float .f64 a.si, .float .f64 a.sx, .float .f64 a.sy, .float .f64 a.ss] 45)).alloc (.cells #[.float .f64 gx, .float .f64 gy] 26)).alloc (.cells #[.float .f64 0, .float .f64 0, .float .f64 0, .float .f64 0, .float .f64 0] 45)).rangeAt (w.heap.size) 0 [.float .f64 a.sm, .float .f64 a.si, .float .f64 a.sx, .float .f64 a.sy, .float .f64 a.ss] := World.rangeAt_alloc (World.rangeAt_alloc (rng_new w [.float .f64 a.sm, .float .f64 a.si, .float .f64 a.sx, .float .f64 a.sy, .float .f64 a.ss] 45) _) _
 have hAt : (((w.alloc (.cells #[.float .f64 a.sm, .float .f64 a.si, .float .f64 a.sx, .float .f64 a.sy, .float .f64 a.ss] 45)).alloc (.cells #[.float .f64 gx, .float .f64 gy] 26)).alloc (.cells #[.float .f64 0, .float .f64 0, .float .f64 0, .float .f64 0, .float .f64 0] 45)).there (w.heap.size) 0 5 := World.there_alloc (World.there_alloc (there_new w [.float .f64 a.sm, .float .f64 a.si, .float .f64 a.sx, .float .f64 a.sy, .float .f64 a.ss] 45) _) _
 have hG : (((w.alloc (.cells #[.float .f64 a.sm, .float .f64 a.si, .float .f64 a.sx, .float .f64 a.sy, .float .f64 a.ss] 45)).alloc (.cells #[.float .f64 gx, .float .f64 gy] 26)).alloc (.cells #[.float .f64 0, .float .f64 0, .float .f64 0, .float .f64 0, .float .f64 0] 45)).rangeAt (w.heap.size + 1) 0 [.float .f64 gx, .float .f64 gy] := by
  have h := rng_new ((w.alloc (.cells #[.float .f64 a.sm, .float .f64 a.si, .float .f64 a.sx, .float .f64 a.sy, .float .f64 a.ss] 45))) [.float .f64 gx, .float .f64 gy] 26
  rw [World.size_alloc] at h
  exact World.rangeAt_alloc h _
 have hO : (((w.alloc (.cells #[.float .f64 a.sm, .float .f64 a.si, .float .f64 a.sx, .float .f64 a.sy, .float .f64 a.ss] 45)).alloc (.cells #[.float .f64 gx, .float .f64 gy] 26)).alloc (.cells #[.float .f64 0, .float .f64 0, .float .f64 0, .float .f64 0, .float .f64 0] 45)).there (w.heap.size + 1 + 1) 0 5 := by
  have h := there_new (((w.alloc (.cells #[.float .f64 a.sm, .float .f64 a.si, .float .f64 a.sx, .float .f64 a.sy, .float .f64 a.ss] 45)).alloc (.cells #[.float .f64 gx, .float .f64 gy] 26))) [.float .f64 0, .float .f64 0, .float .f64 0, .float .f64 0, .float .f64 0] 45
  rw [World.size_alloc, World.size_alloc] at h
  exact h
 have B0 : Bel w (((w.alloc (.cells #[.float .f64 a.sm, .float .f64 a.si, .float .f64 a.sx, .float .f64 a.sy, .float .f64 a.ss] 45)).alloc (.cells #[.float .f64 gx, .float .f64 gy] 26)).alloc (.cells #[.float .f64 0, .float .f64 0, .float .f64 0, .float .f64 0, .float .f64 0] 45)) := bl_alloc (bl_alloc (bl_alloc (bl_refl w) _ _) _ _) _ _
 cases hm : ltK .f64 0 a.sm
 ·cases hi : ltK .f64 0 a.si
  ·have em : eqK .f64 a.sm 0 = true := by rw [we_ne hwm, hm]; rfl
   have ei : eqK .f64 a.si 0 = true := by rw [we_ne hwi, hi]; rfl
   go_enter Try.func123, Try.ntmps123
   iterate 16 (first | go_values | go_skip | go_guarded | go_step | go_upon | go_back | dsimp only)
   refine at_world (fun W => Bel w W ∧ W.rangeAt (w.heap.size) 0 [.float .f64 a.sm, .float .f64 a.si, .float .f64 a.sx, .float .f64 a.sy, .float .f64 a.ss] ∧ W.there (w.heap.size) 0 5 ∧ W.rangeAt (w.heap.size + 1) 0 [.float .f64 gx, .float .f64 gy] ∧ W.there (w.heap.size + 1 + 1) 0 5) ⟨B0, hA, hAt, hG, hO⟩ ?_
   clear hA hAt hG hO B0
   rintro V0 ⟨B0, hA, hAt, hG, hO⟩
   (have a0 : V0.cell? ⟨w.heap.size, 0, none⟩ = some (.float .f64 a.sm) := by have h := (hA) 0 _ rfl; rwa [Nat.zero_add] at h)
   (have a1 : V0.cell? ⟨w.heap.size, 1, none⟩ = some (.float .f64 a.si) := by have h := (hA) 1 _ rfl; rwa [Nat.zero_add] at h)
   (have a2 : V0.cell? ⟨w.heap.size, 2, none⟩ = some (.float .f64 a.sx) := by have h := (hA) 2 _ rfl; rwa [Nat.zero_add] at h)
   (have a3 : V0.cell? ⟨w.heap.size, 3, none⟩ = some (.float .f64 a.sy) := by have h := (hA) 3 _ rfl; rwa [Nat.zero_add] at h)
   (have a4 : V0.cell? ⟨w.heap.size, 4, none⟩ = some (.float .f64 a.ss) := by have h := (hA) 4 _ rfl; rwa [Nat.zero_add] at h)
   (have g0 : V0.cell? ⟨w.heap.size + 1, 0, none⟩ = some (.float .f64 gx) := by have h := hG 0 _ rfl; rwa [Nat.zero_add] at h)
   (have g1 : V0.cell? ⟨w.heap.size + 1, 1, none⟩ = some (.float .f64 gy) := by have h := hG 1 _ rfl; rwa [Nat.zero_add] at h)
   have f4 : V0.frozen? ⟨w.heap.size, 4, none⟩ = false := by have h := (hAt 4 (by decide)).2; rwa [Nat.zero_add] at h
   repeat (first | ((with_reducible show Oper.wp _ ⟨_, Op.load 45 _, _, _, _, _⟩ _ _ _ _); refine wp_load_abs (P := Try.prog) 45 _ rfl (w.heap.size) 0 rfl (fun W cs => cs = [.float .f64 a.sm, .float .f64 a.si, .float .f64 a.sx, .float .f64 a.sy, .float .f64 a.ss] ∧ Bel w W ∧ W.there (w.heap.size + 1 + 1) 0 5) _ ⟨rfl, B0, hO⟩ hA Try.underlying45 rfl (by kernel_rfl) ?_; rintro ZZ cs9 ⟨rfl, BZ, hOZ⟩; simp only [go_sem]) | ((with_reducible show Oper.wp _ ⟨_, Op.store 45 _ _, _, _, _, _⟩ _ _ _ _); refine wp_store_mid (P := Try.prog) 45 _ _ rfl (w.heap.size + 1 + 1) (0) #[.float .f64 a.sm, .float .f64 a.si, .float .f64 a.sx, .float .f64 a.sy, .float .f64 a.ss] rfl rfl hOZ (by kernel_rfl) (by kernel_rfl) ?_; simp only [go_sem]) | go_values | go_skip | go_guarded | go_step | go_upon | go_back | dsimp only)
   refine bodyPost_ret (results_c (c := 8) (ty := 45) rfl rfl (run_loadVar_mid _ (w.heap.size + 1 + 1) 0 45 [.float .f64 a.sm, .float .f64 a.si, .float .f64 a.sx, .float .f64 a.sy, .float .f64 a.ss] _ (World.rangeAt_setCells_same _ _ _ _ hOZ) Try.underlying45 rfl (by kernel_rfl))) rfl ⟨a.sx, a.sy, a.ss, (pu_no hm (isF_r oax)).1, (pu_no hm (isF_r oay)).1, (pu_no hi (isF_r oas)).2, rfl, ?_⟩
   exact bel_setsJ _ _ BZ (by omega)
  ·have em : eqK .f64 a.sm 0 = true := by rw [we_ne hwm, hm]; rfl
   have ei : eqK .f64 a.si 0 = false := by rw [we_ne hwi, hi]; rfl
   go_enter Try.func123, Try.ntmps123
   iterate 16 (first | go_values | go_skip | go_guarded | go_step | go_upon | go_back | dsimp only)
   refine at_world (fun W => Bel w W ∧ W.rangeAt (w.heap.size) 0 [.float .f64 a.sm, .float .f64 a.si, .float .f64 a.sx, .float .f64 a.sy, .float .f64 a.ss] ∧ W.there (w.heap.size) 0 5 ∧ W.rangeAt (w.heap.size + 1) 0 [.float .f64 gx, .float .f64 gy] ∧ W.there (w.heap.size + 1 + 1) 0 5) ⟨B0, hA, hAt, hG, hO⟩ ?_
   clear hA hAt hG hO B0
   rintro V0 ⟨B0, hA, hAt, hG, hO⟩
   (have a0 : V0.cell? ⟨w.heap.size, 0, none⟩ = some (.float .f64 a.sm) := by have h := (hA) 0 _ rfl; rwa [Nat.zero_add] at h)
   (have a1 : V0.cell? ⟨w.heap.size, 1, none⟩ = some (.float .f64 a.si) := by have h := (hA) 1 _ rfl; rwa [Nat.zero_add] at h)
   (have a2 : V0.cell? ⟨w.heap.size, 2, none⟩ = some (.float .f64 a.sx) := by have h := (hA) 2 _ rfl; rwa [Nat.zero_add] at h)
   (have a3 : V0.cell? ⟨w.heap.size, 3, none⟩ = some (.float .f64 a.sy) := by have h := (hA) 3 _ rfl; rwa [Nat.zero_add] at h)
   (have a4 : V0.cell? ⟨w.heap.size, 4, none⟩ = some (.float .f64 a.ss) := by have h := (hA) 4 _ rfl; rwa [Nat.zero_add] at h)
   (have g0 : V0.cell? ⟨w.heap.size + 1, 0, none⟩ = some (.float .f64 gx) := by have h := hG 0 _ rfl; rwa [Nat.zero_add] at h)
   (have g1 : V0.cell? ⟨w.heap.size + 1, 1, none⟩ = some (.float .f64 gy) := by have h := hG 1 _ rfl; rwa [Nat.zero_add] at h)
   have f4 : V0.frozen? ⟨w.heap.size, 4, none⟩ = false := by have h := (hAt 4 (by decide)).2; rwa [Nat.zero_add] at h
   repeat (first | ((with_reducible show Oper.wp _ ⟨_, Op.load 45 _, _, _, _, _⟩ _ _ _ _); refine wp_load_abs (P := Try.prog) 45 _ rfl (w.heap.size) 0 rfl (fun W cs => ∃ r9, isF r9 (puT a.si a.ss g P) ∧ cs = [.float .f64 a.sm, .float .f64 a.si, .float .f64 a.sx, .float .f64 a.sy, .float .f64 r9] ∧ Bel w W ∧ W.there (w.heap.size + 1 + 1) 0 5) _ ⟨_, puT_yes hi (o_is _ (isF_r oas) (o_is _ (isF_r oai) (o_is _ hP (isF_r og)))), rfl, bl_drewN (bl_set B0 (Nat.le_refl _)) _, bel_there (there_set hO) (bl_drewN (bl_refl _) _)⟩ (rng_bel (rng_upd (k := 4) hA (by simp)) (bl_drewN (bl_refl _) _)) Try.underlying45 rfl (by kernel_rfl) ?_; rintro ZZ cs9 ⟨r9, hr9, rfl, BZ, hOZ⟩; simp only [go_sem]) | ((with_reducible show Oper.wp _ ⟨_, Op.store 45 _ _, _, _, _, _⟩ _ _ _ _); refine wp_store_mid (P := Try.prog) 45 _ _ rfl (w.heap.size + 1 + 1) (0) #[.float .f64 a.sm, .float .f64 a.si, .float .f64 a.sx, .float .f64 a.sy, .float .f64 r9] rfl rfl hOZ (by kernel_rfl) (by kernel_rfl) ?_; simp only [go_sem]) | go_values | go_skip | go_guarded | go_step | go_upon | go_back | dsimp only)
   refine bodyPost_ret (results_c (c := 8) (ty := 45) rfl rfl (run_loadVar_mid _ (w.heap.size + 1 + 1) 0 45 [.float .f64 a.sm, .float .f64 a.si, .float .f64 a.sx, .float .f64 a.sy, .float .f64 r9] _ (World.rangeAt_setCells_same _ _ _ _ hOZ) Try.underlying45 rfl (by kernel_rfl))) rfl ⟨a.sx, a.sy, r9, (pu_no hm (isF_r oax)).1, (pu_no hm (isF_r oay)).1, hr9, rfl, ?_⟩
   exact bel_setsJ _ _ BZ (by omega)
 ·cases hi : ltK .f64 0 a.si
  ·have em : eqK .f64 a.sm 0 = false := by rw [we_ne hwm, hm]; rfl
   have ei : eqK .f64 a.si 0 = true := by rw [we_ne hwi, hi]; rfl
   go_enter Try.func123, Try.ntmps123
   iterate 16 (first | go_values | go_skip | go_guarded | go_step | go_upon | go_back | dsimp only)
   refine at_world (fun W => Bel w W ∧ W.rangeAt (w.heap.size) 0 [.float .f64 a.sm, .float .f64 a.si, .float .f64 a.sx, .float .f64 a.sy, .float .f64 a.ss] ∧ W.there (w.heap.size) 0 5 ∧ W.rangeAt (w.heap.size + 1) 0 [.float .f64 gx, .float .f64 gy] ∧ W.there (w.heap.size + 1 + 1) 0 5) ⟨B0, hA, hAt, hG, hO⟩ ?_
   clear hA hAt hG hO B0
   rintro V0 ⟨B0, hA, hAt, hG, hO⟩
   (have a0 : V0.cell? ⟨w.heap.size, 0, none⟩ = some (.float .f64 a.sm) := by have h := (hA) 0 _ rfl; rwa [Nat.zero_add] at h)
   (have a1 : V0.cell? ⟨w.heap.size, 1, none⟩ = some (.float .f64 a.si) := by have h := (hA) 1 _ rfl; rwa [Nat.zero_add] at h)
   (have a2 : V0.cell? ⟨w.heap.size, 2, none⟩ = some (.float .f64 a.sx) := by have h := (hA) 2 _ rfl; rwa [Nat.zero_add] at h)
   (have a3 : V0.cell? ⟨w.heap.size, 3, none⟩ = some (.float .f64 a.sy) := by have h := (hA) 3 _ rfl; rwa [Nat.zero_add] at h)
   (have a4 : V0.cell? ⟨w.heap.size, 4, none⟩ = some (.float .f64 a.ss) := by have h := (hA) 4 _ rfl; rwa [Nat.zero_add] at h)
   (have g0 : V0.cell? ⟨w.heap.size + 1, 0, none⟩ = some (.float .f64 gx) := by have h := hG 0 _ rfl; rwa [Nat.zero_add] at h)
   (have g1 : V0.cell? ⟨w.heap.size + 1, 1, none⟩ = some (.float .f64 gy) := by have h := hG 1 _ rfl; rwa [Nat.zero_add] at h)
   repeat (first | (go_at_call 148; refine (rMore_n _ (isP_r oax oay) (o_is _ (isF_r oam) hP) (isP_r ogx ogy)).mono ?_; rintro e w1 ⟨x, y, hxy, rfl, hb1⟩; replace hb1 := bl_trans (show Bel V0 _ by repeat (first | exact bl_refl _ | assumption | apply bl_drewN | apply bl_drew | apply bl_alloc | refine bl_set ?_ (by simp <;> omega) | refine bl_trans ?_ (by assumption))) hb1; have hA1 := rng_bel hA hb1; (have hT1 : w1.there (w.heap.size) 2 2 := fun j hj => by have h := (bel_there hAt hb1) (2 + j) (by omega); rwa [Nat.zero_add] at h)) | ((with_reducible show Oper.wp _ ⟨_, Op.store 26 _ _, _, _, _, _⟩ _ _ _ _); refine wp_store_abs (P := Try.prog) 26 _ _ rfl (w.heap.size) 2 #[.float .f64 x, .float .f64 y] rfl rfl hT1 (by kernel_rfl) (by kernel_rfl) (fun V => Bel w V ∧ V.rangeAt (w.heap.size) 0 [.float .f64 a.sm, .float .f64 a.si, .float .f64 x, .float .f64 y, .float .f64 a.ss] ∧ V.there (w.heap.size) 0 5 ∧ V.there (w.heap.size + 1 + 1) 0 5) ⟨bel_setsJ _ _ (bl_trans B0 hb1) (Nat.le_refl _), rng_upd (k := 3) (v := .float .f64 y) (rng_upd (k := 2) (v := .float .f64 x) hA1 (by simp)) (by simp), World.there_setCells (bel_there hAt hb1) _ _ _, World.there_setCells (bel_there hO hb1) _ _ _⟩ ?_; rintro V5 ⟨B5, hA5, hAt5, hO5⟩; (have a0 : V5.cell? ⟨w.heap.size, 0, none⟩ = some (.float .f64 a.sm) := by have h := (hA5) 0 _ rfl; rwa [Nat.zero_add] at h); (have a1 : V5.cell? ⟨w.heap.size, 1, none⟩ = some (.float .f64 a.si) := by have h := (hA5) 1 _ rfl; rwa [Nat.zero_add] at h); (have a2 : V5.cell? ⟨w.heap.size, 2, none⟩ = some (.float .f64 x) := by have h := (hA5) 2 _ rfl; rwa [Nat.zero_add] at h); (have a3 : V5.cell? ⟨w.heap.size, 3, none⟩ = some (.float .f64 y) := by have h := (hA5) 3 _ rfl; rwa [Nat.zero_add] at h); (have a4 : V5.cell? ⟨w.heap.size, 4, none⟩ = some (.float .f64 a.ss) := by have h := (hA5) 4 _ rfl; rwa [Nat.zero_add] at h); (have f4 : V5.frozen? ⟨w.heap.size, 4, none⟩ = false := by have h := (hAt5 4 (by decide)).2; rwa [Nat.zero_add] at h); simp only [go_sem]) | ((with_reducible show Oper.wp _ ⟨_, Op.load 45 _, _, _, _, _⟩ _ _ _ _); refine wp_load_abs (P := Try.prog) 45 _ rfl (w.heap.size) 0 rfl (fun W cs => cs = [.float .f64 a.sm, .float .f64 a.si, .float .f64 x, .float .f64 y, .float .f64 a.ss] ∧ Bel w W ∧ W.there (w.heap.size + 1 + 1) 0 5) _ ⟨rfl, B5, hO5⟩ hA5 Try.underlying45 rfl (by kernel_rfl) ?_; rintro ZZ cs9 ⟨rfl, BZ, hOZ⟩; simp only [go_sem]) | ((with_reducible show Oper.wp _ ⟨_, Op.store 45 _ _, _, _, _, _⟩ _ _ _ _); refine wp_store_mid (P := Try.prog) 45 _ _ rfl (w.heap.size + 1 + 1) (0) #[.float .f64 a.sm, .float .f64 a.si, .float .f64 x, .float .f64 y, .float .f64 a.ss] rfl rfl hOZ (by kernel_rfl) (by kernel_rfl) ?_; simp only [go_sem]) | go_values | go_skip | go_guarded | go_step | go_upon | go_back | dsimp only)
   refine bodyPost_ret (results_c (c := 8) (ty := 45) rfl rfl (run_loadVar_mid _ (w.heap.size + 1 + 1) 0 45 [.float .f64 a.sm, .float .f64 a.si, .float .f64 x, .float .f64 y, .float .f64 a.ss] _ (World.rangeAt_setCells_same _ _ _ _ hOZ) Try.underlying45 rfl (by kernel_rfl))) rfl ⟨x, y, a.ss, puX_yes hm ⟨hxy.1, congrArg Prod.fst hxy.2.2⟩, puX_yes hm ⟨hxy.2.1, congrArg Prod.snd hxy.2.2⟩, (pu_no hi (isF_r oas)).2, rfl, ?_⟩
   exact bel_setsJ _ _ BZ (by omega)
  ·have em : eqK .f64 a.sm 0 = false := by rw [we_ne hwm, hm]; rfl
   have ei : eqK .f64 a.si 0 = false := by rw [we_ne hwi, hi]; rfl
   go_enter Try.func123, Try.ntmps123
   iterate 16 (first | go_values | go_skip | go_guarded | go_step | go_upon | go_back | dsimp only)
   refine at_world (fun W => Bel w W ∧ W.rangeAt (w.heap.size) 0 [.float .f64 a.sm, .float .f64 a.si, .float .f64 a.sx, .float .f64 a.sy, .float .f64 a.ss] ∧ W.there (w.heap.size) 0 5 ∧ W.rangeAt (w.heap.size + 1) 0 [.float .f64 gx, .float .f64 gy] ∧ W.there (w.heap.size + 1 + 1) 0 5) ⟨B0, hA, hAt, hG, hO⟩ ?_
   clear hA hAt hG hO B0
   rintro V0 ⟨B0, hA, hAt, hG, hO⟩
   (have a0 : V0.cell? ⟨w.heap.size, 0, none⟩ = some (.float .f64 a.sm) := by have h := (hA) 0 _ rfl; rwa [Nat.zero_add] at h)
   (have a1 : V0.cell? ⟨w.heap.size, 1, none⟩ = some (.float .f64 a.si) := by have h := (hA) 1 _ rfl; rwa [Nat.zero_add] at h)
   (have a2 : V0.cell? ⟨w.heap.size, 2, none⟩ = some (.float .f64 a.sx) := by have h := (hA) 2 _ rfl; rwa [Nat.zero_add] at h)
   (have a3 : V0.cell? ⟨w.heap.size, 3, none⟩ = some (.float .f64 a.sy) := by have h := (hA) 3 _ rfl; rwa [Nat.zero_add] at h)
   (have a4 : V0.cell? ⟨w.heap.size, 4, none⟩ = some (.float .f64 a.ss) := by have h := (hA) 4 _ rfl; rwa [Nat.zero_add] at h)
   (have g0 : V0.cell? ⟨w.heap.size + 1, 0, none⟩ = some (.float .f64 gx) := by have h := hG 0 _ rfl; rwa [Nat.zero_add] at h)
   (have g1 : V0.cell? ⟨w.heap.size + 1, 1, none⟩ = some (.float .f64 gy) := by have h := hG 1 _ rfl; rwa [Nat.zero_add] at h)
   repeat (first | (go_at_call 148; refine (rMore_n _ (isP_r oax oay) (o_is _ (isF_r oam) hP) (isP_r ogx ogy)).mono ?_; rintro e w1 ⟨x, y, hxy, rfl, hb1⟩; replace hb1 := bl_trans (show Bel V0 _ by repeat (first | exact bl_refl _ | assumption | apply bl_drewN | apply bl_drew | apply bl_alloc | refine bl_set ?_ (by simp <;> omega) | refine bl_trans ?_ (by assumption))) hb1; have hA1 := rng_bel hA hb1; (have hT1 : w1.there (w.heap.size) 2 2 := fun j hj => by have h := (bel_there hAt hb1) (2 + j) (by omega); rwa [Nat.zero_add] at h)) | ((with_reducible show Oper.wp _ ⟨_, Op.store 26 _ _, _, _, _, _⟩ _ _ _ _); refine wp_store_abs (P := Try.prog) 26 _ _ rfl (w.heap.size) 2 #[.float .f64 x, .float .f64 y] rfl rfl hT1 (by kernel_rfl) (by kernel_rfl) (fun V => Bel w V ∧ V.rangeAt (w.heap.size) 0 [.float .f64 a.sm, .float .f64 a.si, .float .f64 x, .float .f64 y, .float .f64 a.ss] ∧ V.there (w.heap.size) 0 5 ∧ V.there (w.heap.size + 1 + 1) 0 5) ⟨bel_setsJ _ _ (bl_trans B0 hb1) (Nat.le_refl _), rng_upd (k := 3) (v := .float .f64 y) (rng_upd (k := 2) (v := .float .f64 x) hA1 (by simp)) (by simp), World.there_setCells (bel_there hAt hb1) _ _ _, World.there_setCells (bel_there hO hb1) _ _ _⟩ ?_; rintro V5 ⟨B5, hA5, hAt5, hO5⟩; (have a0 : V5.cell? ⟨w.heap.size, 0, none⟩ = some (.float .f64 a.sm) := by have h := (hA5) 0 _ rfl; rwa [Nat.zero_add] at h); (have a1 : V5.cell? ⟨w.heap.size, 1, none⟩ = some (.float .f64 a.si) := by have h := (hA5) 1 _ rfl; rwa [Nat.zero_add] at h); (have a2 : V5.cell? ⟨w.heap.size, 2, none⟩ = some (.float .f64 x) := by have h := (hA5) 2 _ rfl; rwa [Nat.zero_add] at h); (have a3 : V5.cell? ⟨w.heap.size, 3, none⟩ = some (.float .f64 y) := by have h := (hA5) 3 _ rfl; rwa [Nat.zero_add] at h); (have a4 : V5.cell? ⟨w.heap.size, 4, none⟩ = some (.float .f64 a.ss) := by have h := (hA5) 4 _ rfl; rwa [Nat.zero_add] at h); (have f4 : V5.frozen? ⟨w.heap.size, 4, none⟩ = false := by have h := (hAt5 4 (by decide)).2; rwa [Nat.zero_add] at h); simp only [go_sem]) | ((with_reducible show Oper.wp _ ⟨_, Op.load 45 _, _, _, _, _⟩ _ _ _ _); refine wp_load_abs (P := Try.prog) 45 _ rfl (w.heap.size) 0 rfl (fun W cs => ∃ r9, isF r9 (puT a.si a.ss g P) ∧ cs = [.float .f64 a.sm, .float .f64 a.si, .float .f64 x, .float .f64 y, .float .f64 r9] ∧ Bel w W ∧ W.there (w.heap.size + 1 + 1) 0 5) _ ⟨_, puT_yes hi (o_is _ (isF_r oas) (o_is _ (isF_r oai) (o_is _ hP (isF_r og)))), rfl, bl_drewN (bl_set B5 (Nat.le_refl _)) _, bel_there (there_set hO5) (bl_drewN (bl_refl _) _)⟩ (rng_bel (rng_upd (k := 4) hA5 (by simp)) (bl_drewN (bl_refl _) _)) Try.underlying45 rfl (by kernel_rfl) ?_; rintro ZZ cs9 ⟨r9, hr9, rfl, BZ, hOZ⟩; simp only [go_sem]) | ((with_reducible show Oper.wp _ ⟨_, Op.store 45 _ _, _, _, _, _⟩ _ _ _ _); refine wp_store_mid (P := Try.prog) 45 _ _ rfl (w.heap.size + 1 + 1) (0) #[.float .f64 a.sm, .float .f64 a.si, .float .f64 x, .float .f64 y, .float .f64 r9] rfl rfl hOZ (by kernel_rfl) (by kernel_rfl) ?_; simp only [go_sem]) | go_values | go_skip | go_guarded | go_step | go_upon | go_back | dsimp only)
   refine bodyPost_ret (results_c (c := 8) (ty := 45) rfl rfl (run_loadVar_mid _ (w.heap.size + 1 + 1) 0 45 [.float .f64 a.sm, .float .f64 a.si, .float .f64 x, .float .f64 y, .float .f64 r9] _ (World.rangeAt_setCells_same _ _ _ _ hOZ) Try.underlying45 rfl (by kernel_rfl))) rfl ⟨x, y, r9, puX_yes hm ⟨hxy.1, congrArg Prod.fst hxy.2.2⟩, puX_yes hm ⟨hxy.2.1, congrArg Prod.snd hxy.2.2⟩, hr9, rfl, ?_⟩
   exact bel_setsJ _ _ BZ (by omega)

end Go.Proofs.Ytfohggiehbplkaa
