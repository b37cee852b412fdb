/-
  What each function of package poly answers, and what the reference of its chapter answers: one contract a function, for every float: the answer stands in the relation of its formula to what was given; of the memory that was there nothing has turned.
-/
import Derived.Test.YtpedpgpgcmhnoaaVec
import Derived.Test.YtpedpgpgcmhnoaaCb
import Derived.Below
import Derived.WalkKit
import Derived.WalkLawsBesides
import Derived.WalkSpells
import Derived.ProofKit
import Derived.OpenShut
import Derived.Deep.RegionHeld3
namespace Go.Proofs.Ytpedpgpgcmhnoaa
open Go.ChangeShapes Go.WideShapes Go.ChangeAt Go.RowKit
set_option linter.unusedVariables false
set_option linter.unusedSimpArgs false


set_option maxRecDepth 100000 in
set_option maxHeartbeats 2000000 in
theorem piece_11 {k nx ny fd ax ay bx b_y : Nat} (w : World) (hp : PnB (nx, ny, fd)) (ha : PtB k (ax, ay)) (hb : PtB k (bx, b_y)) (hk : k ≤ 600) (h1 : leK .f64 (frK (nx, ny, fd) (ax, ay)) 0 = true) (h2 : leK .f64 (frK (nx, ny, fd) (bx, b_y)) 0 = true) : Calls Try.prog 49 #[.agg #[.float .f64 ax, .float .f64 ay, .float .f64 (frK (nx, ny, fd) (ax, ay))], .agg #[.float .f64 bx, .float .f64 b_y, .float .f64 (frK (nx, ny, fd) (bx, b_y))]] w fun e w' => e = .returned (.tuple #[.agg #[.float .f64 ax, .float .f64 ay, .float .f64 bx, .float .f64 b_y, .int .i64 0, .int .i64 1], .bool true]) ∧ Bel w w' := by
  have z0_0 : (w.alloc (.cells #[.float .f64 ax, .float .f64 ay, .float .f64 (frK (nx, ny, fd) (ax, ay))] 83)).cell? ⟨w.heap.size, 0, none⟩ = some (.float .f64 ax) := by rw [World.cell?_alloc_new]; rfl
  replace z0_0 := up_alloc (o := .cells #[.float .f64 bx, .float .f64 b_y, .float .f64 (frK (nx, ny, fd) (bx, b_y))] 83) z0_0
  replace z0_0 := up_alloc (o := .cells #[.float .f64 0, .float .f64 0, .float .f64 0, .float .f64 0, .int .i64 0, .int .i64 0] 79) z0_0
  have z0_1 : (w.alloc (.cells #[.float .f64 ax, .float .f64 ay, .float .f64 (frK (nx, ny, fd) (ax, ay))] 83)).cell? ⟨w.heap.size, 1, none⟩ = some (.float .f64 ay) := by rw [World.cell?_alloc_new]; rfl
  replace z0_1 := up_alloc (o := .cells #[.float .f64 bx, .float .f64 b_y, .float .f64 (frK (nx, ny, fd) (bx, b_y))] 83) z0_1
  replace z0_1 := up_alloc (o := .cells #[.float .f64 0, .float .f64 0, .float .f64 0, .float .f64 0, .int .i64 0, .int .i64 0] 79) z0_1
  have z0_2 : (w.alloc (.cells #[.float .f64 ax, .float .f64 ay, .float .f64 (frK (nx, ny, fd) (ax, ay))] 83)).cell? ⟨w.heap.size, 2, none⟩ = some (.float .f64 (frK (nx, ny, fd) (ax, ay))) := by rw [World.cell?_alloc_new]; rfl
  replace z0_2 := up_alloc (o := .cells #[.float .f64 bx, .float .f64 b_y, .float .f64 (frK (nx, ny, fd) (bx, b_y))] 83) z0_2
  replace z0_2 := up_alloc (o := .cells #[.float .f64 0, .float .f64 0, .float .f64 0, .float .f64 0, .int .i64 0, .int .i64 0] 79) z0_2
  have z1_0 : ((w.alloc (.cells #[.float .f64 ax, .float .f64 ay, .float .f64 (frK (nx, ny, fd) (ax, ay))] 83)).alloc (.cells #[.float .f64 bx, .float .f64 b_y, .float .f64 (frK (nx, ny, fd) (bx, b_y))] 83)).cell? ⟨w.heap.size + 1, 0, none⟩ = some (.float .f64 bx) := by rw [← (show (w.alloc (.cells #[.float .f64 ax, .float .f64 ay, .float .f64 (frK (nx, ny, fd) (ax, ay))] 83)).heap.size = w.heap.size + 1 by simp only [World.size_alloc]), World.cell?_alloc_new]; rfl
  replace z1_0 := up_alloc (o := .cells #[.float .f64 0, .float .f64 0, .float .f64 0, .float .f64 0, .int .i64 0, .int .i64 0] 79) z1_0
  have z1_1 : ((w.alloc (.cells #[.float .f64 ax, .float .f64 ay, .float .f64 (frK (nx, ny, fd) (ax, ay))] 83)).alloc (.cells #[.float .f64 bx, .float .f64 b_y, .float .f64 (frK (nx, ny, fd) (bx, b_y))] 83)).cell? ⟨w.heap.size + 1, 1, none⟩ = some (.float .f64 b_y) := by rw [← (show (w.alloc (.cells #[.float .f64 ax, .float .f64 ay, .float .f64 (frK (nx, ny, fd) (ax, ay))] 83)).heap.size = w.heap.size + 1 by simp only [World.size_alloc]), World.cell?_alloc_new]; rfl
  replace z1_1 := up_alloc (o := .cells #[.float .f64 0, .float .f64 0, .float .f64 0, .float .f64 0, .int .i64 0, .int .i64 0] 79) z1_1
  have z1_2 : ((w.alloc (.cells #[.float .f64 ax, .float .f64 ay, .float .f64 (frK (nx, ny, fd) (ax, ay))] 83)).alloc (.cells #[.float .f64 bx, .float .f64 b_y, .float .f64 (frK (nx, ny, fd) (bx, b_y))] 83)).cell? ⟨w.heap.size + 1, 2, none⟩ = some (.float .f64 (frK (nx, ny, fd) (bx, b_y))) := by rw [← (show (w.alloc (.cells #[.float .f64 ax, .float .f64 ay, .float .f64 (frK (nx, ny, fd) (ax, ay))] 83)).heap.size = w.heap.size + 1 by simp only [World.size_alloc]), World.cell?_alloc_new]; rfl
  replace z1_2 := up_alloc (o := .cells #[.float .f64 0, .float .f64 0, .float .f64 0, .float .f64 0, .int .i64 0, .int .i64 0] 79) z1_2
  have z2_0 : (((w.alloc (.cells #[.float .f64 ax, .float .f64 ay, .float .f64 (frK (nx, ny, fd) (ax, ay))] 83)).alloc (.cells #[.float .f64 bx, .float .f64 b_y, .float .f64 (frK (nx, ny, fd) (bx, b_y))] 83)).alloc (.cells #[.float .f64 0, .float .f64 0, .float .f64 0, .float .f64 0, .int .i64 0, .int .i64 0] 79)).cell? ⟨w.heap.size + 1 + 1, 0, none⟩ = some (.float .f64 0) := by rw [← (show ((w.alloc (.cells #[.float .f64 ax, .float .f64 ay, .float .f64 (frK (nx, ny, fd) (ax, ay))] 83)).alloc (.cells #[.float .f64 bx, .float .f64 b_y, .float .f64 (frK (nx, ny, fd) (bx, b_y))] 83)).heap.size = w.heap.size + 1 + 1 by simp only [World.size_alloc]), World.cell?_alloc_new]; rfl
  have z2_1 : (((w.alloc (.cells #[.float .f64 ax, .float .f64 ay, .float .f64 (frK (nx, ny, fd) (ax, ay))] 83)).alloc (.cells #[.float .f64 bx, .float .f64 b_y, .float .f64 (frK (nx, ny, fd) (bx, b_y))] 83)).alloc (.cells #[.float .f64 0, .float .f64 0, .float .f64 0, .float .f64 0, .int .i64 0, .int .i64 0] 79)).cell? ⟨w.heap.size + 1 + 1, 1, none⟩ = some (.float .f64 0) := by rw [← (show ((w.alloc (.cells #[.float .f64 ax, .float .f64 ay, .float .f64 (frK (nx, ny, fd) (ax, ay))] 83)).alloc (.cells #[.float .f64 bx, .float .f64 b_y, .float .f64 (frK (nx, ny, fd) (bx, b_y))] 83)).heap.size = w.heap.size + 1 + 1 by simp only [World.size_alloc]), World.cell?_alloc_new]; rfl
  have z2_2 : (((w.alloc (.cells #[.float .f64 ax, .float .f64 ay, .float .f64 (frK (nx, ny, fd) (ax, ay))] 83)).alloc (.cells #[.float .f64 bx, .float .f64 b_y, .float .f64 (frK (nx, ny, fd) (bx, b_y))] 83)).alloc (.cells #[.float .f64 0, .float .f64 0, .float .f64 0, .float .f64 0, .int .i64 0, .int .i64 0] 79)).cell? ⟨w.heap.size + 1 + 1, 2, none⟩ = some (.float .f64 0) := by rw [← (show ((w.alloc (.cells #[.float .f64 ax, .float .f64 ay, .float .f64 (frK (nx, ny, fd) (ax, ay))] 83)).alloc (.cells #[.float .f64 bx, .float .f64 b_y, .float .f64 (frK (nx, ny, fd) (bx, b_y))] 83)).heap.size = w.heap.size + 1 + 1 by simp only [World.size_alloc]), World.cell?_alloc_new]; rfl
  have z2_3 : (((w.alloc (.cells #[.float .f64 ax, .float .f64 ay, .float .f64 (frK (nx, ny, fd) (ax, ay))] 83)).alloc (.cells #[.float .f64 bx, .float .f64 b_y, .float .f64 (frK (nx, ny, fd) (bx, b_y))] 83)).alloc (.cells #[.float .f64 0, .float .f64 0, .float .f64 0, .float .f64 0, .int .i64 0, .int .i64 0] 79)).cell? ⟨w.heap.size + 1 + 1, 3, none⟩ = some (.float .f64 0) := by rw [← (show ((w.alloc (.cells #[.float .f64 ax, .float .f64 ay, .float .f64 (frK (nx, ny, fd) (ax, ay))] 83)).alloc (.cells #[.float .f64 bx, .float .f64 b_y, .float .f64 (frK (nx, ny, fd) (bx, b_y))] 83)).heap.size = w.heap.size + 1 + 1 by simp only [World.size_alloc]), World.cell?_alloc_new]; rfl
  have z2_4 : (((w.alloc (.cells #[.float .f64 ax, .float .f64 ay, .float .f64 (frK (nx, ny, fd) (ax, ay))] 83)).alloc (.cells #[.float .f64 bx, .float .f64 b_y, .float .f64 (frK (nx, ny, fd) (bx, b_y))] 83)).alloc (.cells #[.float .f64 0, .float .f64 0, .float .f64 0, .float .f64 0, .int .i64 0, .int .i64 0] 79)).cell? ⟨w.heap.size + 1 + 1, 4, none⟩ = some (.int .i64 0) := by rw [← (show ((w.alloc (.cells #[.float .f64 ax, .float .f64 ay, .float .f64 (frK (nx, ny, fd) (ax, ay))] 83)).alloc (.cells #[.float .f64 bx, .float .f64 b_y, .float .f64 (frK (nx, ny, fd) (bx, b_y))] 83)).heap.size = w.heap.size + 1 + 1 by simp only [World.size_alloc]), World.cell?_alloc_new]; rfl
  have z2_5 : (((w.alloc (.cells #[.float .f64 ax, .float .f64 ay, .float .f64 (frK (nx, ny, fd) (ax, ay))] 83)).alloc (.cells #[.float .f64 bx, .float .f64 b_y, .float .f64 (frK (nx, ny, fd) (bx, b_y))] 83)).alloc (.cells #[.float .f64 0, .float .f64 0, .float .f64 0, .float .f64 0, .int .i64 0, .int .i64 0] 79)).cell? ⟨w.heap.size + 1 + 1, 5, none⟩ = some (.int .i64 0) := by rw [← (show ((w.alloc (.cells #[.float .f64 ax, .float .f64 ay, .float .f64 (frK (nx, ny, fd) (ax, ay))] 83)).alloc (.cells #[.float .f64 bx, .float .f64 b_y, .float .f64 (frK (nx, ny, fd) (bx, b_y))] 83)).heap.size = w.heap.size + 1 + 1 by simp only [World.size_alloc]), World.cell?_alloc_new]; rfl
  have B0 : Bel w (((w.alloc (.cells #[.float .f64 ax, .float .f64 ay, .float .f64 (frK (nx, ny, fd) (ax, ay))] 83)).alloc (.cells #[.float .f64 bx, .float .f64 b_y, .float .f64 (frK (nx, ny, fd) (bx, b_y))] 83)).alloc (.cells #[.float .f64 0, .float .f64 0, .float .f64 0, .float .f64 0, .int .i64 0, .int .i64 0] 79)) := bl_alloc (bl_alloc (bl_alloc (bl_refl w) _ _) _ _) _ _
  go_enter Try.func49, Try.ntmps49
  go_wp2_with (first | (go_at_call 78; refine (ewithin_d _ _ _ _).mono ?_; rintro e w' ⟨rfl, hb⟩; (first | rw [h1] | rw [h2]); (first | have B := bl_trans B hb | have B := bl_trans (by repeat (first | exact B | apply bl_drewN)) hb | have B := bl_trans (by repeat (first | exact B | apply bl_drewN | apply bl_drew | apply bl_alloc | refine bl_set ?_ (by simp <;> omega))) hb | have B := hb); (try clear hc hf hz); obtain ⟨hc, hf⟩ := bcell B; have hz := B.size; (try simp at hz)))
  replace z0_0 := keep B z0_0
  replace z0_1 := keep B z0_1
  replace z0_2 := keep B z0_2
  replace z1_0 := keep B z1_0
  replace z1_1 := keep B z1_1
  replace z1_2 := keep B z1_2
  replace z2_0 := keep B z2_0
  replace z2_1 := keep B z2_1
  replace z2_2 := keep B z2_2
  replace z2_3 := keep B z2_3
  replace z2_4 := keep B z2_4
  replace z2_5 := keep B z2_5
  have B0 := bl_trans B0 B
  have RA := putN_at (R := w.heap.size + 1 + 1) (W := w') (v := .agg #[.float .f64 ax, .float .f64 ay, .float .f64 bx, .float .f64 b_y, .int .i64 0, .int .i64 1]) 6 (fun i hi => by rcases (show i = 0 ∨ i = 1 ∨ i = 2 ∨ i = 3 ∨ i = 4 ∨ i = 5 by omega) with rfl | rfl | rfl | rfl | rfl | rfl <;> first | (rw [z2_0]; rfl) | (rw [z2_1]; rfl) | (rw [z2_2]; rfl) | (rw [z2_3]; rfl) | (rw [z2_4]; rfl) | (rw [z2_5]; rfl))
  rw [putN6_eq] at RA
  have R0 := RA 0 (by decide)
  rw [show cellAt (.agg #[.float .f64 ax, .float .f64 ay, .float .f64 bx, .float .f64 b_y, .int .i64 0, .int .i64 1]) 0 = .float .f64 ax from rfl] at R0
  have R1 := RA 1 (by decide)
  rw [show cellAt (.agg #[.float .f64 ax, .float .f64 ay, .float .f64 bx, .float .f64 b_y, .int .i64 0, .int .i64 1]) 1 = .float .f64 ay from rfl] at R1
  have R2 := RA 2 (by decide)
  rw [show cellAt (.agg #[.float .f64 ax, .float .f64 ay, .float .f64 bx, .float .f64 b_y, .int .i64 0, .int .i64 1]) 2 = .float .f64 bx from rfl] at R2
  have R3 := RA 3 (by decide)
  rw [show cellAt (.agg #[.float .f64 ax, .float .f64 ay, .float .f64 bx, .float .f64 b_y, .int .i64 0, .int .i64 1]) 3 = .float .f64 b_y from rfl] at R3
  have R4 := RA 4 (by decide)
  rw [show cellAt (.agg #[.float .f64 ax, .float .f64 ay, .float .f64 bx, .float .f64 b_y, .int .i64 0, .int .i64 1]) 4 = .int .i64 0 from rfl] at R4
  have R5 := RA 5 (by decide)
  rw [show cellAt (.agg #[.float .f64 ax, .float .f64 ay, .float .f64 bx, .float .f64 b_y, .int .i64 0, .int .i64 1]) 5 = .int .i64 1 from rfl] at R5
  have BZ := putN_bel (R := w.heap.size + 1 + 1) (v := .agg #[.float .f64 ax, .float .f64 ay, .float .f64 bx, .float .f64 b_y, .int .i64 0, .int .i64 1]) B0 (show w.heap.size ≤ w.heap.size + 1 + 1 by omega) 6
  rw [putN6_eq] at BZ
  refine bodyPost_ret (v := .tuple #[.agg #[.float .f64 ax, .float .f64 ay, .float .f64 bx, .float .f64 b_y, .int .i64 0, .int .i64 1], .bool true]) (by simp [R0, R1, R2, R3, R4, R5, results, Try.results49, go_sem] <;> (first | exact ⟨⟨rfl, rfl, rfl, rfl, rfl, rfl⟩, rfl⟩ | exact ⟨rfl, rfl, rfl, rfl, rfl, rfl⟩ | exact ⟨rfl, rfl⟩ | rfl)) rfl ⟨rfl, BZ⟩

set_option maxRecDepth 100000 in
set_option maxHeartbeats 2000000 in
theorem piece_10 {k nx ny fd ax ay bx b_y : Nat} (w : World) (hp : PnB (nx, ny, fd)) (ha : PtB k (ax, ay)) (hb : PtB k (bx, b_y)) (hk : k ≤ 600) (h1 : leK .f64 (frK (nx, ny, fd) (ax, ay)) 0 = true) (h2 : leK .f64 (frK (nx, ny, fd) (bx, b_y)) 0 = false) : Calls Try.prog 49 #[.agg #[.float .f64 ax, .float .f64 ay, .float .f64 (frK (nx, ny, fd) (ax, ay))], .agg #[.float .f64 bx, .float .f64 b_y, .float .f64 (frK (nx, ny, fd) (bx, b_y))]] w fun e w' => e = .returned (.tuple #[.agg #[.float .f64 ax, .float .f64 ay, .float .f64 (cuX (nx, ny, fd) (ax, ay) (bx, b_y)), .float .f64 (cuY (nx, ny, fd) (ax, ay) (bx, b_y)), .int .i64 0, .int .i64 2], .bool true]) ∧ Bel w w' := by
  have hne : wiB (nx, ny, fd) (ax, ay) ≠ wiB (nx, ny, fd) (bx, b_y) := by show leK .f64 (frK (nx, ny, fd) (ax, ay)) 0 ≠ leK .f64 (frK (nx, ny, fd) (bx, b_y)) 0; rw [h1, h2]; decide
  have hb_ := hb
  clear hb
  have z0_0 : (w.alloc (.cells #[.float .f64 ax, .float .f64 ay, .float .f64 (frK (nx, ny, fd) (ax, ay))] 83)).cell? ⟨w.heap.size, 0, none⟩ = some (.float .f64 ax) := by rw [World.cell?_alloc_new]; rfl
  replace z0_0 := up_alloc (o := .cells #[.float .f64 bx, .float .f64 b_y, .float .f64 (frK (nx, ny, fd) (bx, b_y))] 83) z0_0
  replace z0_0 := up_alloc (o := .cells #[.float .f64 0, .float .f64 0, .float .f64 0, .float .f64 0, .int .i64 0, .int .i64 0] 79) z0_0
  have z0_1 : (w.alloc (.cells #[.float .f64 ax, .float .f64 ay, .float .f64 (frK (nx, ny, fd) (ax, ay))] 83)).cell? ⟨w.heap.size, 1, none⟩ = some (.float .f64 ay) := by rw [World.cell?_alloc_new]; rfl
  replace z0_1 := up_alloc (o := .cells #[.float .f64 bx, .float .f64 b_y, .float .f64 (frK (nx, ny, fd) (bx, b_y))] 83) z0_1
  replace z0_1 := up_alloc (o := .cells #[.float .f64 0, .float .f64 0, .float .f64 0, .float .f64 0, .int .i64 0, .int .i64 0] 79) z0_1
  have z0_2 : (w.alloc (.cells #[.float .f64 ax, .float .f64 ay, .float .f64 (frK (nx, ny, fd) (ax, ay))] 83)).cell? ⟨w.heap.size, 2, none⟩ = some (.float .f64 (frK (nx, ny, fd) (ax, ay))) := by rw [World.cell?_alloc_new]; rfl
  replace z0_2 := up_alloc (o := .cells #[.float .f64 bx, .float .f64 b_y, .float .f64 (frK (nx, ny, fd) (bx, b_y))] 83) z0_2
  replace z0_2 := up_alloc (o := .cells #[.float .f64 0, .float .f64 0, .float .f64 0, .float .f64 0, .int .i64 0, .int .i64 0] 79) z0_2
  have z1_0 : ((w.alloc (.cells #[.float .f64 ax, .float .f64 ay, .float .f64 (frK (nx, ny, fd) (ax, ay))] 83)).alloc (.cells #[.float .f64 bx, .float .f64 b_y, .float .f64 (frK (nx, ny, fd) (bx, b_y))] 83)).cell? ⟨w.heap.size + 1, 0, none⟩ = some (.float .f64 bx) := by rw [← (show (w.alloc (.cells #[.float .f64 ax, .float .f64 ay, .float .f64 (frK (nx, ny, fd) (ax, ay))] 83)).heap.size = w.heap.size + 1 by simp only [World.size_alloc]), World.cell?_alloc_new]; rfl
  replace z1_0 := up_alloc (o := .cells #[.float .f64 0, .float .f64 0, .float .f64 0, .float .f64 0, .int .i64 0, .int .i64 0] 79) z1_0
  have z1_1 : ((w.alloc (.cells #[.float .f64 ax, .float .f64 ay, .float .f64 (frK (nx, ny, fd) (ax, ay))] 83)).alloc (.cells #[.float .f64 bx, .float .f64 b_y, .float .f64 (frK (nx, ny, fd) (bx, b_y))] 83)).cell? ⟨w.heap.size + 1, 1, none⟩ = some (.float .f64 b_y) := by rw [← (show (w.alloc (.cells #[.float .f64 ax, .float .f64 ay, .float .f64 (frK (nx, ny, fd) (ax, ay))] 83)).heap.size = w.heap.size + 1 by simp only [World.size_alloc]), World.cell?_alloc_new]; rfl
  replace z1_1 := up_alloc (o := .cells #[.float .f64 0, .float .f64 0, .float .f64 0, .float .f64 0, .int .i64 0, .int .i64 0] 79) z1_1
  have z1_2 : ((w.alloc (.cells #[.float .f64 ax, .float .f64 ay, .float .f64 (frK (nx, ny, fd) (ax, ay))] 83)).alloc (.cells #[.float .f64 bx, .float .f64 b_y, .float .f64 (frK (nx, ny, fd) (bx, b_y))] 83)).cell? ⟨w.heap.size + 1, 2, none⟩ = some (.float .f64 (frK (nx, ny, fd) (bx, b_y))) := by rw [← (show (w.alloc (.cells #[.float .f64 ax, .float .f64 ay, .float .f64 (frK (nx, ny, fd) (ax, ay))] 83)).heap.size = w.heap.size + 1 by simp only [World.size_alloc]), World.cell?_alloc_new]; rfl
  replace z1_2 := up_alloc (o := .cells #[.float .f64 0, .float .f64 0, .float .f64 0, .float .f64 0, .int .i64 0, .int .i64 0] 79) z1_2
  have z2_0 : (((w.alloc (.cells #[.float .f64 ax, .float .f64 ay, .float .f64 (frK (nx, ny, fd) (ax, ay))] 83)).alloc (.cells #[.float .f64 bx, .float .f64 b_y, .float .f64 (frK (nx, ny, fd) (bx, b_y))] 83)).alloc (.cells #[.float .f64 0, .float .f64 0, .float .f64 0, .float .f64 0, .int .i64 0, .int .i64 0] 79)).cell? ⟨w.heap.size + 1 + 1, 0, none⟩ = some (.float .f64 0) := by rw [← (show ((w.alloc (.cells #[.float .f64 ax, .float .f64 ay, .float .f64 (frK (nx, ny, fd) (ax, ay))] 83)).alloc (.cells #[.float .f64 bx, .float .f64 b_y, .float .f64 (frK (nx, ny, fd) (bx, b_y))] 83)).heap.size = w.heap.size + 1 + 1 by simp only [World.size_alloc]), World.cell?_alloc_new]; rfl
  have z2_1 : (((w.alloc (.cells #[.float .f64 ax, .float .f64 ay, .float .f64 (frK (nx, ny, fd) (ax, ay))] 83)).alloc (.cells #[.float .f64 bx, .float .f64 b_y, .float .f64 (frK (nx, ny, fd) (bx, b_y))] 83)).alloc (.cells #[.float .f64 0, .float .f64 0, .float .f64 0, .float .f64 0, .int .i64 0, .int .i64 0] 79)).cell? ⟨w.heap.size + 1 + 1, 1, none⟩ = some (.float .f64 0) := by rw [← (show ((w.alloc (.cells #[.float .f64 ax, .float .f64 ay, .float .f64 (frK (nx, ny, fd) (ax, ay))] 83)).alloc (.cells #[.float .f64 bx, .float .f64 b_y, .float .f64 (frK (nx, ny, fd) (bx, b_y))] 83)).heap.size = w.heap.size + 1 + 1 by simp only [World.size_alloc]), World.cell?_alloc_new]; rfl
  have z2_2 : (((w.alloc (.cells #[.float .f64 ax, .float .f64 ay, .float .f64 (frK (nx, ny, fd) (ax, ay))] 83)).alloc (.cells #[.float .f64 bx, .float .f64 b_y, .float .f64 (frK (nx, ny, fd) (bx, b_y))] 83)).alloc (.cells #[.float .f64 0, .float .f64 0, .float .f64 0, .float .f64 0, .int .i64 0, .int .i64 0] 79)).cell? ⟨w.heap.size + 1 + 1, 2, none⟩ = some (.float .f64 0) := by rw [← (show ((w.alloc (.cells #[.float .f64 ax, .float .f64 ay, .float .f64 (frK (nx, ny, fd) (ax, ay))] 83)).alloc (.cells #[.float .f64 bx, .float .f64 b_y, .float .f64 (frK (nx, ny, fd) (bx, b_y))] 83)).heap.size = w.heap.size + 1 + 1 by simp only [World.size_alloc]), World.cell?_alloc_new]; rfl
  have z2_3 : (((w.alloc (.cells #[.float .f64 ax, .float .f64 ay, .float .f64 (frK (nx, ny, fd) (ax, ay))] 83)).alloc (.cells #[.float .f64 bx, .float .f64 b_y, .float .f64 (frK (nx, ny, fd) (bx, b_y))] 83)).alloc (.cells #[.float .f64 0, .float .f64 0, .float .f64 0, .float .f64 0, .int .i64 0, .int .i64 0] 79)).cell? ⟨w.heap.size + 1 + 1, 3, none⟩ = some (.float .f64 0) := by rw [← (show ((w.alloc (.cells #[.float .f64 ax, .float .f64 ay, .float .f64 (frK (nx, ny, fd) (ax, ay))] 83)).alloc (.cells #[.float .f64 bx, .float .f64 b_y, .float .f64 (frK (nx, ny, fd) (bx, b_y))] 83)).heap.size = w.heap.size + 1 + 1 by simp only [World.size_alloc]), World.cell?_alloc_new]; rfl
  have z2_4 : (((w.alloc (.cells #[.float .f64 ax, .float .f64 ay, .float .f64 (frK (nx, ny, fd) (ax, ay))] 83)).alloc (.cells #[.float .f64 bx, .float .f64 b_y, .float .f64 (frK (nx, ny, fd) (bx, b_y))] 83)).alloc (.cells #[.float .f64 0, .float .f64 0, .float .f64 0, .float .f64 0, .int .i64 0, .int .i64 0] 79)).cell? ⟨w.heap.size + 1 + 1, 4, none⟩ = some (.int .i64 0) := by rw [← (show ((w.alloc (.cells #[.float .f64 ax, .float .f64 ay, .float .f64 (frK (nx, ny, fd) (ax, ay))] 83)).alloc (.cells #[.float .f64 bx, .float .f64 b_y, .float .f64 (frK (nx, ny, fd) (bx, b_y))] 83)).heap.size = w.heap.size + 1 + 1 by simp only [World.size_alloc]), World.cell?_alloc_new]; rfl
  have z2_5 : (((w.alloc (.cells #[.float .f64 ax, .float .f64 ay, .float .f64 (frK (nx, ny, fd) (ax, ay))] 83)).alloc (.cells #[.float .f64 bx, .float .f64 b_y, .float .f64 (frK (nx, ny, fd) (bx, b_y))] 83)).alloc (.cells #[.float .f64 0, .float .f64 0, .float .f64 0, .float .f64 0, .int .i64 0, .int .i64 0] 79)).cell? ⟨w.heap.size + 1 + 1, 5, none⟩ = some (.int .i64 0) := by rw [← (show ((w.alloc (.cells #[.float .f64 ax, .float .f64 ay, .float .f64 (frK (nx, ny, fd) (ax, ay))] 83)).alloc (.cells #[.float .f64 bx, .float .f64 b_y, .float .f64 (frK (nx, ny, fd) (bx, b_y))] 83)).heap.size = w.heap.size + 1 + 1 by simp only [World.size_alloc]), World.cell?_alloc_new]; rfl
  have B0 : Bel w (((w.alloc (.cells #[.float .f64 ax, .float .f64 ay, .float .f64 (frK (nx, ny, fd) (ax, ay))] 83)).alloc (.cells #[.float .f64 bx, .float .f64 b_y, .float .f64 (frK (nx, ny, fd) (bx, b_y))] 83)).alloc (.cells #[.float .f64 0, .float .f64 0, .float .f64 0, .float .f64 0, .int .i64 0, .int .i64 0] 79)) := bl_alloc (bl_alloc (bl_alloc (bl_refl w) _ _) _ _) _ _
  go_enter Try.func49, Try.ntmps49
  go_wp2_with (first | (go_at_call 78; refine (ewithin_d _ _ _ _).mono ?_; rintro e w' ⟨rfl, hb⟩; (first | rw [h1] | rw [h2]); (first | have B := bl_trans B hb | have B := bl_trans (by repeat (first | exact B | apply bl_drewN)) hb | have B := bl_trans (by repeat (first | exact B | apply bl_drewN | apply bl_drew | apply bl_alloc | refine bl_set ?_ (by simp <;> omega))) hb | have B := hb); (try clear hc hf hz); obtain ⟨hc, hf⟩ := bcell B; have hz := B.size; (try simp at hz)))
  replace z0_0 := keep B z0_0
  replace z0_1 := keep B z0_1
  replace z0_2 := keep B z0_2
  replace z1_0 := keep B z1_0
  replace z1_1 := keep B z1_1
  replace z1_2 := keep B z1_2
  replace z2_0 := keep B z2_0
  replace z2_1 := keep B z2_1
  replace z2_2 := keep B z2_2
  replace z2_3 := keep B z2_3
  replace z2_4 := keep B z2_4
  replace z2_5 := keep B z2_5
  have B0 := bl_trans B0 B
  clear hc hf hz B
  have fR : ∀ o, w'.frozen? ⟨w.heap.size + 1 + 1, o, none⟩ = false := fun o => (B0.2 _).trans (fresh_frozen (by omega))
  refine wp_region_ret 10 8 7 rfl (fun i v => match i with | 0 => v = .pointer (some ⟨w.heap.size, 0, none⟩) | 1 => v = .agg #[.float .f64 ax, .float .f64 ay] | 2 => v = .agg #[.float .f64 ax, .float .f64 ay, .float .f64 (frK (nx, ny, fd) (ax, ay))] | 3 => v = .agg #[.float .f64 bx, .float .f64 b_y, .float .f64 (frK (nx, ny, fd) (bx, b_y))] | 4 => v = .agg #[.float .f64 (cuX (nx, ny, fd) (ax, ay) (bx, b_y)), .float .f64 (cuY (nx, ny, fd) (ax, ay) (bx, b_y))] | 5 => v = .agg #[.float .f64 ax, .float .f64 ay, .float .f64 (cuX (nx, ny, fd) (ax, ay) (bx, b_y)), .float .f64 (cuY (nx, ny, fd) (ax, ay) (bx, b_y))] | 6 => v = .agg #[.int .i64 0, .int .i64 2] | 7 => v = .agg #[.float .f64 ax, .float .f64 ay, .float .f64 (cuX (nx, ny, fd) (ax, ay) (bx, b_y)), .float .f64 (cuY (nx, ny, fd) (ax, ay) (bx, b_y)), .int .i64 0, .int .i64 2] | 9 => v = .bool true | _ => False) (putN (w.heap.size + 1 + 1) 6) ?A_wo (by kernel_rfl) (by kernel_rfl) (by kernel_rfl) (by decide) (by decide) ?hA_wo ?hst_wo ?hq_wo ?ht_wo
  case hA_wo =>
    intro s
    simp only [putL, dstO, Act.put, List.getElem?_toArray, List.getElem?_cons_zero, List.getElem?_cons_succ, Option.bind_some, List.setIfInBounds_toArray, List.set_cons_zero, List.set_cons_succ, if_true]
    all_goals exact rfl
  case hst_wo =>
    intro o ho s hs W hb K hK
    cases ho
    have u0 := keep hb z2_0; have u1 := keep hb z2_1; have u2 := keep hb z2_2; have u3 := keep hb z2_3; have u4 := keep hb z2_4; have u5 := keep hb z2_5; have u9 := fun o => (hb.2 ⟨w.heap.size + 1 + 1, o, none⟩).trans (fR o)
    have e7 : s 7 = _ := hs 7 (by decide) (by kernel_rfl)
    simp only [e7] at hK ⊢
    clear hs
    go_simp
    exact hK.out
  case hq_wo =>
    intro i o hi hne ho s hs W hb K hK
    have uz0_0 := once_keepN hb z0_0 (by simp only; omega); have uz0_1 := once_keepN hb z0_1 (by simp only; omega); have uz0_2 := once_keepN hb z0_2 (by simp only; omega); have uz1_0 := once_keepN hb z1_0 (by simp only; omega); have uz1_1 := once_keepN hb z1_1 (by simp only; omega); have uz1_2 := once_keepN hb z1_2 (by simp only; omega)
    rcases (show i = 0 ∨ i = 1 ∨ i = 2 ∨ i = 3 ∨ i = 4 ∨ i = 5 ∨ i = 6 ∨ i = 7 ∨ i = 8 ∨ i = 9 by omega) with rfl | rfl | rfl | rfl | rfl | rfl | rfl | rfl | rfl | rfl
    · cases ho
      simp only [Act.put, List.setIfInBounds_toArray, List.set_cons_zero, List.set_cons_succ] at hK
      clear hs hne
      go_simp
      all_goals (try go_wp2_with (first | (go_at_call 79; refine (cut_d _ hp ha hb_ hk hne).mono ?_; rintro e w' ⟨rfl, hb1⟩)))
      all_goals first | exact hK.out _ _ rfl (bl_refl _) | exact hK.out _ _ rfl (by assumption) | exact hK.out _ _ (by assumption) (by assumption)
    · cases ho
      have e0 : s 0 = _ := hs 0 (by decide) (by decide) (by kernel_rfl)
      simp only [e0] at hK ⊢
      simp only [Act.put, List.setIfInBounds_toArray, List.set_cons_zero, List.set_cons_succ] at hK
      clear hs hne
      go_simp
      all_goals (try go_wp2_with (first | (go_at_call 79; refine (cut_d _ hp ha hb_ hk hne).mono ?_; rintro e w' ⟨rfl, hb1⟩)))
      all_goals first | exact hK.out _ _ rfl (bl_refl _) | exact hK.out _ _ rfl (by assumption) | exact hK.out _ _ (by assumption) (by assumption)
    · cases ho
      simp only [Act.put, List.setIfInBounds_toArray, List.set_cons_zero, List.set_cons_succ] at hK
      clear hs hne
      go_simp
      all_goals (try go_wp2_with (first | (go_at_call 79; refine (cut_d _ hp ha hb_ hk hne).mono ?_; rintro e w' ⟨rfl, hb1⟩)))
      all_goals first | exact hK.out _ _ rfl (bl_refl _) | exact hK.out _ _ rfl (by assumption) | exact hK.out _ _ (by assumption) (by assumption)
    · cases ho
      simp only [Act.put, List.setIfInBounds_toArray, List.set_cons_zero, List.set_cons_succ] at hK
      clear hs hne
      go_simp
      all_goals (try go_wp2_with (first | (go_at_call 79; refine (cut_d _ hp ha hb_ hk hne).mono ?_; rintro e w' ⟨rfl, hb1⟩)))
      all_goals first | exact hK.out _ _ rfl (bl_refl _) | exact hK.out _ _ rfl (by assumption) | exact hK.out _ _ (by assumption) (by assumption)
    · cases ho
      have e2 : s 2 = _ := hs 2 (by decide) (by decide) (by kernel_rfl)
      have e3 : s 3 = _ := hs 3 (by decide) (by decide) (by kernel_rfl)
      simp only [e2, e3] at hK ⊢
      simp only [Act.put, List.setIfInBounds_toArray, List.set_cons_zero, List.set_cons_succ] at hK
      clear hs hne
      go_simp
      all_goals (try go_wp2_with (first | (go_at_call 79; refine (cut_d _ hp ha hb_ hk hne).mono ?_; rintro e w' ⟨rfl, hb1⟩)))
      all_goals first | exact hK.out _ _ rfl (bl_refl _) | exact hK.out _ _ rfl (by assumption) | exact hK.out _ _ (by assumption) (by assumption)
    · cases ho
      have e1 : s 1 = _ := hs 1 (by decide) (by decide) (by kernel_rfl)
      have e4 : s 4 = _ := hs 4 (by decide) (by decide) (by kernel_rfl)
      simp only [e1, e4] at hK ⊢
      simp only [Act.put, List.setIfInBounds_toArray, List.set_cons_zero, List.set_cons_succ] at hK
      clear hs hne
      go_simp
      all_goals (try go_wp2_with (first | (go_at_call 79; refine (cut_d _ hp ha hb_ hk hne).mono ?_; rintro e w' ⟨rfl, hb1⟩)))
      all_goals first | exact hK.out _ _ rfl (bl_refl _) | exact hK.out _ _ rfl (by assumption) | exact hK.out _ _ (by assumption) (by assumption)
    · cases ho
      simp only [Act.put, List.setIfInBounds_toArray, List.set_cons_zero, List.set_cons_succ] at hK
      clear hs hne
      go_simp
      all_goals (try go_wp2_with (first | (go_at_call 79; refine (cut_d _ hp ha hb_ hk hne).mono ?_; rintro e w' ⟨rfl, hb1⟩)))
      all_goals first | exact hK.out _ _ rfl (bl_refl _) | exact hK.out _ _ rfl (by assumption) | exact hK.out _ _ (by assumption) (by assumption)
    · cases ho
      have e5 : s 5 = _ := hs 5 (by decide) (by decide) (by kernel_rfl)
      have e6 : s 6 = _ := hs 6 (by decide) (by decide) (by kernel_rfl)
      simp only [e5, e6] at hK ⊢
      simp only [Act.put, List.setIfInBounds_toArray, List.set_cons_zero, List.set_cons_succ] at hK
      clear hs hne
      go_simp
      all_goals (try go_wp2_with (first | (go_at_call 79; refine (cut_d _ hp ha hb_ hk hne).mono ?_; rintro e w' ⟨rfl, hb1⟩)))
      all_goals first | exact hK.out _ _ rfl (bl_refl _) | exact hK.out _ _ rfl (by assumption) | exact hK.out _ _ (by assumption) (by assumption)
    · exact absurd rfl hne
    · cases ho
      simp only [Act.put, List.setIfInBounds_toArray, List.set_cons_zero, List.set_cons_succ] at hK
      clear hs hne
      go_simp
      all_goals (try go_wp2_with (first | (go_at_call 79; refine (cut_d _ hp ha hb_ hk hne).mono ?_; rintro e w' ⟨rfl, hb1⟩)))
      all_goals first | exact hK.out _ _ rfl (bl_refl _) | exact hK.out _ _ rfl (by assumption) | exact hK.out _ _ (by assumption) (by assumption)
  case ht_wo =>
    intro s hs W0 W hb0 hb
    have e0 : s 0 = _ := hs 0 (by decide) (by decide)
    have e1 : s 1 = _ := hs 1 (by decide) (by decide)
    have e2 : s 2 = _ := hs 2 (by decide) (by decide)
    have e3 : s 3 = _ := hs 3 (by decide) (by decide)
    have e4 : s 4 = _ := hs 4 (by decide) (by decide)
    have e5 : s 5 = _ := hs 5 (by decide) (by decide)
    have e6 : s 6 = _ := hs 6 (by decide) (by decide)
    have e7 : s 7 = _ := hs 7 (by decide) (by decide)
    have e9 : s 9 = _ := hs 9 (by decide) (by decide)
    simp only [e0, e1, e2, e3, e4, e5, e6, e7, e9]
    rw [e7] at hb
    clear hs e0 e1 e2 e3 e4 e5 e6 e7 e9
    have RA := putN_at (R := w.heap.size + 1 + 1) (W := W0) (v := .agg #[.float .f64 ax, .float .f64 ay, .float .f64 (cuX (nx, ny, fd) (ax, ay) (bx, b_y)), .float .f64 (cuY (nx, ny, fd) (ax, ay) (bx, b_y)), .int .i64 0, .int .i64 2]) 6 (fun i hi => by rcases (show i = 0 ∨ i = 1 ∨ i = 2 ∨ i = 3 ∨ i = 4 ∨ i = 5 by omega) with rfl | rfl | rfl | rfl | rfl | rfl <;> first | (rw [keep hb0 z2_0]; rfl) | (rw [keep hb0 z2_1]; rfl) | (rw [keep hb0 z2_2]; rfl) | (rw [keep hb0 z2_3]; rfl) | (rw [keep hb0 z2_4]; rfl) | (rw [keep hb0 z2_5]; rfl))
    have R0 := keep hb (RA 0 (by decide)); have R1 := keep hb (RA 1 (by decide)); have R2 := keep hb (RA 2 (by decide)); have R3 := keep hb (RA 3 (by decide)); have R4 := keep hb (RA 4 (by decide)); have R5 := keep hb (RA 5 (by decide))
    simp only [cellAt] at R0 R1 R2 R3 R4 R5
    have BF := bl_trans (putN_bel (bl_trans B0 hb0) (show w.heap.size ≤ w.heap.size + 1 + 1 by omega) 6) hb
    go_wp2
    refine bodyPost_ret (v := .tuple #[.agg #[.float .f64 ax, .float .f64 ay, .float .f64 (cuX (nx, ny, fd) (ax, ay) (bx, b_y)), .float .f64 (cuY (nx, ny, fd) (ax, ay) (bx, b_y)), .int .i64 0, .int .i64 2], .bool true]) (by simp [R0, R1, R2, R3, R4, R5, results, Try.results49, go_sem] <;> (first | exact ⟨⟨rfl, rfl, rfl, rfl, rfl, rfl⟩, rfl⟩ | exact ⟨rfl, rfl, rfl, rfl, rfl, rfl⟩ | exact ⟨rfl, rfl⟩ | rfl)) rfl ⟨rfl, BF⟩

set_option maxRecDepth 100000 in
set_option maxHeartbeats 2000000 in
theorem piece_01 {k nx ny fd ax ay bx b_y : Nat} (w : World) (hp : PnB (nx, ny, fd)) (ha : PtB k (ax, ay)) (hb : PtB k (bx, b_y)) (hk : k ≤ 600) (h1 : leK .f64 (frK (nx, ny, fd) (ax, ay)) 0 = false) (h2 : leK .f64 (frK (nx, ny, fd) (bx, b_y)) 0 = true) : Calls Try.prog 49 #[.agg #[.float .f64 ax, .float .f64 ay, .float .f64 (frK (nx, ny, fd) (ax, ay))], .agg #[.float .f64 bx, .float .f64 b_y, .float .f64 (frK (nx, ny, fd) (bx, b_y))]] w fun e w' => e = .returned (.tuple #[.agg #[.float .f64 (cuX (nx, ny, fd) (ax, ay) (bx, b_y)), .float .f64 (cuY (nx, ny, fd) (ax, ay) (bx, b_y)), .float .f64 bx, .float .f64 b_y, .int .i64 2, .int .i64 1], .bool true]) ∧ Bel w w' := by
  have hne : wiB (nx, ny, fd) (ax, ay) ≠ wiB (nx, ny, fd) (bx, b_y) := by show leK .f64 (frK (nx, ny, fd) (ax, ay)) 0 ≠ leK .f64 (frK (nx, ny, fd) (bx, b_y)) 0; rw [h1, h2]; decide
  have hb_ := hb
  clear hb
  have z0_0 : (w.alloc (.cells #[.float .f64 ax, .float .f64 ay, .float .f64 (frK (nx, ny, fd) (ax, ay))] 83)).cell? ⟨w.heap.size, 0, none⟩ = some (.float .f64 ax) := by rw [World.cell?_alloc_new]; rfl
  replace z0_0 := up_alloc (o := .cells #[.float .f64 bx, .float .f64 b_y, .float .f64 (frK (nx, ny, fd) (bx, b_y))] 83) z0_0
  replace z0_0 := up_alloc (o := .cells #[.float .f64 0, .float .f64 0, .float .f64 0, .float .f64 0, .int .i64 0, .int .i64 0] 79) z0_0
  have z0_1 : (w.alloc (.cells #[.float .f64 ax, .float .f64 ay, .float .f64 (frK (nx, ny, fd) (ax, ay))] 83)).cell? ⟨w.heap.size, 1, none⟩ = some (.float .f64 ay) := by rw [World.cell?_alloc_new]; rfl
  replace z0_1 := up_alloc (o := .cells #[.float .f64 bx, .float .f64 b_y, .float .f64 (frK (nx, ny, fd) (bx, b_y))] 83) z0_1
  replace z0_1 := up_alloc (o := .cells #[.float .f64 0, .float .f64 0, .float .f64 0, .float .f64 0, .int .i64 0, .int .i64 0] 79) z0_1
  have z0_2 : (w.alloc (.cells #[.float .f64 ax, .float .f64 ay, .float .f64 (frK (nx, ny, fd) (ax, ay))] 83)).cell? ⟨w.heap.size, 2, none⟩ = some (.float .f64 (frK (nx, ny, fd) (ax, ay))) := by rw [World.cell?_alloc_new]; rfl
  replace z0_2 := up_alloc (o := .cells #[.float .f64 bx, .float .f64 b_y, .float .f64 (frK (nx, ny, fd) (bx, b_y))] 83) z0_2
  replace z0_2 := up_alloc (o := .cells #[.float .f64 0, .float .f64 0, .float .f64 0, .float .f64 0, .int .i64 0, .int .i64 0] 79) z0_2
  have z1_0 : ((w.alloc (.cells #[.float .f64 ax, .float .f64 ay, .float .f64 (frK (nx, ny, fd) (ax, ay))] 83)).alloc (.cells #[.float .f64 bx, .float .f64 b_y, .float .f64 (frK (nx, ny, fd) (bx, b_y))] 83)).cell? ⟨w.heap.size + 1, 0, none⟩ = some (.float .f64 bx) := by rw [← (show (w.alloc (.cells #[.float .f64 ax, .float .f64 ay, .float .f64 (frK (nx, ny, fd) (ax, ay))] 83)).heap.size = w.heap.size + 1 by simp only [World.size_alloc]), World.cell?_alloc_new]; rfl
  replace z1_0 := up_alloc (o := .cells #[.float .f64 0, .float .f64 0, .float .f64 0, .float .f64 0, .int .i64 0, .int .i64 0] 79) z1_0
  have z1_1 : ((w.alloc (.cells #[.float .f64 ax, .float .f64 ay, .float .f64 (frK (nx, ny, fd) (ax, ay))] 83)).alloc (.cells #[.float .f64 bx, .float .f64 b_y, .float .f64 (frK (nx, ny, fd) (bx, b_y))] 83)).cell? ⟨w.heap.size + 1, 1, none⟩ = some (.float .f64 b_y) := by rw [← (show (w.alloc (.cells #[.float .f64 ax, .float .f64 ay, .float .f64 (frK (nx, ny, fd) (ax, ay))] 83)).heap.size = w.heap.size + 1 by simp only [World.size_alloc]), World.cell?_alloc_new]; rfl
  replace z1_1 := up_alloc (o := .cells #[.float .f64 0, .float .f64 0, .float .f64 0, .float .f64 0, .int .i64 0, .int .i64 0] 79) z1_1
  have z1_2 : ((w.alloc (.cells #[.float .f64 ax, .float .f64 ay, .float .f64 (frK (nx, ny, fd) (ax, ay))] 83)).alloc (.cells #[.float .f64 bx, .float .f64 b_y, .float .f64 (frK (nx, ny, fd) (bx, b_y))] 83)).cell? ⟨w.heap.size + 1, 2, none⟩ = some (.float .f64 (frK (nx, ny, fd) (bx, b_y))) := by rw [← (show (w.alloc (.cells #[.float .f64 ax, .float .f64 ay, .float .f64 (frK (nx, ny, fd) (ax, ay))] 83)).heap.size = w.heap.size + 1 by simp only [World.size_alloc]), World.cell?_alloc_new]; rfl
  replace z1_2 := up_alloc (o := .cells #[.float .f64 0, .float .f64 0, .float .f64 0, .float .f64 0, .int .i64 0, .int .i64 0] 79) z1_2
  have z2_0 : (((w.alloc (.cells #[.float .f64 ax, .float .f64 ay, .float .f64 (frK (nx, ny, fd) (ax, ay))] 83)).alloc (.cells #[.float .f64 bx, .float .f64 b_y, .float .f64 (frK (nx, ny, fd) (bx, b_y))] 83)).alloc (.cells #[.float .f64 0, .float .f64 0, .float .f64 0, .float .f64 0, .int .i64 0, .int .i64 0] 79)).cell? ⟨w.heap.size + 1 + 1, 0, none⟩ = some (.float .f64 0) := by rw [← (show ((w.alloc (.cells #[.float .f64 ax, .float .f64 ay, .float .f64 (frK (nx, ny, fd) (ax, ay))] 83)).alloc (.cells #[.float .f64 bx, .float .f64 b_y, .float .f64 (frK (nx, ny, fd) (bx, b_y))] 83)).heap.size = w.heap.size + 1 + 1 by simp only [World.size_alloc]), World.cell?_alloc_new]; rfl
  have z2_1 : (((w.alloc (.cells #[.float .f64 ax, .float .f64 ay, .float .f64 (frK (nx, ny, fd) (ax, ay))] 83)).alloc (.cells #[.float .f64 bx, .float .f64 b_y, .float .f64 (frK (nx, ny, fd) (bx, b_y))] 83)).alloc (.cells #[.float .f64 0, .float .f64 0, .float .f64 0, .float .f64 0, .int .i64 0, .int .i64 0] 79)).cell? ⟨w.heap.size + 1 + 1, 1, none⟩ = some (.float .f64 0) := by rw [← (show ((w.alloc (.cells #[.float .f64 ax, .float .f64 ay, .float .f64 (frK (nx, ny, fd) (ax, ay))] 83)).alloc (.cells #[.float .f64 bx, .float .f64 b_y, .float .f64 (frK (nx, ny, fd) (bx, b_y))] 83)).heap.size = w.heap.size + 1 + 1 by simp only [World.size_alloc]), World.cell?_alloc_new]; rfl
  have z2_2 : (((w.alloc (.cells #[.float .f64 ax, .float .f64 ay, .float .f64 (frK (nx, ny, fd) (ax, ay))] 83)).alloc (.cells #[.float .f64 bx, .float .f64 b_y, .float .f64 (frK (nx, ny, fd) (bx, b_y))] 83)).alloc (.cells #[.float .f64 0, .float .f64 0, .float .f64 0, .float .f64 0, .int .i64 0, .int .i64 0] 79)).cell? ⟨w.heap.size + 1 + 1, 2, none⟩ = some (.float .f64 0) := by rw [← (show ((w.alloc (.cells #[.float .f64 ax, .float .f64 ay, .float .f64 (frK (nx, ny, fd) (ax, ay))] 83)).alloc (.cells #[.float .f64 bx, .float .f64 b_y, .float .f64 (frK (nx, ny, fd) (bx, b_y))] 83)).heap.size = w.heap.size + 1 + 1 by simp only [World.size_alloc]), World.cell?_alloc_new]; rfl
  have z2_3 : (((w.alloc (.cells #[.float .f64 ax, .float .f64 ay, .float .f64 (frK (nx, ny, fd) (ax, ay))] 83)).alloc (.cells #[.float .f64 bx, .float .f64 b_y, .float .f64 (frK (nx, ny, fd) (bx, b_y))] 83)).alloc (.cells #[.float .f64 0, .float .f64 0, .float .f64 0, .float .f64 0, .int .i64 0, .int .i64 0] 79)).cell? ⟨w.heap.size + 1 + 1, 3, none⟩ = some (.float .f64 0) := by rw [← (show ((w.alloc (.cells #[.float .f64 ax, .float .f64 ay, .float .f64 (frK (nx, ny, fd) (ax, ay))] 83)).alloc (.cells #[.float .f64 bx, .float .f64 b_y, .float .f64 (frK (nx, ny, fd) (bx, b_y))] 83)).heap.size = w.heap.size + 1 + 1 by simp only [World.size_alloc]), World.cell?_alloc_new]; rfl
  have z2_4 : (((w.alloc (.cells #[.float .f64 ax, .float .f64 ay, .float .f64 (frK (nx, ny, fd) (ax, ay))] 83)).alloc (.cells #[.float .f64 bx, .float .f64 b_y, .float .f64 (frK (nx, ny, fd) (bx, b_y))] 83)).alloc (.cells #[.float .f64 0, .float .f64 0, .float .f64 0, .float .f64 0, .int .i64 0, .int .i64 0] 79)).cell? ⟨w.heap.size + 1 + 1, 4, none⟩ = some (.int .i64 0) := by rw [← (show ((w.alloc (.cells #[.float .f64 ax, .float .f64 ay, .float .f64 (frK (nx, ny, fd) (ax, ay))] 83)).alloc (.cells #[.float .f64 bx, .float .f64 b_y, .float .f64 (frK (nx, ny, fd) (bx, b_y))] 83)).heap.size = w.heap.size + 1 + 1 by simp only [World.size_alloc]), World.cell?_alloc_new]; rfl
  have z2_5 : (((w.alloc (.cells #[.float .f64 ax, .float .f64 ay, .float .f64 (frK (nx, ny, fd) (ax, ay))] 83)).alloc (.cells #[.float .f64 bx, .float .f64 b_y, .float .f64 (frK (nx, ny, fd) (bx, b_y))] 83)).alloc (.cells #[.float .f64 0, .float .f64 0, .float .f64 0, .float .f64 0, .int .i64 0, .int .i64 0] 79)).cell? ⟨w.heap.size + 1 + 1, 5, none⟩ = some (.int .i64 0) := by rw [← (show ((w.alloc (.cells #[.float .f64 ax, .float .f64 ay, .float .f64 (frK (nx, ny, fd) (ax, ay))] 83)).alloc (.cells #[.float .f64 bx, .float .f64 b_y, .float .f64 (frK (nx, ny, fd) (bx, b_y))] 83)).heap.size = w.heap.size + 1 + 1 by simp only [World.size_alloc]), World.cell?_alloc_new]; rfl
  have B0 : Bel w (((w.alloc (.cells #[.float .f64 ax, .float .f64 ay, .float .f64 (frK (nx, ny, fd) (ax, ay))] 83)).alloc (.cells #[.float .f64 bx, .float .f64 b_y, .float .f64 (frK (nx, ny, fd) (bx, b_y))] 83)).alloc (.cells #[.float .f64 0, .float .f64 0, .float .f64 0, .float .f64 0, .int .i64 0, .int .i64 0] 79)) := bl_alloc (bl_alloc (bl_alloc (bl_refl w) _ _) _ _) _ _
  go_enter Try.func49, Try.ntmps49
  go_wp2_with (first | (go_at_call 78; refine (ewithin_d _ _ _ _).mono ?_; rintro e w' ⟨rfl, hb⟩; (first | rw [h1] | rw [h2]); (first | have B := bl_trans B hb | have B := bl_trans (by repeat (first | exact B | apply bl_drewN)) hb | have B := bl_trans (by repeat (first | exact B | apply bl_drewN | apply bl_drew | apply bl_alloc | refine bl_set ?_ (by simp <;> omega))) hb | have B := hb); (try clear hc hf hz); obtain ⟨hc, hf⟩ := bcell B; have hz := B.size; (try simp at hz)))
  replace z0_0 := keep B z0_0
  replace z0_1 := keep B z0_1
  replace z0_2 := keep B z0_2
  replace z1_0 := keep B z1_0
  replace z1_1 := keep B z1_1
  replace z1_2 := keep B z1_2
  replace z2_0 := keep B z2_0
  replace z2_1 := keep B z2_1
  replace z2_2 := keep B z2_2
  replace z2_3 := keep B z2_3
  replace z2_4 := keep B z2_4
  replace z2_5 := keep B z2_5
  have B0 := bl_trans B0 B
  clear hc hf hz B
  have fR : ∀ o, w'.frozen? ⟨w.heap.size + 1 + 1, o, none⟩ = false := fun o => (B0.2 _).trans (fresh_frozen (by omega))
  refine wp_region_ret 10 8 7 rfl (fun i v => match i with | 0 => v = .agg #[.float .f64 ax, .float .f64 ay, .float .f64 (frK (nx, ny, fd) (ax, ay))] | 1 => v = .agg #[.float .f64 bx, .float .f64 b_y, .float .f64 (frK (nx, ny, fd) (bx, b_y))] | 2 => v = .agg #[.float .f64 (cuX (nx, ny, fd) (ax, ay) (bx, b_y)), .float .f64 (cuY (nx, ny, fd) (ax, ay) (bx, b_y))] | 3 => v = .pointer (some ⟨w.heap.size + 1, 0, none⟩) | 4 => v = .agg #[.float .f64 bx, .float .f64 b_y] | 5 => v = .agg #[.float .f64 (cuX (nx, ny, fd) (ax, ay) (bx, b_y)), .float .f64 (cuY (nx, ny, fd) (ax, ay) (bx, b_y)), .float .f64 bx, .float .f64 b_y] | 6 => v = .agg #[.int .i64 2, .int .i64 1] | 7 => v = .agg #[.float .f64 (cuX (nx, ny, fd) (ax, ay) (bx, b_y)), .float .f64 (cuY (nx, ny, fd) (ax, ay) (bx, b_y)), .float .f64 bx, .float .f64 b_y, .int .i64 2, .int .i64 1] | 9 => v = .bool true | _ => False) (putN (w.heap.size + 1 + 1) 6) ?A_wo (by kernel_rfl) (by kernel_rfl) (by kernel_rfl) (by decide) (by decide) ?hA_wo ?hst_wo ?hq_wo ?ht_wo
  case hA_wo =>
    intro s
    simp only [putL, dstO, Act.put, List.getElem?_toArray, List.getElem?_cons_zero, List.getElem?_cons_succ, Option.bind_some, List.setIfInBounds_toArray, List.set_cons_zero, List.set_cons_succ, if_true]
    all_goals exact rfl
  case hst_wo =>
    intro o ho s hs W hb K hK
    cases ho
    have u0 := keep hb z2_0; have u1 := keep hb z2_1; have u2 := keep hb z2_2; have u3 := keep hb z2_3; have u4 := keep hb z2_4; have u5 := keep hb z2_5; have u9 := fun o => (hb.2 ⟨w.heap.size + 1 + 1, o, none⟩).trans (fR o)
    have e7 : s 7 = _ := hs 7 (by decide) (by kernel_rfl)
    simp only [e7] at hK ⊢
    clear hs
    go_simp
    exact hK.out
  case hq_wo =>
    intro i o hi hne ho s hs W hb K hK
    have uz0_0 := once_keepN hb z0_0 (by simp only; omega); have uz0_1 := once_keepN hb z0_1 (by simp only; omega); have uz0_2 := once_keepN hb z0_2 (by simp only; omega); have uz1_0 := once_keepN hb z1_0 (by simp only; omega); have uz1_1 := once_keepN hb z1_1 (by simp only; omega); have uz1_2 := once_keepN hb z1_2 (by simp only; omega)
    rcases (show i = 0 ∨ i = 1 ∨ i = 2 ∨ i = 3 ∨ i = 4 ∨ i = 5 ∨ i = 6 ∨ i = 7 ∨ i = 8 ∨ i = 9 by omega) with rfl | rfl | rfl | rfl | rfl | rfl | rfl | rfl | rfl | rfl
    · cases ho
      simp only [Act.put, List.setIfInBounds_toArray, List.set_cons_zero, List.set_cons_succ] at hK
      clear hs hne
      go_simp
      all_goals (try go_wp2_with (first | (go_at_call 79; refine (cut_d _ hp ha hb_ hk hne).mono ?_; rintro e w' ⟨rfl, hb1⟩)))
      all_goals first | exact hK.out _ _ rfl (bl_refl _) | exact hK.out _ _ rfl (by assumption) | exact hK.out _ _ (by assumption) (by assumption)
    · cases ho
      simp only [Act.put, List.setIfInBounds_toArray, List.set_cons_zero, List.set_cons_succ] at hK
      clear hs hne
      go_simp
      all_goals (try go_wp2_with (first | (go_at_call 79; refine (cut_d _ hp ha hb_ hk hne).mono ?_; rintro e w' ⟨rfl, hb1⟩)))
      all_goals first | exact hK.out _ _ rfl (bl_refl _) | exact hK.out _ _ rfl (by assumption) | exact hK.out _ _ (by assumption) (by assumption)
    · cases ho
      have e0 : s 0 = _ := hs 0 (by decide) (by decide) (by kernel_rfl)
      have e1 : s 1 = _ := hs 1 (by decide) (by decide) (by kernel_rfl)
      simp only [e0, e1] at hK ⊢
      simp only [Act.put, List.setIfInBounds_toArray, List.set_cons_zero, List.set_cons_succ] at hK
      clear hs hne
      go_simp
      all_goals (try go_wp2_with (first | (go_at_call 79; refine (cut_d _ hp ha hb_ hk hne).mono ?_; rintro e w' ⟨rfl, hb1⟩)))
      all_goals first | exact hK.out _ _ rfl (bl_refl _) | exact hK.out _ _ rfl (by assumption) | exact hK.out _ _ (by assumption) (by assumption)
    · cases ho
      simp only [Act.put, List.setIfInBounds_toArray, List.set_cons_zero, List.set_cons_succ] at hK
      clear hs hne
      go_simp
      all_goals (try go_wp2_with (first | (go_at_call 79; refine (cut_d _ hp ha hb_ hk hne).mono ?_; rintro e w' ⟨rfl, hb1⟩)))
      all_goals first | exact hK.out _ _ rfl (bl_refl _) | exact hK.out _ _ rfl (by assumption) | exact hK.out _ _ (by assumption) (by assumption)
    · cases ho
      have e3 : s 3 = _ := hs 3 (by decide) (by decide) (by kernel_rfl)
      simp only [e3] at hK ⊢
      simp only [Act.put, List.setIfInBounds_toArray, List.set_cons_zero, List.set_cons_succ] at hK
      clear hs hne
      go_simp
      all_goals (try go_wp2_with (first | (go_at_call 79; refine (cut_d _ hp ha hb_ hk hne).mono ?_; rintro e w' ⟨rfl, hb1⟩)))
      all_goals first | exact hK.out _ _ rfl (bl_refl _) | exact hK.out _ _ rfl (by assumption) | exact hK.out _ _ (by assumption) (by assumption)
    · cases ho
      have e2 : s 2 = _ := hs 2 (by decide) (by decide) (by kernel_rfl)
      have e4 : s 4 = _ := hs 4 (by decide) (by decide) (by kernel_rfl)
      simp only [e2, e4] at hK ⊢
      simp only [Act.put, List.setIfInBounds_toArray, List.set_cons_zero, List.set_cons_succ] at hK
      clear hs hne
      go_simp
      all_goals (try go_wp2_with (first | (go_at_call 79; refine (cut_d _ hp ha hb_ hk hne).mono ?_; rintro e w' ⟨rfl, hb1⟩)))
      all_goals first | exact hK.out _ _ rfl (bl_refl _) | exact hK.out _ _ rfl (by assumption) | exact hK.out _ _ (by assumption) (by assumption)
    · cases ho
      simp only [Act.put, List.setIfInBounds_toArray, List.set_cons_zero, List.set_cons_succ] at hK
      clear hs hne
      go_simp
      all_goals (try go_wp2_with (first | (go_at_call 79; refine (cut_d _ hp ha hb_ hk hne).mono ?_; rintro e w' ⟨rfl, hb1⟩)))
      all_goals first | exact hK.out _ _ rfl (bl_refl _) | exact hK.out _ _ rfl (by assumption) | exact hK.out _ _ (by assumption) (by assumption)
    · cases ho
      have e5 : s 5 = _ := hs 5 (by decide) (by decide) (by kernel_rfl)
      have e6 : s 6 = _ := hs 6 (by decide) (by decide) (by kernel_rfl)
      simp only [e5, e6] at hK ⊢
      simp only [Act.put, List.setIfInBounds_toArray, List.set_cons_zero, List.set_cons_succ] at hK
      clear hs hne
      go_simp
      all_goals (try go_wp2_with (first | (go_at_call 79; refine (cut_d _ hp ha hb_ hk hne).mono ?_; rintro e w' ⟨rfl, hb1⟩)))
      all_goals first | exact hK.out _ _ rfl (bl_refl _) | exact hK.out _ _ rfl (by assumption) | exact hK.out _ _ (by assumption) (by assumption)
    · exact absurd rfl hne
    · cases ho
      simp only [Act.put, List.setIfInBounds_toArray, List.set_cons_zero, List.set_cons_succ] at hK
      clear hs hne
      go_simp
      all_goals (try go_wp2_with (first | (go_at_call 79; refine (cut_d _ hp ha hb_ hk hne).mono ?_; rintro e w' ⟨rfl, hb1⟩)))
      all_goals first | exact hK.out _ _ rfl (bl_refl _) | exact hK.out _ _ rfl (by assumption) | exact hK.out _ _ (by assumption) (by assumption)
  case ht_wo =>
    intro s hs W0 W hb0 hb
    have e0 : s 0 = _ := hs 0 (by decide) (by decide)
    have e1 : s 1 = _ := hs 1 (by decide) (by decide)
    have e2 : s 2 = _ := hs 2 (by decide) (by decide)
    have e3 : s 3 = _ := hs 3 (by decide) (by decide)
    have e4 : s 4 = _ := hs 4 (by decide) (by decide)
    have e5 : s 5 = _ := hs 5 (by decide) (by decide)
    have e6 : s 6 = _ := hs 6 (by decide) (by decide)
    have e7 : s 7 = _ := hs 7 (by decide) (by decide)
    have e9 : s 9 = _ := hs 9 (by decide) (by decide)
    simp only [e0, e1, e2, e3, e4, e5, e6, e7, e9]
    rw [e7] at hb
    clear hs e0 e1 e2 e3 e4 e5 e6 e7 e9
    have RA := putN_at (R := w.heap.size + 1 + 1) (W := W0) (v := .agg #[.float .f64 (cuX (nx, ny, fd) (ax, ay) (bx, b_y)), .float .f64 (cuY (nx, ny, fd) (ax, ay) (bx, b_y)), .float .f64 bx, .float .f64 b_y, .int .i64 2, .int .i64 1]) 6 (fun i hi => by rcases (show i = 0 ∨ i = 1 ∨ i = 2 ∨ i = 3 ∨ i = 4 ∨ i = 5 by omega) with rfl | rfl | rfl | rfl | rfl | rfl <;> first | (rw [keep hb0 z2_0]; rfl) | (rw [keep hb0 z2_1]; rfl) | (rw [keep hb0 z2_2]; rfl) | (rw [keep hb0 z2_3]; rfl) | (rw [keep hb0 z2_4]; rfl) | (rw [keep hb0 z2_5]; rfl))
    have R0 := keep hb (RA 0 (by decide)); have R1 := keep hb (RA 1 (by decide)); have R2 := keep hb (RA 2 (by decide)); have R3 := keep hb (RA 3 (by decide)); have R4 := keep hb (RA 4 (by decide)); have R5 := keep hb (RA 5 (by decide))
    simp only [cellAt] at R0 R1 R2 R3 R4 R5
    have BF := bl_trans (putN_bel (bl_trans B0 hb0) (show w.heap.size ≤ w.heap.size + 1 + 1 by omega) 6) hb
    go_wp2
    refine bodyPost_ret (v := .tuple #[.agg #[.float .f64 (cuX (nx, ny, fd) (ax, ay) (bx, b_y)), .float .f64 (cuY (nx, ny, fd) (ax, ay) (bx, b_y)), .float .f64 bx, .float .f64 b_y, .int .i64 2, .int .i64 1], .bool true]) (by simp [R0, R1, R2, R3, R4, R5, results, Try.results49, go_sem] <;> (first | exact ⟨⟨rfl, rfl, rfl, rfl, rfl, rfl⟩, rfl⟩ | exact ⟨rfl, rfl, rfl, rfl, rfl, rfl⟩ | exact ⟨rfl, rfl⟩ | rfl)) rfl ⟨rfl, BF⟩

set_option maxRecDepth 100000 in
set_option maxHeartbeats 2000000 in
theorem piece_00 {k nx ny fd ax ay bx b_y : Nat} (w : World) (hp : PnB (nx, ny, fd)) (ha : PtB k (ax, ay)) (hb : PtB k (bx, b_y)) (hk : k ≤ 600) (h1 : leK .f64 (frK (nx, ny, fd) (ax, ay)) 0 = false) (h2 : leK .f64 (frK (nx, ny, fd) (bx, b_y)) 0 = false) : Calls Try.prog 49 #[.agg #[.float .f64 ax, .float .f64 ay, .float .f64 (frK (nx, ny, fd) (ax, ay))], .agg #[.float .f64 bx, .float .f64 b_y, .float .f64 (frK (nx, ny, fd) (bx, b_y))]] w fun e w' => e = .returned (.tuple #[.agg #[.float .f64 0, .float .f64 0, .float .f64 0, .float .f64 0, .int .i64 0, .int .i64 0], .bool false]) ∧ Bel w w' := by
  have z0_0 : (w.alloc (.cells #[.float .f64 ax, .float .f64 ay, .float .f64 (frK (nx, ny, fd) (ax, ay))] 83)).cell? ⟨w.heap.size, 0, none⟩ = some (.float .f64 ax) := by rw [World.cell?_alloc_new]; rfl
  replace z0_0 := up_alloc (o := .cells #[.float .f64 bx, .float .f64 b_y, .float .f64 (frK (nx, ny, fd) (bx, b_y))] 83) z0_0
  replace z0_0 := up_alloc (o := .cells #[.float .f64 0, .float .f64 0, .float .f64 0, .float .f64 0, .int .i64 0, .int .i64 0] 79) z0_0
  have z0_1 : (w.alloc (.cells #[.float .f64 ax, .float .f64 ay, .float .f64 (frK (nx, ny, fd) (ax, ay))] 83)).cell? ⟨w.heap.size, 1, none⟩ = some (.float .f64 ay) := by rw [World.cell?_alloc_new]; rfl
  replace z0_1 := up_alloc (o := .cells #[.float .f64 bx, .float .f64 b_y, .float .f64 (frK (nx, ny, fd) (bx, b_y))] 83) z0_1
  replace z0_1 := up_alloc (o := .cells #[.float .f64 0, .float .f64 0, .float .f64 0, .float .f64 0, .int .i64 0, .int .i64 0] 79) z0_1
  have z0_2 : (w.alloc (.cells #[.float .f64 ax, .float .f64 ay, .float .f64 (frK (nx, ny, fd) (ax, ay))] 83)).cell? ⟨w.heap.size, 2, none⟩ = some (.float .f64 (frK (nx, ny, fd) (ax, ay))) := by rw [World.cell?_alloc_new]; rfl
  replace z0_2 := up_alloc (o := .cells #[.float .f64 bx, .float .f64 b_y, .float .f64 (frK (nx, ny, fd) (bx, b_y))] 83) z0_2
  replace z0_2 := up_alloc (o := .cells #[.float .f64 0, .float .f64 0, .float .f64 0, .float .f64 0, .int .i64 0, .int .i64 0] 79) z0_2
  have z1_0 : ((w.alloc (.cells #[.float .f64 ax, .float .f64 ay, .float .f64 (frK (nx, ny, fd) (ax, ay))] 83)).alloc (.cells #[.float .f64 bx, .float .f64 b_y, .float .f64 (frK (nx, ny, fd) (bx, b_y))] 83)).cell? ⟨w.heap.size + 1, 0, none⟩ = some (.float .f64 bx) := by rw [← (show (w.alloc (.cells #[.float .f64 ax, .float .f64 ay, .float .f64 (frK (nx, ny, fd) (ax, ay))] 83)).heap.size = w.heap.size + 1 by simp only [World.size_alloc]), World.cell?_alloc_new]; rfl
  replace z1_0 := up_alloc (o := .cells #[.float .f64 0, .float .f64 0, .float .f64 0, .float .f64 0, .int .i64 0, .int .i64 0] 79) z1_0
  have z1_1 : ((w.alloc (.cells #[.float .f64 ax, .float .f64 ay, .float .f64 (frK (nx, ny, fd) (ax, ay))] 83)).alloc (.cells #[.float .f64 bx, .float .f64 b_y, .float .f64 (frK (nx, ny, fd) (bx, b_y))] 83)).cell? ⟨w.heap.size + 1, 1, none⟩ = some (.float .f64 b_y) := by rw [← (show (w.alloc (.cells #[.float .f64 ax, .float .f64 ay, .float .f64 (frK (nx, ny, fd) (ax, ay))] 83)).heap.size = w.heap.size + 1 by simp only [World.size_alloc]), World.cell?_alloc_new]; rfl
  replace z1_1 := up_alloc (o := .cells #[.float .f64 0, .float .f64 0, .float .f64 0, .float .f64 0, .int .i64 0, .int .i64 0] 79) z1_1
  have z1_2 : ((w.alloc (.cells #[.float .f64 ax, .float .f64 ay, .float .f64 (frK (nx, ny, fd) (ax, ay))] 83)).alloc (.cells #[.float .f64 bx, .float .f64 b_y, .float .f64 (frK (nx, ny, fd) (bx, b_y))] 83)).cell? ⟨w.heap.size + 1, 2, none⟩ = some (.float .f64 (frK (nx, ny, fd) (bx, b_y))) := by rw [← (show (w.alloc (.cells #[.float .f64 ax, .float .f64 ay, .float .f64 (frK (nx, ny, fd) (ax, ay))] 83)).heap.size = w.heap.size + 1 by simp only [World.size_alloc]), World.cell?_alloc_new]; rfl
  replace z1_2 := up_alloc (o := .cells #[.float .f64 0, .float .f64 0, .float .f64 0, .float .f64 0, .int .i64 0, .int .i64 0] 79) z1_2
  have z2_0 : (((w.alloc (.cells #[.float .f64 ax, .float .f64 ay, .float .f64 (frK (nx, ny, fd) (ax, ay))] 83)).alloc (.cells #[.float .f64 bx, .float .f64 b_y, .float .f64 (frK (nx, ny, fd) (bx, b_y))] 83)).alloc (.cells #[.float .f64 0, .float .f64 0, .float .f64 0, .float .f64 0, .int .i64 0, .int .i64 0] 79)).cell? ⟨w.heap.size + 1 + 1, 0, none⟩ = some (.float .f64 0) := by rw [← (show ((w.alloc (.cells #[.float .f64 ax, .float .f64 ay, .float .f64 (frK (nx, ny, fd) (ax, ay))] 83)).alloc (.cells #[.float .f64 bx, .float .f64 b_y, .float .f64 (frK (nx, ny, fd) (bx, b_y))] 83)).heap.size = w.heap.size + 1 + 1 by simp only [World.size_alloc]), World.cell?_alloc_new]; rfl
  have z2_1 : (((w.alloc (.cells #[.float .f64 ax, .float .f64 ay, .float .f64 (frK (nx, ny, fd) (ax, ay))] 83)).alloc (.cells #[.float .f64 bx, .float .f64 b_y, .float .f64 (frK (nx, ny, fd) (bx, b_y))] 83)).alloc (.cells #[.float .f64 0, .float .f64 0, .float .f64 0, .float .f64 0, .int .i64 0, .int .i64 0] 79)).cell? ⟨w.heap.size + 1 + 1, 1, none⟩ = some (.float .f64 0) := by rw [← (show ((w.alloc (.cells #[.float .f64 ax, .float .f64 ay, .float .f64 (frK (nx, ny, fd) (ax, ay))] 83)).alloc (.cells #[.float .f64 bx, .float .f64 b_y, .float .f64 (frK (nx, ny, fd) (bx, b_y))] 83)).heap.size = w.heap.size + 1 + 1 by simp only [World.size_alloc]), World.cell?_alloc_new]; rfl
  have z2_2 : (((w.alloc (.cells #[.float .f64 ax, .float .f64 ay, .float .f64 (frK (nx, ny, fd) (ax, ay))] 83)).alloc (.cells #[.float .f64 bx, .float .f64 b_y, .float .f64 (frK (nx, ny, fd) (bx, b_y))] 83)).alloc (.cells #[.float .f64 0, .float .f64 0, .float .f64 0, .float .f64 0, .int .i64 0, .int .i64 0] 79)).cell? ⟨w.heap.size + 1 + 1, 2, none⟩ = some (.float .f64 0) := by rw [← (show ((w.alloc (.cells #[.float .f64 ax, .float .f64 ay, .float .f64 (frK (nx, ny, fd) (ax, ay))] 83)).alloc (.cells #[.float .f64 bx, .float .f64 b_y, .float .f64 (frK (nx, ny, fd) (bx, b_y))] 83)).heap.size = w.heap.size + 1 + 1 by simp only [World.size_alloc]), World.cell?_alloc_new]; rfl
  have z2_3 : (((w.alloc (.cells #[.float .f64 ax, .float .f64 ay, .float .f64 (frK (nx, ny, fd) (ax, ay))] 83)).alloc (.cells #[.float .f64 bx, .float .f64 b_y, .float .f64 (frK (nx, ny, fd) (bx, b_y))] 83)).alloc (.cells #[.float .f64 0, .float .f64 0, .float .f64 0, .float .f64 0, .int .i64 0, .int .i64 0] 79)).cell? ⟨w.heap.size + 1 + 1, 3, none⟩ = some (.float .f64 0) := by rw [← (show ((w.alloc (.cells #[.float .f64 ax, .float .f64 ay, .float .f64 (frK (nx, ny, fd) (ax, ay))] 83)).alloc (.cells #[.float .f64 bx, .float .f64 b_y, .float .f64 (frK (nx, ny, fd) (bx, b_y))] 83)).heap.size = w.heap.size + 1 + 1 by simp only [World.size_alloc]), World.cell?_alloc_new]; rfl
  have z2_4 : (((w.alloc (.cells #[.float .f64 ax, .float .f64 ay, .float .f64 (frK (nx, ny, fd) (ax, ay))] 83)).alloc (.cells #[.float .f64 bx, .float .f64 b_y, .float .f64 (frK (nx, ny, fd) (bx, b_y))] 83)).alloc (.cells #[.float .f64 0, .float .f64 0, .float .f64 0, .float .f64 0, .int .i64 0, .int .i64 0] 79)).cell? ⟨w.heap.size + 1 + 1, 4, none⟩ = some (.int .i64 0) := by rw [← (show ((w.alloc (.cells #[.float .f64 ax, .float .f64 ay, .float .f64 (frK (nx, ny, fd) (ax, ay))] 83)).alloc (.cells #[.float .f64 bx, .float .f64 b_y, .float .f64 (frK (nx, ny, fd) (bx, b_y))] 83)).heap.size = w.heap.size + 1 + 1 by simp only [World.size_alloc]), World.cell?_alloc_new]; rfl
  have z2_5 : (((w.alloc (.cells #[.float .f64 ax, .float .f64 ay, .float .f64 (frK (nx, ny, fd) (ax, ay))] 83)).alloc (.cells #[.float .f64 bx, .float .f64 b_y, .float .f64 (frK (nx, ny, fd) (bx, b_y))] 83)).alloc (.cells #[.float .f64 0, .float .f64 0, .float .f64 0, .float .f64 0, .int .i64 0, .int .i64 0] 79)).cell? ⟨w.heap.size + 1 + 1, 5, none⟩ = some (.int .i64 0) := by rw [← (show ((w.alloc (.cells #[.float .f64 ax, .float .f64 ay, .float .f64 (frK (nx, ny, fd) (ax, ay))] 83)).alloc (.cells #[.float .f64 bx, .float .f64 b_y, .float .f64 (frK (nx, ny, fd) (bx, b_y))] 83)).heap.size = w.heap.size + 1 + 1 by simp only [World.size_alloc]), World.cell?_alloc_new]; rfl
  have B0 : Bel w (((w.alloc (.cells #[.float .f64 ax, .float .f64 ay, .float .f64 (frK (nx, ny, fd) (ax, ay))] 83)).alloc (.cells #[.float .f64 bx, .float .f64 b_y, .float .f64 (frK (nx, ny, fd) (bx, b_y))] 83)).alloc (.cells #[.float .f64 0, .float .f64 0, .float .f64 0, .float .f64 0, .int .i64 0, .int .i64 0] 79)) := bl_alloc (bl_alloc (bl_alloc (bl_refl w) _ _) _ _) _ _
  go_enter Try.func49, Try.ntmps49
  go_wp2_with (first | (go_at_call 78; refine (ewithin_d _ _ _ _).mono ?_; rintro e w' ⟨rfl, hb⟩; (first | rw [h1] | rw [h2]); (first | have B := bl_trans B hb | have B := bl_trans (by repeat (first | exact B | apply bl_drewN)) hb | have B := bl_trans (by repeat (first | exact B | apply bl_drewN | apply bl_drew | apply bl_alloc | refine bl_set ?_ (by simp <;> omega))) hb | have B := hb); (try clear hc hf hz); obtain ⟨hc, hf⟩ := bcell B; have hz := B.size; (try simp at hz)))
  replace z0_0 := keep B z0_0
  replace z0_1 := keep B z0_1
  replace z0_2 := keep B z0_2
  replace z1_0 := keep B z1_0
  replace z1_1 := keep B z1_1
  replace z1_2 := keep B z1_2
  replace z2_0 := keep B z2_0
  replace z2_1 := keep B z2_1
  replace z2_2 := keep B z2_2
  replace z2_3 := keep B z2_3
  replace z2_4 := keep B z2_4
  replace z2_5 := keep B z2_5
  have B0 := bl_trans B0 B
  have RA := putN_at (R := w.heap.size + 1 + 1) (W := w') (v := .agg #[.float .f64 0, .float .f64 0, .float .f64 0, .float .f64 0, .int .i64 0, .int .i64 0]) 6 (fun i hi => by rcases (show i = 0 ∨ i = 1 ∨ i = 2 ∨ i = 3 ∨ i = 4 ∨ i = 5 by omega) with rfl | rfl | rfl | rfl | rfl | rfl <;> first | (rw [z2_0]; rfl) | (rw [z2_1]; rfl) | (rw [z2_2]; rfl) | (rw [z2_3]; rfl) | (rw [z2_4]; rfl) | (rw [z2_5]; rfl))
  rw [putN6_eq] at RA
  have R0 := RA 0 (by decide)
  rw [show cellAt (.agg #[.float .f64 0, .float .f64 0, .float .f64 0, .float .f64 0, .int .i64 0, .int .i64 0]) 0 = .float .f64 0 from rfl] at R0
  have R1 := RA 1 (by decide)
  rw [show cellAt (.agg #[.float .f64 0, .float .f64 0, .float .f64 0, .float .f64 0, .int .i64 0, .int .i64 0]) 1 = .float .f64 0 from rfl] at R1
  have R2 := RA 2 (by decide)
  rw [show cellAt (.agg #[.float .f64 0, .float .f64 0, .float .f64 0, .float .f64 0, .int .i64 0, .int .i64 0]) 2 = .float .f64 0 from rfl] at R2
  have R3 := RA 3 (by decide)
  rw [show cellAt (.agg #[.float .f64 0, .float .f64 0, .float .f64 0, .float .f64 0, .int .i64 0, .int .i64 0]) 3 = .float .f64 0 from rfl] at R3
  have R4 := RA 4 (by decide)
  rw [show cellAt (.agg #[.float .f64 0, .float .f64 0, .float .f64 0, .float .f64 0, .int .i64 0, .int .i64 0]) 4 = .int .i64 0 from rfl] at R4
  have R5 := RA 5 (by decide)
  rw [show cellAt (.agg #[.float .f64 0, .float .f64 0, .float .f64 0, .float .f64 0, .int .i64 0, .int .i64 0]) 5 = .int .i64 0 from rfl] at R5
  have BZ := putN_bel (R := w.heap.size + 1 + 1) (v := .agg #[.float .f64 0, .float .f64 0, .float .f64 0, .float .f64 0, .int .i64 0, .int .i64 0]) B0 (show w.heap.size ≤ w.heap.size + 1 + 1 by omega) 6
  rw [putN6_eq] at BZ
  refine bodyPost_ret (v := .tuple #[.agg #[.float .f64 0, .float .f64 0, .float .f64 0, .float .f64 0, .int .i64 0, .int .i64 0], .bool false]) (by simp [R0, R1, R2, R3, R4, R5, results, Try.results49, go_sem] <;> (first | exact ⟨⟨rfl, rfl, rfl, rfl, rfl, rfl⟩, rfl⟩ | exact ⟨rfl, rfl, rfl, rfl, rfl, rfl⟩ | exact ⟨rfl, rfl⟩ | rfl)) rfl ⟨rfl, BZ⟩

end Go.Proofs.Ytpedpgpgcmhnoaa
