/-
  What each function of package poly answers, and what the reference of its chapter answers: one contract a function, for every float: the answer stands in the relation of its formula to what was given; of the memory that was there nothing has turned.
-/
import Derived.Test.YtpedpgpgcmhnoaaVec
import Derived.Test.YtpedpgpgcmhnoaaCe
import Derived.Test.YtpedpgpgcmhnoaaOnc4
import Derived.Below
import Derived.WalkKit
import Derived.WalkLawsBesides
import Derived.WalkSpells
import Derived.ProofKit
import Derived.OpenShut
import Derived.Deep.RegionHeld3
namespace Go.Proofs.Ytpedpgpgcmhnoaa
open Go.ChangeShapes Go.WideShapes Go.ChangeAt Go.RowKit
set_option linter.unusedVariables false
set_option linter.unusedSimpArgs false


theorem make_int2 (W : World) : (Instr.makeSlice 33 (.int .i64 2) (.int .i64 2)).run Try.prog W = .ok (.slice (some ⟨W.heap.size, 0, none⟩) 2 2) (W.alloc (.cells #[.int .i64 0, .int .i64 0] 3)) := by
  have h := run_make (P := Try.prog) W 33 3 Try.t3 (.int .i64 0) Try.underlying33 (by kernel_rfl) (by kernel_rfl) .i64 .i64 2 2 (by omega) (by omega) (by show ((8 : Nat) : Int) * 2 ≤ _; omega) (by omega)
  rw [show madeCells (Value.int .i64 0).cells (Int.toNat 2 * Try.t3.size) = #[.int .i64 0, .int .i64 0] by kernel_rfl] at h
  exact h
theorem copy_int2 {w : World} {ty g a o : Nat} {i j : Int} (h0 : w.cell? ⟨a, o, none⟩ = some (.int .i64 i)) (h1 : w.cell? ⟨a, o + 1, none⟩ = some (.int .i64 j)) (g0 : w.cell? ⟨g, 0, none⟩ = some (.int .i64 0)) (g1 : w.cell? ⟨g, 1, none⟩ = some (.int .i64 0)) (hf : ∀ o, w.frozen? ⟨g, o, none⟩ = false) :
    (Builtin.copy_ #[33, 33] ty #[.slice (some ⟨g, 0, none⟩) 2 2, .slice (some ⟨a, o, none⟩) 2 2]).run Try.prog w = .ok (.int .i64 2) ((w.setCell ⟨g, 0, none⟩ (.int .i64 i)).setCell ⟨g, 1, none⟩ (.int .i64 j)) := by
  have h := run_copy_cells (P := Try.prog) w 33 33 ty 3 g 0 2 2 ⟨a, o, none⟩ 2 2 [.int .i64 i, .int .i64 j] Try.underlying33 (by kernel_rfl) rfl
    (fun q v hv => by
      rw [add_plain]
      rcases (show q = 0 ∨ q = 1 ∨ 2 ≤ q by omega) with rfl | rfl | hq
      · simp at hv; rw [← hv]; exact h0
      · simp at hv; rw [← hv]; exact h1
      · rw [List.getElem?_eq_none (by simpa using hq)] at hv; cases hv)
    (fun q hq => by
      rcases (show q = 0 ∨ q = 1 by simp at hq; omega) with rfl | rfl
      · rw [g0]; rfl
      · rw [g1]; rfl)
    (fun q _ => hf _) (by intro v hv; simp at hv; rcases hv with rfl | rfl <;> rfl)
  exact h
set_option maxRecDepth 100000 in
set_option maxHeartbeats 1000000 in
theorem seg_err (nx ny fd ax ay bx b_y : Nat) (w : World) (o1 : okK .f64 nx) (o2 : okK .f64 ny) (o3 : okK .f64 fd) (oa : okK .f64 ax) (ob : okK .f64 ay) (oc : okK .f64 bx) (od : okK .f64 b_y) (h0 : ¬ farE (nx, ny, fd) [(ax, ay), (bx, b_y)] = 0) : Calls Try.prog 13 #[.agg #[.float .f64 nx, .float .f64 ny, .float .f64 fd], .agg #[.float .f64 ax, .float .f64 ay], .agg #[.float .f64 bx, .float .f64 b_y]] w fun e w' => e = .returned (.tuple #[.slice none 0 0, .slice none 0 0, .int .i64 (farE (nx, ny, fd) [(ax, ay), (bx, b_y)])]) ∧ Bel w w' := by
  have z0_0 : (w.alloc (.cells #[.float .f64 nx, .float .f64 ny, .float .f64 fd] 26)).cell? ⟨w.heap.size, 0, none⟩ = some (.float .f64 nx) := by rw [World.cell?_alloc_new]; rfl
  replace z0_0 := up_alloc (o := .cells #[.float .f64 ax, .float .f64 ay] 24) z0_0
  replace z0_0 := up_alloc (o := .cells #[.float .f64 bx, .float .f64 b_y] 24) z0_0
  replace z0_0 := up_alloc (o := .cells #[.float .f64 ax, .float .f64 ay, .float .f64 bx, .float .f64 b_y] 24) z0_0
  have z0_1 : (w.alloc (.cells #[.float .f64 nx, .float .f64 ny, .float .f64 fd] 26)).cell? ⟨w.heap.size, 1, none⟩ = some (.float .f64 ny) := by rw [World.cell?_alloc_new]; rfl
  replace z0_1 := up_alloc (o := .cells #[.float .f64 ax, .float .f64 ay] 24) z0_1
  replace z0_1 := up_alloc (o := .cells #[.float .f64 bx, .float .f64 b_y] 24) z0_1
  replace z0_1 := up_alloc (o := .cells #[.float .f64 ax, .float .f64 ay, .float .f64 bx, .float .f64 b_y] 24) z0_1
  have z0_2 : (w.alloc (.cells #[.float .f64 nx, .float .f64 ny, .float .f64 fd] 26)).cell? ⟨w.heap.size, 2, none⟩ = some (.float .f64 fd) := by rw [World.cell?_alloc_new]; rfl
  replace z0_2 := up_alloc (o := .cells #[.float .f64 ax, .float .f64 ay] 24) z0_2
  replace z0_2 := up_alloc (o := .cells #[.float .f64 bx, .float .f64 b_y] 24) z0_2
  replace z0_2 := up_alloc (o := .cells #[.float .f64 ax, .float .f64 ay, .float .f64 bx, .float .f64 b_y] 24) z0_2
  have z1_0 : ((w.alloc (.cells #[.float .f64 nx, .float .f64 ny, .float .f64 fd] 26)).alloc (.cells #[.float .f64 ax, .float .f64 ay] 24)).cell? ⟨w.heap.size + 1, 0, none⟩ = some (.float .f64 ax) := by rw [← (show (w.alloc (.cells #[.float .f64 nx, .float .f64 ny, .float .f64 fd] 26)).heap.size = w.heap.size + 1 by simp only [World.size_alloc]), World.cell?_alloc_new]; rfl
  replace z1_0 := up_alloc (o := .cells #[.float .f64 bx, .float .f64 b_y] 24) z1_0
  replace z1_0 := up_alloc (o := .cells #[.float .f64 ax, .float .f64 ay, .float .f64 bx, .float .f64 b_y] 24) z1_0
  have z1_1 : ((w.alloc (.cells #[.float .f64 nx, .float .f64 ny, .float .f64 fd] 26)).alloc (.cells #[.float .f64 ax, .float .f64 ay] 24)).cell? ⟨w.heap.size + 1, 1, none⟩ = some (.float .f64 ay) := by rw [← (show (w.alloc (.cells #[.float .f64 nx, .float .f64 ny, .float .f64 fd] 26)).heap.size = w.heap.size + 1 by simp only [World.size_alloc]), World.cell?_alloc_new]; rfl
  replace z1_1 := up_alloc (o := .cells #[.float .f64 bx, .float .f64 b_y] 24) z1_1
  replace z1_1 := up_alloc (o := .cells #[.float .f64 ax, .float .f64 ay, .float .f64 bx, .float .f64 b_y] 24) z1_1
  have z2_0 : (((w.alloc (.cells #[.float .f64 nx, .float .f64 ny, .float .f64 fd] 26)).alloc (.cells #[.float .f64 ax, .float .f64 ay] 24)).alloc (.cells #[.float .f64 bx, .float .f64 b_y] 24)).cell? ⟨w.heap.size + 1 + 1, 0, none⟩ = some (.float .f64 bx) := by rw [← (show ((w.alloc (.cells #[.float .f64 nx, .float .f64 ny, .float .f64 fd] 26)).alloc (.cells #[.float .f64 ax, .float .f64 ay] 24)).heap.size = w.heap.size + 1 + 1 by simp only [World.size_alloc]), World.cell?_alloc_new]; rfl
  replace z2_0 := up_alloc (o := .cells #[.float .f64 ax, .float .f64 ay, .float .f64 bx, .float .f64 b_y] 24) z2_0
  have z2_1 : (((w.alloc (.cells #[.float .f64 nx, .float .f64 ny, .float .f64 fd] 26)).alloc (.cells #[.float .f64 ax, .float .f64 ay] 24)).alloc (.cells #[.float .f64 bx, .float .f64 b_y] 24)).cell? ⟨w.heap.size + 1 + 1, 1, none⟩ = some (.float .f64 b_y) := by rw [← (show ((w.alloc (.cells #[.float .f64 nx, .float .f64 ny, .float .f64 fd] 26)).alloc (.cells #[.float .f64 ax, .float .f64 ay] 24)).heap.size = w.heap.size + 1 + 1 by simp only [World.size_alloc]), World.cell?_alloc_new]; rfl
  replace z2_1 := up_alloc (o := .cells #[.float .f64 ax, .float .f64 ay, .float .f64 bx, .float .f64 b_y] 24) z2_1
  have z3_0 : ((((w.alloc (.cells #[.float .f64 nx, .float .f64 ny, .float .f64 fd] 26)).alloc (.cells #[.float .f64 ax, .float .f64 ay] 24)).alloc (.cells #[.float .f64 bx, .float .f64 b_y] 24)).alloc (.cells #[.float .f64 ax, .float .f64 ay, .float .f64 bx, .float .f64 b_y] 24)).cell? ⟨w.heap.size + 1 + 1 + 1, 0, none⟩ = some (.float .f64 ax) := by rw [← (show (((w.alloc (.cells #[.float .f64 nx, .float .f64 ny, .float .f64 fd] 26)).alloc (.cells #[.float .f64 ax, .float .f64 ay] 24)).alloc (.cells #[.float .f64 bx, .float .f64 b_y] 24)).heap.size = w.heap.size + 1 + 1 + 1 by simp only [World.size_alloc]), World.cell?_alloc_new]; rfl
  have z3_1 : ((((w.alloc (.cells #[.float .f64 nx, .float .f64 ny, .float .f64 fd] 26)).alloc (.cells #[.float .f64 ax, .float .f64 ay] 24)).alloc (.cells #[.float .f64 bx, .float .f64 b_y] 24)).alloc (.cells #[.float .f64 ax, .float .f64 ay, .float .f64 bx, .float .f64 b_y] 24)).cell? ⟨w.heap.size + 1 + 1 + 1, 1, none⟩ = some (.float .f64 ay) := by rw [← (show (((w.alloc (.cells #[.float .f64 nx, .float .f64 ny, .float .f64 fd] 26)).alloc (.cells #[.float .f64 ax, .float .f64 ay] 24)).alloc (.cells #[.float .f64 bx, .float .f64 b_y] 24)).heap.size = w.heap.size + 1 + 1 + 1 by simp only [World.size_alloc]), World.cell?_alloc_new]; rfl
  have z3_2 : ((((w.alloc (.cells #[.float .f64 nx, .float .f64 ny, .float .f64 fd] 26)).alloc (.cells #[.float .f64 ax, .float .f64 ay] 24)).alloc (.cells #[.float .f64 bx, .float .f64 b_y] 24)).alloc (.cells #[.float .f64 ax, .float .f64 ay, .float .f64 bx, .float .f64 b_y] 24)).cell? ⟨w.heap.size + 1 + 1 + 1, 2, none⟩ = some (.float .f64 bx) := by rw [← (show (((w.alloc (.cells #[.float .f64 nx, .float .f64 ny, .float .f64 fd] 26)).alloc (.cells #[.float .f64 ax, .float .f64 ay] 24)).alloc (.cells #[.float .f64 bx, .float .f64 b_y] 24)).heap.size = w.heap.size + 1 + 1 + 1 by simp only [World.size_alloc]), World.cell?_alloc_new]; rfl
  have z3_3 : ((((w.alloc (.cells #[.float .f64 nx, .float .f64 ny, .float .f64 fd] 26)).alloc (.cells #[.float .f64 ax, .float .f64 ay] 24)).alloc (.cells #[.float .f64 bx, .float .f64 b_y] 24)).alloc (.cells #[.float .f64 ax, .float .f64 ay, .float .f64 bx, .float .f64 b_y] 24)).cell? ⟨w.heap.size + 1 + 1 + 1, 3, none⟩ = some (.float .f64 b_y) := by rw [← (show (((w.alloc (.cells #[.float .f64 nx, .float .f64 ny, .float .f64 fd] 26)).alloc (.cells #[.float .f64 ax, .float .f64 ay] 24)).alloc (.cells #[.float .f64 bx, .float .f64 b_y] 24)).heap.size = w.heap.size + 1 + 1 + 1 by simp only [World.size_alloc]), World.cell?_alloc_new]; rfl
  have B0 : Bel w ((((w.alloc (.cells #[.float .f64 nx, .float .f64 ny, .float .f64 fd] 26)).alloc (.cells #[.float .f64 ax, .float .f64 ay] 24)).alloc (.cells #[.float .f64 bx, .float .f64 b_y] 24)).alloc (.cells #[.float .f64 ax, .float .f64 ay, .float .f64 bx, .float .f64 b_y] 24)) := bl_alloc (bl_alloc (bl_alloc (bl_alloc (bl_refl w) _ _) _ _) _ _) _ _
  have CW := cw_d (w.heap.size + 1 + 1 + 1) 0 2 2 (px [(ax, ay), (bx, b_y)]) (py [(ax, ay), (bx, b_y)]) nx ny fd _ (sl_pts (W := (((w.alloc (.cells #[.float .f64 nx, .float .f64 ny, .float .f64 fd] 26)).alloc (.cells #[.float .f64 ax, .float .f64 ay] 24)).alloc (.cells #[.float .f64 bx, .float .f64 b_y] 24))) (L := [(ax, ay), (bx, b_y)]) (ty := 24) (cs := #[.float .f64 ax, .float .f64 ay, .float .f64 bx, .float .f64 b_y]) (by simp only [World.size_alloc]) (by simp [prRow, px, py, pt, List.range_succ])) (by decide) (by decide) (by decide) o1 o2 o3
  rw [show cwE (nx, ny, fd) (px [(ax, ay), (bx, b_y)]) (py [(ax, ay), (bx, b_y)]) 2 = farE (nx, ny, fd) [(ax, ay), (bx, b_y)] from rfl] at CW
  have h0' : ¬ (farE (nx, ny, fd) [(ax, ay), (bx, b_y)] == 0) = true := by simpa using h0
  go_enter Try.func13, Try.ntmps13
  go_wp2_with (first | (go_at_call 48; refine CW.mono ?_; rintro e w' ⟨rfl, hb⟩; replace z0_0 := keep hb z0_0; replace z0_1 := keep hb z0_1; replace z0_2 := keep hb z0_2; replace z1_0 := keep hb z1_0; replace z1_1 := keep hb z1_1; replace z2_0 := keep hb z2_0; replace z2_1 := keep hb z2_1; have B0 := bl_trans B0 hb; clear hb))
  refine bodyPost_ret (v := .tuple #[.slice none 0 0, .slice none 0 0, .int .i64 (farE (nx, ny, fd) [(ax, ay), (bx, b_y)])]) (by simp [results, Try.results13, go_sem] <;> (first | exact ⟨⟨rfl, rfl⟩, rfl⟩ | exact ⟨rfl, rfl, rfl, rfl⟩ | exact ⟨rfl, rfl, rfl⟩ | exact ⟨rfl, rfl⟩ | rfl)) rfl ⟨rfl, B0⟩

set_option maxRecDepth 100000 in
set_option maxHeartbeats 2000000 in
theorem seg_00 (nx ny fd ax ay bx b_y : Nat) (w : World) (o1 : okK .f64 nx) (o2 : okK .f64 ny) (o3 : okK .f64 fd) (oa : okK .f64 ax) (ob : okK .f64 ay) (oc : okK .f64 bx) (od : okK .f64 b_y) (h0 : farE (nx, ny, fd) [(ax, ay), (bx, b_y)] = 0) (h1 : leK .f64 (frK (nx, ny, fd) (ax, ay)) 0 = false) (h2 : leK .f64 (frK (nx, ny, fd) (bx, b_y)) 0 = false) : Calls Try.prog 13 #[.agg #[.float .f64 nx, .float .f64 ny, .float .f64 fd], .agg #[.float .f64 ax, .float .f64 ay], .agg #[.float .f64 bx, .float .f64 b_y]] w fun e w' => e = .returned (.tuple #[.slice none 0 0, .slice none 0 0, .int .i64 0]) ∧ Bel w w' := by
  obtain ⟨hp, hl⟩ := farE_bd h0 o1 o2 o3 (by intro q hq; simp at hq; rcases hq with rfl | rfl <;> constructor <;> assumption)
  have ha := hl (ax, ay) (by simp)
  have hb_ := hl (bx, b_y) (by simp)
  have z0_0 : (w.alloc (.cells #[.float .f64 nx, .float .f64 ny, .float .f64 fd] 26)).cell? ⟨w.heap.size, 0, none⟩ = some (.float .f64 nx) := by rw [World.cell?_alloc_new]; rfl
  replace z0_0 := up_alloc (o := .cells #[.float .f64 ax, .float .f64 ay] 24) z0_0
  replace z0_0 := up_alloc (o := .cells #[.float .f64 bx, .float .f64 b_y] 24) z0_0
  replace z0_0 := up_alloc (o := .cells #[.float .f64 ax, .float .f64 ay, .float .f64 bx, .float .f64 b_y] 24) z0_0
  have z0_1 : (w.alloc (.cells #[.float .f64 nx, .float .f64 ny, .float .f64 fd] 26)).cell? ⟨w.heap.size, 1, none⟩ = some (.float .f64 ny) := by rw [World.cell?_alloc_new]; rfl
  replace z0_1 := up_alloc (o := .cells #[.float .f64 ax, .float .f64 ay] 24) z0_1
  replace z0_1 := up_alloc (o := .cells #[.float .f64 bx, .float .f64 b_y] 24) z0_1
  replace z0_1 := up_alloc (o := .cells #[.float .f64 ax, .float .f64 ay, .float .f64 bx, .float .f64 b_y] 24) z0_1
  have z0_2 : (w.alloc (.cells #[.float .f64 nx, .float .f64 ny, .float .f64 fd] 26)).cell? ⟨w.heap.size, 2, none⟩ = some (.float .f64 fd) := by rw [World.cell?_alloc_new]; rfl
  replace z0_2 := up_alloc (o := .cells #[.float .f64 ax, .float .f64 ay] 24) z0_2
  replace z0_2 := up_alloc (o := .cells #[.float .f64 bx, .float .f64 b_y] 24) z0_2
  replace z0_2 := up_alloc (o := .cells #[.float .f64 ax, .float .f64 ay, .float .f64 bx, .float .f64 b_y] 24) z0_2
  have z1_0 : ((w.alloc (.cells #[.float .f64 nx, .float .f64 ny, .float .f64 fd] 26)).alloc (.cells #[.float .f64 ax, .float .f64 ay] 24)).cell? ⟨w.heap.size + 1, 0, none⟩ = some (.float .f64 ax) := by rw [← (show (w.alloc (.cells #[.float .f64 nx, .float .f64 ny, .float .f64 fd] 26)).heap.size = w.heap.size + 1 by simp only [World.size_alloc]), World.cell?_alloc_new]; rfl
  replace z1_0 := up_alloc (o := .cells #[.float .f64 bx, .float .f64 b_y] 24) z1_0
  replace z1_0 := up_alloc (o := .cells #[.float .f64 ax, .float .f64 ay, .float .f64 bx, .float .f64 b_y] 24) z1_0
  have z1_1 : ((w.alloc (.cells #[.float .f64 nx, .float .f64 ny, .float .f64 fd] 26)).alloc (.cells #[.float .f64 ax, .float .f64 ay] 24)).cell? ⟨w.heap.size + 1, 1, none⟩ = some (.float .f64 ay) := by rw [← (show (w.alloc (.cells #[.float .f64 nx, .float .f64 ny, .float .f64 fd] 26)).heap.size = w.heap.size + 1 by simp only [World.size_alloc]), World.cell?_alloc_new]; rfl
  replace z1_1 := up_alloc (o := .cells #[.float .f64 bx, .float .f64 b_y] 24) z1_1
  replace z1_1 := up_alloc (o := .cells #[.float .f64 ax, .float .f64 ay, .float .f64 bx, .float .f64 b_y] 24) z1_1
  have z2_0 : (((w.alloc (.cells #[.float .f64 nx, .float .f64 ny, .float .f64 fd] 26)).alloc (.cells #[.float .f64 ax, .float .f64 ay] 24)).alloc (.cells #[.float .f64 bx, .float .f64 b_y] 24)).cell? ⟨w.heap.size + 1 + 1, 0, none⟩ = some (.float .f64 bx) := by rw [← (show ((w.alloc (.cells #[.float .f64 nx, .float .f64 ny, .float .f64 fd] 26)).alloc (.cells #[.float .f64 ax, .float .f64 ay] 24)).heap.size = w.heap.size + 1 + 1 by simp only [World.size_alloc]), World.cell?_alloc_new]; rfl
  replace z2_0 := up_alloc (o := .cells #[.float .f64 ax, .float .f64 ay, .float .f64 bx, .float .f64 b_y] 24) z2_0
  have z2_1 : (((w.alloc (.cells #[.float .f64 nx, .float .f64 ny, .float .f64 fd] 26)).alloc (.cells #[.float .f64 ax, .float .f64 ay] 24)).alloc (.cells #[.float .f64 bx, .float .f64 b_y] 24)).cell? ⟨w.heap.size + 1 + 1, 1, none⟩ = some (.float .f64 b_y) := by rw [← (show ((w.alloc (.cells #[.float .f64 nx, .float .f64 ny, .float .f64 fd] 26)).alloc (.cells #[.float .f64 ax, .float .f64 ay] 24)).heap.size = w.heap.size + 1 + 1 by simp only [World.size_alloc]), World.cell?_alloc_new]; rfl
  replace z2_1 := up_alloc (o := .cells #[.float .f64 ax, .float .f64 ay, .float .f64 bx, .float .f64 b_y] 24) z2_1
  have z3_0 : ((((w.alloc (.cells #[.float .f64 nx, .float .f64 ny, .float .f64 fd] 26)).alloc (.cells #[.float .f64 ax, .float .f64 ay] 24)).alloc (.cells #[.float .f64 bx, .float .f64 b_y] 24)).alloc (.cells #[.float .f64 ax, .float .f64 ay, .float .f64 bx, .float .f64 b_y] 24)).cell? ⟨w.heap.size + 1 + 1 + 1, 0, none⟩ = some (.float .f64 ax) := by rw [← (show (((w.alloc (.cells #[.float .f64 nx, .float .f64 ny, .float .f64 fd] 26)).alloc (.cells #[.float .f64 ax, .float .f64 ay] 24)).alloc (.cells #[.float .f64 bx, .float .f64 b_y] 24)).heap.size = w.heap.size + 1 + 1 + 1 by simp only [World.size_alloc]), World.cell?_alloc_new]; rfl
  have z3_1 : ((((w.alloc (.cells #[.float .f64 nx, .float .f64 ny, .float .f64 fd] 26)).alloc (.cells #[.float .f64 ax, .float .f64 ay] 24)).alloc (.cells #[.float .f64 bx, .float .f64 b_y] 24)).alloc (.cells #[.float .f64 ax, .float .f64 ay, .float .f64 bx, .float .f64 b_y] 24)).cell? ⟨w.heap.size + 1 + 1 + 1, 1, none⟩ = some (.float .f64 ay) := by rw [← (show (((w.alloc (.cells #[.float .f64 nx, .float .f64 ny, .float .f64 fd] 26)).alloc (.cells #[.float .f64 ax, .float .f64 ay] 24)).alloc (.cells #[.float .f64 bx, .float .f64 b_y] 24)).heap.size = w.heap.size + 1 + 1 + 1 by simp only [World.size_alloc]), World.cell?_alloc_new]; rfl
  have z3_2 : ((((w.alloc (.cells #[.float .f64 nx, .float .f64 ny, .float .f64 fd] 26)).alloc (.cells #[.float .f64 ax, .float .f64 ay] 24)).alloc (.cells #[.float .f64 bx, .float .f64 b_y] 24)).alloc (.cells #[.float .f64 ax, .float .f64 ay, .float .f64 bx, .float .f64 b_y] 24)).cell? ⟨w.heap.size + 1 + 1 + 1, 2, none⟩ = some (.float .f64 bx) := by rw [← (show (((w.alloc (.cells #[.float .f64 nx, .float .f64 ny, .float .f64 fd] 26)).alloc (.cells #[.float .f64 ax, .float .f64 ay] 24)).alloc (.cells #[.float .f64 bx, .float .f64 b_y] 24)).heap.size = w.heap.size + 1 + 1 + 1 by simp only [World.size_alloc]), World.cell?_alloc_new]; rfl
  have z3_3 : ((((w.alloc (.cells #[.float .f64 nx, .float .f64 ny, .float .f64 fd] 26)).alloc (.cells #[.float .f64 ax, .float .f64 ay] 24)).alloc (.cells #[.float .f64 bx, .float .f64 b_y] 24)).alloc (.cells #[.float .f64 ax, .float .f64 ay, .float .f64 bx, .float .f64 b_y] 24)).cell? ⟨w.heap.size + 1 + 1 + 1, 3, none⟩ = some (.float .f64 b_y) := by rw [← (show (((w.alloc (.cells #[.float .f64 nx, .float .f64 ny, .float .f64 fd] 26)).alloc (.cells #[.float .f64 ax, .float .f64 ay] 24)).alloc (.cells #[.float .f64 bx, .float .f64 b_y] 24)).heap.size = w.heap.size + 1 + 1 + 1 by simp only [World.size_alloc]), World.cell?_alloc_new]; rfl
  have B0 : Bel w ((((w.alloc (.cells #[.float .f64 nx, .float .f64 ny, .float .f64 fd] 26)).alloc (.cells #[.float .f64 ax, .float .f64 ay] 24)).alloc (.cells #[.float .f64 bx, .float .f64 b_y] 24)).alloc (.cells #[.float .f64 ax, .float .f64 ay, .float .f64 bx, .float .f64 b_y] 24)) := bl_alloc (bl_alloc (bl_alloc (bl_alloc (bl_refl w) _ _) _ _) _ _) _ _
  have CW := cw_d (w.heap.size + 1 + 1 + 1) 0 2 2 (px [(ax, ay), (bx, b_y)]) (py [(ax, ay), (bx, b_y)]) nx ny fd _ (sl_pts (W := (((w.alloc (.cells #[.float .f64 nx, .float .f64 ny, .float .f64 fd] 26)).alloc (.cells #[.float .f64 ax, .float .f64 ay] 24)).alloc (.cells #[.float .f64 bx, .float .f64 b_y] 24))) (L := [(ax, ay), (bx, b_y)]) (ty := 24) (cs := #[.float .f64 ax, .float .f64 ay, .float .f64 bx, .float .f64 b_y]) (by simp only [World.size_alloc]) (by simp [prRow, px, py, pt, List.range_succ])) (by decide) (by decide) (by decide) o1 o2 o3
  rw [show cwE (nx, ny, fd) (px [(ax, ay), (bx, b_y)]) (py [(ax, ay), (bx, b_y)]) 2 = farE (nx, ny, fd) [(ax, ay), (bx, b_y)] from rfl] at CW
  rw [h0] at CW
  go_enter Try.func13, Try.ntmps13
  go_wp2_with (first | (go_at_call 48; refine CW.mono ?_; rintro e w' ⟨rfl, hb⟩; replace z0_0 := keep hb z0_0; replace z0_1 := keep hb z0_1; replace z0_2 := keep hb z0_2; replace z1_0 := keep hb z1_0; replace z1_1 := keep hb z1_1; replace z2_0 := keep hb z2_0; replace z2_1 := keep hb z2_1; have B0 := bl_trans B0 hb; clear hb))
  refine wp_region_new 13 rfl (fun i v => match i with | 0 => v = .agg #[.float .f64 nx, .float .f64 ny, .float .f64 fd] | 1 => v = .agg #[.float .f64 ax, .float .f64 ay] | 2 => v = .agg #[.float .f64 ax, .float .f64 ay, .float .f64 (frK (nx, ny, fd) (ax, ay))] | 3 => v = .agg #[.float .f64 nx, .float .f64 ny, .float .f64 fd] | 4 => v = .agg #[.float .f64 bx, .float .f64 b_y] | 5 => v = .agg #[.float .f64 bx, .float .f64 b_y, .float .f64 (frK (nx, ny, fd) (bx, b_y))] | 6 => v = .tuple #[.agg #[.float .f64 0, .float .f64 0, .float .f64 0, .float .f64 0, .int .i64 0, .int .i64 0], .bool false] | 7 => v = .tuple #[.agg #[.float .f64 0, .float .f64 0, .float .f64 0, .float .f64 0, .int .i64 0, .int .i64 0], .bool false] | 8 => v = .agg #[.float .f64 0, .float .f64 0, .float .f64 0, .float .f64 0, .int .i64 0, .int .i64 0] | 9 => v = .bool false | 12 => v = .bool false | _ => False) [(10, #[.float .f64 0, .float .f64 0, .float .f64 0, .float .f64 0, .int .i64 0, .int .i64 0], 79)] [(11, 10, 8)] ?A_wn (by kernel_rfl) (by kernel_rfl) ?hA_wn ?ha_wn ?hst_wn ?hq_wn ?ht_wn
  case hA_wn =>
    intro s
    simp only [putL, dstO, Act.put, List.getElem?_toArray, List.getElem?_cons_zero, List.getElem?_cons_succ, Option.bind_some, List.setIfInBounds_toArray, List.set_cons_zero, List.set_cons_succ, if_true]
    all_goals exact rfl
  case ha_wn =>
    intro i o c ty hi ho hal B W K hK
    rcases (show i = 0 ∨ i = 1 ∨ i = 2 ∨ i = 3 ∨ i = 4 ∨ i = 5 ∨ i = 6 ∨ i = 7 ∨ i = 8 ∨ i = 9 ∨ i = 10 ∨ i = 11 ∨ i = 12 by omega) with rfl | rfl | rfl | rfl | rfl | rfl | rfl | rfl | rfl | rfl | rfl | rfl | rfl
    · cases (show none = some (c, ty) from hal)
    · cases (show none = some (c, ty) from hal)
    · cases (show none = some (c, ty) from hal)
    · cases (show none = some (c, ty) from hal)
    · cases (show none = some (c, ty) from hal)
    · cases (show none = some (c, ty) from hal)
    · cases (show none = some (c, ty) from hal)
    · cases (show none = some (c, ty) from hal)
    · cases (show none = some (c, ty) from hal)
    · cases (show none = some (c, ty) from hal)
    · cases ho; cases (show some (#[.float .f64 0, .float .f64 0, .float .f64 0, .float .f64 0, .int .i64 0, .int .i64 0], 79) = some (c, ty) from hal); go_simp; exact hK.out
    · cases (show none = some (c, ty) from hal)
    · cases (show none = some (c, ty) from hal)
  case hst_wn =>
    intro t o a d c ty hlt ho hts hal s hs W b eb hc hf K hK
    rcases (show t = 0 ∨ t = 1 ∨ t = 2 ∨ t = 3 ∨ t = 4 ∨ t = 5 ∨ t = 6 ∨ t = 7 ∨ t = 8 ∨ t = 9 ∨ t = 10 ∨ t = 11 ∨ t = 12 by omega) with rfl | rfl | rfl | rfl | rfl | rfl | rfl | rfl | rfl | rfl | rfl | rfl | rfl
    · cases (show none = some (a, d) from hts)
    · cases (show none = some (a, d) from hts)
    · cases (show none = some (a, d) from hts)
    · cases (show none = some (a, d) from hts)
    · cases (show none = some (a, d) from hts)
    · cases (show none = some (a, d) from hts)
    · cases (show none = some (a, d) from hts)
    · cases (show none = some (a, d) from hts)
    · cases (show none = some (a, d) from hts)
    · cases (show none = some (a, d) from hts)
    · cases (show none = some (a, d) from hts)
    · cases ho; cases (show some (10, 8) = some (a, d) from hts); cases (show some (#[.float .f64 0, .float .f64 0, .float .f64 0, .float .f64 0, .int .i64 0, .int .i64 0], 79) = some (c, ty) from hal)
      have e8 : s 8 = _ := hs 8 (by decide) rfl rfl (by kernel_rfl)
      obtain ⟨u0, hu0⟩ := Option.isSome_iff_exists.1 (hc 0 (by decide))
      obtain ⟨u1, hu1⟩ := Option.isSome_iff_exists.1 (hc 1 (by decide))
      obtain ⟨u2, hu2⟩ := Option.isSome_iff_exists.1 (hc 2 (by decide))
      obtain ⟨u3, hu3⟩ := Option.isSome_iff_exists.1 (hc 3 (by decide))
      obtain ⟨u4, hu4⟩ := Option.isSome_iff_exists.1 (hc 4 (by decide))
      obtain ⟨u5, hu5⟩ := Option.isSome_iff_exists.1 (hc 5 (by decide))
      simp only [eb, e8] at hK ⊢
      clear hs
      go_simp
      exact hK.out
    · cases (show none = some (a, d) from hts)
  case hq_wn =>
    intro i o hi hal hts ho s hs W hb K hK
    have uz0_0 := keep hb z0_0; have uz0_1 := keep hb z0_1; have uz0_2 := keep hb z0_2; have uz1_0 := keep hb z1_0; have uz1_1 := keep hb z1_1; have uz2_0 := keep hb z2_0; have uz2_1 := keep hb z2_1
    rcases (show i = 0 ∨ i = 1 ∨ i = 2 ∨ i = 3 ∨ i = 4 ∨ i = 5 ∨ i = 6 ∨ i = 7 ∨ i = 8 ∨ i = 9 ∨ i = 10 ∨ i = 11 ∨ i = 12 by omega) with rfl | rfl | rfl | rfl | rfl | rfl | rfl | rfl | rfl | rfl | rfl | rfl | rfl
    · cases ho
      simp only [Act.put, List.setIfInBounds_toArray, List.set_cons_zero, List.set_cons_succ] at hK
      clear hs hal hts
      go_simp
      all_goals (try go_wp2_with (first | (go_at_call 50; (first | with_reducible refine (endOf_d _ hp ha (by decide)).mono ?_ | with_reducible refine (endOf_d _ hp hb_ (by decide)).mono ?_); rintro e w' ⟨rfl, hb1⟩) | (go_at_call 49; refine (piece_00 _ hp ha hb_ (by decide) h1 h2).mono ?_; rintro e w' ⟨rfl, hb1⟩)))
      all_goals first | exact hK.out _ _ rfl (bl_refl _) | exact hK.out _ _ rfl (by assumption) | exact hK.out _ _ (by assumption) (by assumption)
    · cases ho
      simp only [Act.put, List.setIfInBounds_toArray, List.set_cons_zero, List.set_cons_succ] at hK
      clear hs hal hts
      go_simp
      all_goals (try go_wp2_with (first | (go_at_call 50; (first | with_reducible refine (endOf_d _ hp ha (by decide)).mono ?_ | with_reducible refine (endOf_d _ hp hb_ (by decide)).mono ?_); rintro e w' ⟨rfl, hb1⟩) | (go_at_call 49; refine (piece_00 _ hp ha hb_ (by decide) h1 h2).mono ?_; rintro e w' ⟨rfl, hb1⟩)))
      all_goals first | exact hK.out _ _ rfl (bl_refl _) | exact hK.out _ _ rfl (by assumption) | exact hK.out _ _ (by assumption) (by assumption)
    · cases ho
      have e0 : s 0 = _ := hs 0 (by decide) rfl rfl (by kernel_rfl)
      have e1 : s 1 = _ := hs 1 (by decide) rfl rfl (by kernel_rfl)
      simp only [e0, e1] at hK ⊢
      simp only [Act.put, List.setIfInBounds_toArray, List.set_cons_zero, List.set_cons_succ] at hK
      clear hs hal hts
      go_simp
      all_goals (try go_wp2_with (first | (go_at_call 50; (first | with_reducible refine (endOf_d _ hp ha (by decide)).mono ?_ | with_reducible refine (endOf_d _ hp hb_ (by decide)).mono ?_); rintro e w' ⟨rfl, hb1⟩) | (go_at_call 49; refine (piece_00 _ hp ha hb_ (by decide) h1 h2).mono ?_; rintro e w' ⟨rfl, hb1⟩)))
      all_goals first | exact hK.out _ _ rfl (bl_refl _) | exact hK.out _ _ rfl (by assumption) | exact hK.out _ _ (by assumption) (by assumption)
    · cases ho
      simp only [Act.put, List.setIfInBounds_toArray, List.set_cons_zero, List.set_cons_succ] at hK
      clear hs hal hts
      go_simp
      all_goals (try go_wp2_with (first | (go_at_call 50; (first | with_reducible refine (endOf_d _ hp ha (by decide)).mono ?_ | with_reducible refine (endOf_d _ hp hb_ (by decide)).mono ?_); rintro e w' ⟨rfl, hb1⟩) | (go_at_call 49; refine (piece_00 _ hp ha hb_ (by decide) h1 h2).mono ?_; rintro e w' ⟨rfl, hb1⟩)))
      all_goals first | exact hK.out _ _ rfl (bl_refl _) | exact hK.out _ _ rfl (by assumption) | exact hK.out _ _ (by assumption) (by assumption)
    · cases ho
      simp only [Act.put, List.setIfInBounds_toArray, List.set_cons_zero, List.set_cons_succ] at hK
      clear hs hal hts
      go_simp
      all_goals (try go_wp2_with (first | (go_at_call 50; (first | with_reducible refine (endOf_d _ hp ha (by decide)).mono ?_ | with_reducible refine (endOf_d _ hp hb_ (by decide)).mono ?_); rintro e w' ⟨rfl, hb1⟩) | (go_at_call 49; refine (piece_00 _ hp ha hb_ (by decide) h1 h2).mono ?_; rintro e w' ⟨rfl, hb1⟩)))
      all_goals first | exact hK.out _ _ rfl (bl_refl _) | exact hK.out _ _ rfl (by assumption) | exact hK.out _ _ (by assumption) (by assumption)
    · cases ho
      have e3 : s 3 = _ := hs 3 (by decide) rfl rfl (by kernel_rfl)
      have e4 : s 4 = _ := hs 4 (by decide) rfl rfl (by kernel_rfl)
      simp only [e3, e4] at hK ⊢
      simp only [Act.put, List.setIfInBounds_toArray, List.set_cons_zero, List.set_cons_succ] at hK
      clear hs hal hts
      go_simp
      all_goals (try go_wp2_with (first | (go_at_call 50; (first | with_reducible refine (endOf_d _ hp ha (by decide)).mono ?_ | with_reducible refine (endOf_d _ hp hb_ (by decide)).mono ?_); rintro e w' ⟨rfl, hb1⟩) | (go_at_call 49; refine (piece_00 _ hp ha hb_ (by decide) h1 h2).mono ?_; rintro e w' ⟨rfl, hb1⟩)))
      all_goals first | exact hK.out _ _ rfl (bl_refl _) | exact hK.out _ _ rfl (by assumption) | exact hK.out _ _ (by assumption) (by assumption)
    · cases ho
      have e2 : s 2 = _ := hs 2 (by decide) rfl rfl (by kernel_rfl)
      have e5 : s 5 = _ := hs 5 (by decide) rfl rfl (by kernel_rfl)
      simp only [e2, e5] at hK ⊢
      simp only [Act.put, List.setIfInBounds_toArray, List.set_cons_zero, List.set_cons_succ] at hK
      clear hs hal hts
      go_simp
      all_goals (try go_wp2_with (first | (go_at_call 50; (first | with_reducible refine (endOf_d _ hp ha (by decide)).mono ?_ | with_reducible refine (endOf_d _ hp hb_ (by decide)).mono ?_); rintro e w' ⟨rfl, hb1⟩) | (go_at_call 49; refine (piece_00 _ hp ha hb_ (by decide) h1 h2).mono ?_; rintro e w' ⟨rfl, hb1⟩)))
      all_goals first | exact hK.out _ _ rfl (bl_refl _) | exact hK.out _ _ rfl (by assumption) | exact hK.out _ _ (by assumption) (by assumption)
    · cases ho
      have e6 : s 6 = _ := hs 6 (by decide) rfl rfl (by kernel_rfl)
      simp only [e6] at hK ⊢
      simp only [Act.put, List.setIfInBounds_toArray, List.set_cons_zero, List.set_cons_succ] at hK
      clear hs hal hts
      go_simp
      all_goals (try go_wp2_with (first | (go_at_call 50; (first | with_reducible refine (endOf_d _ hp ha (by decide)).mono ?_ | with_reducible refine (endOf_d _ hp hb_ (by decide)).mono ?_); rintro e w' ⟨rfl, hb1⟩) | (go_at_call 49; refine (piece_00 _ hp ha hb_ (by decide) h1 h2).mono ?_; rintro e w' ⟨rfl, hb1⟩)))
      all_goals first | exact hK.out _ _ rfl (bl_refl _) | exact hK.out _ _ rfl (by assumption) | exact hK.out _ _ (by assumption) (by assumption)
    · cases ho
      have e7 : s 7 = _ := hs 7 (by decide) rfl rfl (by kernel_rfl)
      simp only [e7] at hK ⊢
      simp only [Act.put, List.setIfInBounds_toArray, List.set_cons_zero, List.set_cons_succ] at hK
      clear hs hal hts
      go_simp
      all_goals (try go_wp2_with (first | (go_at_call 50; (first | with_reducible refine (endOf_d _ hp ha (by decide)).mono ?_ | with_reducible refine (endOf_d _ hp hb_ (by decide)).mono ?_); rintro e w' ⟨rfl, hb1⟩) | (go_at_call 49; refine (piece_00 _ hp ha hb_ (by decide) h1 h2).mono ?_; rintro e w' ⟨rfl, hb1⟩)))
      all_goals first | exact hK.out _ _ rfl (bl_refl _) | exact hK.out _ _ rfl (by assumption) | exact hK.out _ _ (by assumption) (by assumption)
    · cases ho
      have e7 : s 7 = _ := hs 7 (by decide) rfl rfl (by kernel_rfl)
      simp only [e7] at hK ⊢
      simp only [Act.put, List.setIfInBounds_toArray, List.set_cons_zero, List.set_cons_succ] at hK
      clear hs hal hts
      go_simp
      all_goals (try go_wp2_with (first | (go_at_call 50; (first | with_reducible refine (endOf_d _ hp ha (by decide)).mono ?_ | with_reducible refine (endOf_d _ hp hb_ (by decide)).mono ?_); rintro e w' ⟨rfl, hb1⟩) | (go_at_call 49; refine (piece_00 _ hp ha hb_ (by decide) h1 h2).mono ?_; rintro e w' ⟨rfl, hb1⟩)))
      all_goals first | exact hK.out _ _ rfl (bl_refl _) | exact hK.out _ _ rfl (by assumption) | exact hK.out _ _ (by assumption) (by assumption)
    · cases (show some _ = none from hal)
    · cases (show some _ = none from hts)
    · cases ho
      have e9 : s 9 = _ := hs 9 (by decide) rfl rfl (by kernel_rfl)
      simp only [e9] at hK ⊢
      simp only [Act.put, List.setIfInBounds_toArray, List.set_cons_zero, List.set_cons_succ] at hK
      clear hs hal hts
      go_simp
      all_goals (try go_wp2_with (first | (go_at_call 50; (first | with_reducible refine (endOf_d _ hp ha (by decide)).mono ?_ | with_reducible refine (endOf_d _ hp hb_ (by decide)).mono ?_); rintro e w' ⟨rfl, hb1⟩) | (go_at_call 49; refine (piece_00 _ hp ha hb_ (by decide) h1 h2).mono ?_; rintro e w' ⟨rfl, hb1⟩)))
      all_goals first | exact hK.out _ _ rfl (bl_refl _) | exact hK.out _ _ rfl (by assumption) | exact hK.out _ _ (by assumption) (by assumption)
  case ht_wn =>
    intro s hs W hb hJ
    have e0 : s 0 = _ := hs 0 (by decide) rfl rfl
    have e1 : s 1 = _ := hs 1 (by decide) rfl rfl
    have e2 : s 2 = _ := hs 2 (by decide) rfl rfl
    have e3 : s 3 = _ := hs 3 (by decide) rfl rfl
    have e4 : s 4 = _ := hs 4 (by decide) rfl rfl
    have e5 : s 5 = _ := hs 5 (by decide) rfl rfl
    have e6 : s 6 = _ := hs 6 (by decide) rfl rfl
    have e7 : s 7 = _ := hs 7 (by decide) rfl rfl
    have e8 : s 8 = _ := hs 8 (by decide) rfl rfl
    have e9 : s 9 = _ := hs 9 (by decide) rfl rfl
    have e12 : s 12 = _ := hs 12 (by decide) rfl rfl
    obtain ⟨p10, e10, n10, l10, cl10⟩ := hJ.1 10 _ _ (by decide) rfl rfl
    have k_p10_0 : W.cell? ⟨p10, 0, none⟩ = some (cellAt (s 8) 0) := cl10 0 (by decide)
    have k_p10_1 : W.cell? ⟨p10, 1, none⟩ = some (cellAt (s 8) 1) := cl10 1 (by decide)
    have k_p10_2 : W.cell? ⟨p10, 2, none⟩ = some (cellAt (s 8) 2) := cl10 2 (by decide)
    have k_p10_3 : W.cell? ⟨p10, 3, none⟩ = some (cellAt (s 8) 3) := cl10 3 (by decide)
    have k_p10_4 : W.cell? ⟨p10, 4, none⟩ = some (cellAt (s 8) 4) := cl10 4 (by decide)
    have k_p10_5 : W.cell? ⟨p10, 5, none⟩ = some (cellAt (s 8) 5) := cl10 5 (by decide)
    rw [e8] at k_p10_0 k_p10_1 k_p10_2 k_p10_3 k_p10_4 k_p10_5
    simp only [cellAt] at k_p10_0 k_p10_1 k_p10_2 k_p10_3 k_p10_4 k_p10_5
    simp only [e0, e1, e2, e3, e4, e5, e6, e7, e8, e9, e12, e10]
    clear hs hJ e0 e1 e2 e3 e4 e5 e6 e7 e8 e9 e12 e10 cl10
    have BF := bl_trans B0 hb
    go_wp2
    refine bodyPost_ret (v := .tuple #[.slice none 0 0, .slice none 0 0, .int .i64 0]) (by simp [results, Try.results13, go_sem] <;> (first | exact ⟨⟨rfl, rfl⟩, rfl⟩ | exact ⟨rfl, rfl, rfl, rfl⟩ | exact ⟨rfl, rfl, rfl⟩ | exact ⟨rfl, rfl⟩ | rfl)) rfl ⟨rfl, BF⟩

set_option maxRecDepth 100000 in
set_option maxHeartbeats 2000000 in
theorem seg_11 (nx ny fd ax ay bx b_y : Nat) (w : World) (o1 : okK .f64 nx) (o2 : okK .f64 ny) (o3 : okK .f64 fd) (oa : okK .f64 ax) (ob : okK .f64 ay) (oc : okK .f64 bx) (od : okK .f64 b_y) (h0 : farE (nx, ny, fd) [(ax, ay), (bx, b_y)] = 0) (h1 : leK .f64 (frK (nx, ny, fd) (ax, ay)) 0 = true) (h2 : leK .f64 (frK (nx, ny, fd) (bx, b_y)) 0 = true) : Calls Try.prog 13 #[.agg #[.float .f64 nx, .float .f64 ny, .float .f64 fd], .agg #[.float .f64 ax, .float .f64 ay], .agg #[.float .f64 bx, .float .f64 b_y]] w fun e w' => ∃ v g, e = .returned (.tuple #[v, .slice (some ⟨g, 0, none⟩) 2 2, .int .i64 0]) ∧ Fresh w.heap.size w' v [(ax, ay), (bx, b_y)] ∧ w.heap.size ≤ g ∧ (∀ x c, v ≠ .slice (some ⟨g, x, none⟩) 2 c) ∧ w'.cell? ⟨g, 0, none⟩ = some (.int .i64 0) ∧ w'.cell? ⟨g, 1, none⟩ = some (.int .i64 1) ∧ (∀ o, w'.frozen? ⟨g, o, none⟩ = false) ∧ Bel w w' := by
  obtain ⟨hp, hl⟩ := farE_bd h0 o1 o2 o3 (by intro q hq; simp at hq; rcases hq with rfl | rfl <;> constructor <;> assumption)
  have ha := hl (ax, ay) (by simp)
  have hb_ := hl (bx, b_y) (by simp)
  have z0_0 : (w.alloc (.cells #[.float .f64 nx, .float .f64 ny, .float .f64 fd] 26)).cell? ⟨w.heap.size, 0, none⟩ = some (.float .f64 nx) := by rw [World.cell?_alloc_new]; rfl
  replace z0_0 := up_alloc (o := .cells #[.float .f64 ax, .float .f64 ay] 24) z0_0
  replace z0_0 := up_alloc (o := .cells #[.float .f64 bx, .float .f64 b_y] 24) z0_0
  replace z0_0 := up_alloc (o := .cells #[.float .f64 ax, .float .f64 ay, .float .f64 bx, .float .f64 b_y] 24) z0_0
  have z0_1 : (w.alloc (.cells #[.float .f64 nx, .float .f64 ny, .float .f64 fd] 26)).cell? ⟨w.heap.size, 1, none⟩ = some (.float .f64 ny) := by rw [World.cell?_alloc_new]; rfl
  replace z0_1 := up_alloc (o := .cells #[.float .f64 ax, .float .f64 ay] 24) z0_1
  replace z0_1 := up_alloc (o := .cells #[.float .f64 bx, .float .f64 b_y] 24) z0_1
  replace z0_1 := up_alloc (o := .cells #[.float .f64 ax, .float .f64 ay, .float .f64 bx, .float .f64 b_y] 24) z0_1
  have z0_2 : (w.alloc (.cells #[.float .f64 nx, .float .f64 ny, .float .f64 fd] 26)).cell? ⟨w.heap.size, 2, none⟩ = some (.float .f64 fd) := by rw [World.cell?_alloc_new]; rfl
  replace z0_2 := up_alloc (o := .cells #[.float .f64 ax, .float .f64 ay] 24) z0_2
  replace z0_2 := up_alloc (o := .cells #[.float .f64 bx, .float .f64 b_y] 24) z0_2
  replace z0_2 := up_alloc (o := .cells #[.float .f64 ax, .float .f64 ay, .float .f64 bx, .float .f64 b_y] 24) z0_2
  have z1_0 : ((w.alloc (.cells #[.float .f64 nx, .float .f64 ny, .float .f64 fd] 26)).alloc (.cells #[.float .f64 ax, .float .f64 ay] 24)).cell? ⟨w.heap.size + 1, 0, none⟩ = some (.float .f64 ax) := by rw [← (show (w.alloc (.cells #[.float .f64 nx, .float .f64 ny, .float .f64 fd] 26)).heap.size = w.heap.size + 1 by simp only [World.size_alloc]), World.cell?_alloc_new]; rfl
  replace z1_0 := up_alloc (o := .cells #[.float .f64 bx, .float .f64 b_y] 24) z1_0
  replace z1_0 := up_alloc (o := .cells #[.float .f64 ax, .float .f64 ay, .float .f64 bx, .float .f64 b_y] 24) z1_0
  have z1_1 : ((w.alloc (.cells #[.float .f64 nx, .float .f64 ny, .float .f64 fd] 26)).alloc (.cells #[.float .f64 ax, .float .f64 ay] 24)).cell? ⟨w.heap.size + 1, 1, none⟩ = some (.float .f64 ay) := by rw [← (show (w.alloc (.cells #[.float .f64 nx, .float .f64 ny, .float .f64 fd] 26)).heap.size = w.heap.size + 1 by simp only [World.size_alloc]), World.cell?_alloc_new]; rfl
  replace z1_1 := up_alloc (o := .cells #[.float .f64 bx, .float .f64 b_y] 24) z1_1
  replace z1_1 := up_alloc (o := .cells #[.float .f64 ax, .float .f64 ay, .float .f64 bx, .float .f64 b_y] 24) z1_1
  have z2_0 : (((w.alloc (.cells #[.float .f64 nx, .float .f64 ny, .float .f64 fd] 26)).alloc (.cells #[.float .f64 ax, .float .f64 ay] 24)).alloc (.cells #[.float .f64 bx, .float .f64 b_y] 24)).cell? ⟨w.heap.size + 1 + 1, 0, none⟩ = some (.float .f64 bx) := by rw [← (show ((w.alloc (.cells #[.float .f64 nx, .float .f64 ny, .float .f64 fd] 26)).alloc (.cells #[.float .f64 ax, .float .f64 ay] 24)).heap.size = w.heap.size + 1 + 1 by simp only [World.size_alloc]), World.cell?_alloc_new]; rfl
  replace z2_0 := up_alloc (o := .cells #[.float .f64 ax, .float .f64 ay, .float .f64 bx, .float .f64 b_y] 24) z2_0
  have z2_1 : (((w.alloc (.cells #[.float .f64 nx, .float .f64 ny, .float .f64 fd] 26)).alloc (.cells #[.float .f64 ax, .float .f64 ay] 24)).alloc (.cells #[.float .f64 bx, .float .f64 b_y] 24)).cell? ⟨w.heap.size + 1 + 1, 1, none⟩ = some (.float .f64 b_y) := by rw [← (show ((w.alloc (.cells #[.float .f64 nx, .float .f64 ny, .float .f64 fd] 26)).alloc (.cells #[.float .f64 ax, .float .f64 ay] 24)).heap.size = w.heap.size + 1 + 1 by simp only [World.size_alloc]), World.cell?_alloc_new]; rfl
  replace z2_1 := up_alloc (o := .cells #[.float .f64 ax, .float .f64 ay, .float .f64 bx, .float .f64 b_y] 24) z2_1
  have z3_0 : ((((w.alloc (.cells #[.float .f64 nx, .float .f64 ny, .float .f64 fd] 26)).alloc (.cells #[.float .f64 ax, .float .f64 ay] 24)).alloc (.cells #[.float .f64 bx, .float .f64 b_y] 24)).alloc (.cells #[.float .f64 ax, .float .f64 ay, .float .f64 bx, .float .f64 b_y] 24)).cell? ⟨w.heap.size + 1 + 1 + 1, 0, none⟩ = some (.float .f64 ax) := by rw [← (show (((w.alloc (.cells #[.float .f64 nx, .float .f64 ny, .float .f64 fd] 26)).alloc (.cells #[.float .f64 ax, .float .f64 ay] 24)).alloc (.cells #[.float .f64 bx, .float .f64 b_y] 24)).heap.size = w.heap.size + 1 + 1 + 1 by simp only [World.size_alloc]), World.cell?_alloc_new]; rfl
  have z3_1 : ((((w.alloc (.cells #[.float .f64 nx, .float .f64 ny, .float .f64 fd] 26)).alloc (.cells #[.float .f64 ax, .float .f64 ay] 24)).alloc (.cells #[.float .f64 bx, .float .f64 b_y] 24)).alloc (.cells #[.float .f64 ax, .float .f64 ay, .float .f64 bx, .float .f64 b_y] 24)).cell? ⟨w.heap.size + 1 + 1 + 1, 1, none⟩ = some (.float .f64 ay) := by rw [← (show (((w.alloc (.cells #[.float .f64 nx, .float .f64 ny, .float .f64 fd] 26)).alloc (.cells #[.float .f64 ax, .float .f64 ay] 24)).alloc (.cells #[.float .f64 bx, .float .f64 b_y] 24)).heap.size = w.heap.size + 1 + 1 + 1 by simp only [World.size_alloc]), World.cell?_alloc_new]; rfl
  have z3_2 : ((((w.alloc (.cells #[.float .f64 nx, .float .f64 ny, .float .f64 fd] 26)).alloc (.cells #[.float .f64 ax, .float .f64 ay] 24)).alloc (.cells #[.float .f64 bx, .float .f64 b_y] 24)).alloc (.cells #[.float .f64 ax, .float .f64 ay, .float .f64 bx, .float .f64 b_y] 24)).cell? ⟨w.heap.size + 1 + 1 + 1, 2, none⟩ = some (.float .f64 bx) := by rw [← (show (((w.alloc (.cells #[.float .f64 nx, .float .f64 ny, .float .f64 fd] 26)).alloc (.cells #[.float .f64 ax, .float .f64 ay] 24)).alloc (.cells #[.float .f64 bx, .float .f64 b_y] 24)).heap.size = w.heap.size + 1 + 1 + 1 by simp only [World.size_alloc]), World.cell?_alloc_new]; rfl
  have z3_3 : ((((w.alloc (.cells #[.float .f64 nx, .float .f64 ny, .float .f64 fd] 26)).alloc (.cells #[.float .f64 ax, .float .f64 ay] 24)).alloc (.cells #[.float .f64 bx, .float .f64 b_y] 24)).alloc (.cells #[.float .f64 ax, .float .f64 ay, .float .f64 bx, .float .f64 b_y] 24)).cell? ⟨w.heap.size + 1 + 1 + 1, 3, none⟩ = some (.float .f64 b_y) := by rw [← (show (((w.alloc (.cells #[.float .f64 nx, .float .f64 ny, .float .f64 fd] 26)).alloc (.cells #[.float .f64 ax, .float .f64 ay] 24)).alloc (.cells #[.float .f64 bx, .float .f64 b_y] 24)).heap.size = w.heap.size + 1 + 1 + 1 by simp only [World.size_alloc]), World.cell?_alloc_new]; rfl
  have B0 : Bel w ((((w.alloc (.cells #[.float .f64 nx, .float .f64 ny, .float .f64 fd] 26)).alloc (.cells #[.float .f64 ax, .float .f64 ay] 24)).alloc (.cells #[.float .f64 bx, .float .f64 b_y] 24)).alloc (.cells #[.float .f64 ax, .float .f64 ay, .float .f64 bx, .float .f64 b_y] 24)) := bl_alloc (bl_alloc (bl_alloc (bl_alloc (bl_refl w) _ _) _ _) _ _) _ _
  have CW := cw_d (w.heap.size + 1 + 1 + 1) 0 2 2 (px [(ax, ay), (bx, b_y)]) (py [(ax, ay), (bx, b_y)]) nx ny fd _ (sl_pts (W := (((w.alloc (.cells #[.float .f64 nx, .float .f64 ny, .float .f64 fd] 26)).alloc (.cells #[.float .f64 ax, .float .f64 ay] 24)).alloc (.cells #[.float .f64 bx, .float .f64 b_y] 24))) (L := [(ax, ay), (bx, b_y)]) (ty := 24) (cs := #[.float .f64 ax, .float .f64 ay, .float .f64 bx, .float .f64 b_y]) (by simp only [World.size_alloc]) (by simp [prRow, px, py, pt, List.range_succ])) (by decide) (by decide) (by decide) o1 o2 o3
  rw [show cwE (nx, ny, fd) (px [(ax, ay), (bx, b_y)]) (py [(ax, ay), (bx, b_y)]) 2 = farE (nx, ny, fd) [(ax, ay), (bx, b_y)] from rfl] at CW
  rw [h0] at CW
  go_enter Try.func13, Try.ntmps13
  go_wp2_with (first | (go_at_call 48; refine CW.mono ?_; rintro e w' ⟨rfl, hb⟩; replace z0_0 := keep hb z0_0; replace z0_1 := keep hb z0_1; replace z0_2 := keep hb z0_2; replace z1_0 := keep hb z1_0; replace z1_1 := keep hb z1_1; replace z2_0 := keep hb z2_0; replace z2_1 := keep hb z2_1; have B0 := bl_trans B0 hb; clear hb))
  refine wp_region_new 13 rfl (fun i v => match i with | 0 => v = .agg #[.float .f64 nx, .float .f64 ny, .float .f64 fd] | 1 => v = .agg #[.float .f64 ax, .float .f64 ay] | 2 => v = .agg #[.float .f64 ax, .float .f64 ay, .float .f64 (frK (nx, ny, fd) (ax, ay))] | 3 => v = .agg #[.float .f64 nx, .float .f64 ny, .float .f64 fd] | 4 => v = .agg #[.float .f64 bx, .float .f64 b_y] | 5 => v = .agg #[.float .f64 bx, .float .f64 b_y, .float .f64 (frK (nx, ny, fd) (bx, b_y))] | 6 => v = .tuple #[.agg #[.float .f64 ax, .float .f64 ay, .float .f64 bx, .float .f64 b_y, .int .i64 0, .int .i64 1], .bool true] | 7 => v = .tuple #[.agg #[.float .f64 ax, .float .f64 ay, .float .f64 bx, .float .f64 b_y, .int .i64 0, .int .i64 1], .bool true] | 8 => v = .agg #[.float .f64 ax, .float .f64 ay, .float .f64 bx, .float .f64 b_y, .int .i64 0, .int .i64 1] | 9 => v = .bool true | 12 => v = .bool true | _ => False) [(10, #[.float .f64 0, .float .f64 0, .float .f64 0, .float .f64 0, .int .i64 0, .int .i64 0], 79)] [(11, 10, 8)] ?A_wn (by kernel_rfl) (by kernel_rfl) ?hA_wn ?ha_wn ?hst_wn ?hq_wn ?ht_wn
  case hA_wn =>
    intro s
    simp only [putL, dstO, Act.put, List.getElem?_toArray, List.getElem?_cons_zero, List.getElem?_cons_succ, Option.bind_some, List.setIfInBounds_toArray, List.set_cons_zero, List.set_cons_succ, if_true]
    all_goals exact rfl
  case ha_wn =>
    intro i o c ty hi ho hal B W K hK
    rcases (show i = 0 ∨ i = 1 ∨ i = 2 ∨ i = 3 ∨ i = 4 ∨ i = 5 ∨ i = 6 ∨ i = 7 ∨ i = 8 ∨ i = 9 ∨ i = 10 ∨ i = 11 ∨ i = 12 by omega) with rfl | rfl | rfl | rfl | rfl | rfl | rfl | rfl | rfl | rfl | rfl | rfl | rfl
    · cases (show none = some (c, ty) from hal)
    · cases (show none = some (c, ty) from hal)
    · cases (show none = some (c, ty) from hal)
    · cases (show none = some (c, ty) from hal)
    · cases (show none = some (c, ty) from hal)
    · cases (show none = some (c, ty) from hal)
    · cases (show none = some (c, ty) from hal)
    · cases (show none = some (c, ty) from hal)
    · cases (show none = some (c, ty) from hal)
    · cases (show none = some (c, ty) from hal)
    · cases ho; cases (show some (#[.float .f64 0, .float .f64 0, .float .f64 0, .float .f64 0, .int .i64 0, .int .i64 0], 79) = some (c, ty) from hal); go_simp; exact hK.out
    · cases (show none = some (c, ty) from hal)
    · cases (show none = some (c, ty) from hal)
  case hst_wn =>
    intro t o a d c ty hlt ho hts hal s hs W b eb hc hf K hK
    rcases (show t = 0 ∨ t = 1 ∨ t = 2 ∨ t = 3 ∨ t = 4 ∨ t = 5 ∨ t = 6 ∨ t = 7 ∨ t = 8 ∨ t = 9 ∨ t = 10 ∨ t = 11 ∨ t = 12 by omega) with rfl | rfl | rfl | rfl | rfl | rfl | rfl | rfl | rfl | rfl | rfl | rfl | rfl
    · cases (show none = some (a, d) from hts)
    · cases (show none = some (a, d) from hts)
    · cases (show none = some (a, d) from hts)
    · cases (show none = some (a, d) from hts)
    · cases (show none = some (a, d) from hts)
    · cases (show none = some (a, d) from hts)
    · cases (show none = some (a, d) from hts)
    · cases (show none = some (a, d) from hts)
    · cases (show none = some (a, d) from hts)
    · cases (show none = some (a, d) from hts)
    · cases (show none = some (a, d) from hts)
    · cases ho; cases (show some (10, 8) = some (a, d) from hts); cases (show some (#[.float .f64 0, .float .f64 0, .float .f64 0, .float .f64 0, .int .i64 0, .int .i64 0], 79) = some (c, ty) from hal)
      have e8 : s 8 = _ := hs 8 (by decide) rfl rfl (by kernel_rfl)
      obtain ⟨u0, hu0⟩ := Option.isSome_iff_exists.1 (hc 0 (by decide))
      obtain ⟨u1, hu1⟩ := Option.isSome_iff_exists.1 (hc 1 (by decide))
      obtain ⟨u2, hu2⟩ := Option.isSome_iff_exists.1 (hc 2 (by decide))
      obtain ⟨u3, hu3⟩ := Option.isSome_iff_exists.1 (hc 3 (by decide))
      obtain ⟨u4, hu4⟩ := Option.isSome_iff_exists.1 (hc 4 (by decide))
      obtain ⟨u5, hu5⟩ := Option.isSome_iff_exists.1 (hc 5 (by decide))
      simp only [eb, e8] at hK ⊢
      clear hs
      go_simp
      exact hK.out
    · cases (show none = some (a, d) from hts)
  case hq_wn =>
    intro i o hi hal hts ho s hs W hb K hK
    have uz0_0 := keep hb z0_0; have uz0_1 := keep hb z0_1; have uz0_2 := keep hb z0_2; have uz1_0 := keep hb z1_0; have uz1_1 := keep hb z1_1; have uz2_0 := keep hb z2_0; have uz2_1 := keep hb z2_1
    rcases (show i = 0 ∨ i = 1 ∨ i = 2 ∨ i = 3 ∨ i = 4 ∨ i = 5 ∨ i = 6 ∨ i = 7 ∨ i = 8 ∨ i = 9 ∨ i = 10 ∨ i = 11 ∨ i = 12 by omega) with rfl | rfl | rfl | rfl | rfl | rfl | rfl | rfl | rfl | rfl | rfl | rfl | rfl
    · cases ho
      simp only [Act.put, List.setIfInBounds_toArray, List.set_cons_zero, List.set_cons_succ] at hK
      clear hs hal hts
      go_simp
      all_goals (try go_wp2_with (first | (go_at_call 50; (first | with_reducible refine (endOf_d _ hp ha (by decide)).mono ?_ | with_reducible refine (endOf_d _ hp hb_ (by decide)).mono ?_); rintro e w' ⟨rfl, hb1⟩) | (go_at_call 49; refine (piece_11 _ hp ha hb_ (by decide) h1 h2).mono ?_; rintro e w' ⟨rfl, hb1⟩)))
      all_goals first | exact hK.out _ _ rfl (bl_refl _) | exact hK.out _ _ rfl (by assumption) | exact hK.out _ _ (by assumption) (by assumption)
    · cases ho
      simp only [Act.put, List.setIfInBounds_toArray, List.set_cons_zero, List.set_cons_succ] at hK
      clear hs hal hts
      go_simp
      all_goals (try go_wp2_with (first | (go_at_call 50; (first | with_reducible refine (endOf_d _ hp ha (by decide)).mono ?_ | with_reducible refine (endOf_d _ hp hb_ (by decide)).mono ?_); rintro e w' ⟨rfl, hb1⟩) | (go_at_call 49; refine (piece_11 _ hp ha hb_ (by decide) h1 h2).mono ?_; rintro e w' ⟨rfl, hb1⟩)))
      all_goals first | exact hK.out _ _ rfl (bl_refl _) | exact hK.out _ _ rfl (by assumption) | exact hK.out _ _ (by assumption) (by assumption)
    · cases ho
      have e0 : s 0 = _ := hs 0 (by decide) rfl rfl (by kernel_rfl)
      have e1 : s 1 = _ := hs 1 (by decide) rfl rfl (by kernel_rfl)
      simp only [e0, e1] at hK ⊢
      simp only [Act.put, List.setIfInBounds_toArray, List.set_cons_zero, List.set_cons_succ] at hK
      clear hs hal hts
      go_simp
      all_goals (try go_wp2_with (first | (go_at_call 50; (first | with_reducible refine (endOf_d _ hp ha (by decide)).mono ?_ | with_reducible refine (endOf_d _ hp hb_ (by decide)).mono ?_); rintro e w' ⟨rfl, hb1⟩) | (go_at_call 49; refine (piece_11 _ hp ha hb_ (by decide) h1 h2).mono ?_; rintro e w' ⟨rfl, hb1⟩)))
      all_goals first | exact hK.out _ _ rfl (bl_refl _) | exact hK.out _ _ rfl (by assumption) | exact hK.out _ _ (by assumption) (by assumption)
    · cases ho
      simp only [Act.put, List.setIfInBounds_toArray, List.set_cons_zero, List.set_cons_succ] at hK
      clear hs hal hts
      go_simp
      all_goals (try go_wp2_with (first | (go_at_call 50; (first | with_reducible refine (endOf_d _ hp ha (by decide)).mono ?_ | with_reducible refine (endOf_d _ hp hb_ (by decide)).mono ?_); rintro e w' ⟨rfl, hb1⟩) | (go_at_call 49; refine (piece_11 _ hp ha hb_ (by decide) h1 h2).mono ?_; rintro e w' ⟨rfl, hb1⟩)))
      all_goals first | exact hK.out _ _ rfl (bl_refl _) | exact hK.out _ _ rfl (by assumption) | exact hK.out _ _ (by assumption) (by assumption)
    · cases ho
      simp only [Act.put, List.setIfInBounds_toArray, List.set_cons_zero, List.set_cons_succ] at hK
      clear hs hal hts
      go_simp
      all_goals (try go_wp2_with (first | (go_at_call 50; (first | with_reducible refine (endOf_d _ hp ha (by decide)).mono ?_ | with_reducible refine (endOf_d _ hp hb_ (by decide)).mono ?_); rintro e w' ⟨rfl, hb1⟩) | (go_at_call 49; refine (piece_11 _ hp ha hb_ (by decide) h1 h2).mono ?_; rintro e w' ⟨rfl, hb1⟩)))
      all_goals first | exact hK.out _ _ rfl (bl_refl _) | exact hK.out _ _ rfl (by assumption) | exact hK.out _ _ (by assumption) (by assumption)
    · cases ho
      have e3 : s 3 = _ := hs 3 (by decide) rfl rfl (by kernel_rfl)
      have e4 : s 4 = _ := hs 4 (by decide) rfl rfl (by kernel_rfl)
      simp only [e3, e4] at hK ⊢
      simp only [Act.put, List.setIfInBounds_toArray, List.set_cons_zero, List.set_cons_succ] at hK
      clear hs hal hts
      go_simp
      all_goals (try go_wp2_with (first | (go_at_call 50; (first | with_reducible refine (endOf_d _ hp ha (by decide)).mono ?_ | with_reducible refine (endOf_d _ hp hb_ (by decide)).mono ?_); rintro e w' ⟨rfl, hb1⟩) | (go_at_call 49; refine (piece_11 _ hp ha hb_ (by decide) h1 h2).mono ?_; rintro e w' ⟨rfl, hb1⟩)))
      all_goals first | exact hK.out _ _ rfl (bl_refl _) | exact hK.out _ _ rfl (by assumption) | exact hK.out _ _ (by assumption) (by assumption)
    · cases ho
      have e2 : s 2 = _ := hs 2 (by decide) rfl rfl (by kernel_rfl)
      have e5 : s 5 = _ := hs 5 (by decide) rfl rfl (by kernel_rfl)
      simp only [e2, e5] at hK ⊢
      simp only [Act.put, List.setIfInBounds_toArray, List.set_cons_zero, List.set_cons_succ] at hK
      clear hs hal hts
      go_simp
      all_goals (try go_wp2_with (first | (go_at_call 50; (first | with_reducible refine (endOf_d _ hp ha (by decide)).mono ?_ | with_reducible refine (endOf_d _ hp hb_ (by decide)).mono ?_); rintro e w' ⟨rfl, hb1⟩) | (go_at_call 49; refine (piece_11 _ hp ha hb_ (by decide) h1 h2).mono ?_; rintro e w' ⟨rfl, hb1⟩)))
      all_goals first | exact hK.out _ _ rfl (bl_refl _) | exact hK.out _ _ rfl (by assumption) | exact hK.out _ _ (by assumption) (by assumption)
    · cases ho
      have e6 : s 6 = _ := hs 6 (by decide) rfl rfl (by kernel_rfl)
      simp only [e6] at hK ⊢
      simp only [Act.put, List.setIfInBounds_toArray, List.set_cons_zero, List.set_cons_succ] at hK
      clear hs hal hts
      go_simp
      all_goals (try go_wp2_with (first | (go_at_call 50; (first | with_reducible refine (endOf_d _ hp ha (by decide)).mono ?_ | with_reducible refine (endOf_d _ hp hb_ (by decide)).mono ?_); rintro e w' ⟨rfl, hb1⟩) | (go_at_call 49; refine (piece_11 _ hp ha hb_ (by decide) h1 h2).mono ?_; rintro e w' ⟨rfl, hb1⟩)))
      all_goals first | exact hK.out _ _ rfl (bl_refl _) | exact hK.out _ _ rfl (by assumption) | exact hK.out _ _ (by assumption) (by assumption)
    · cases ho
      have e7 : s 7 = _ := hs 7 (by decide) rfl rfl (by kernel_rfl)
      simp only [e7] at hK ⊢
      simp only [Act.put, List.setIfInBounds_toArray, List.set_cons_zero, List.set_cons_succ] at hK
      clear hs hal hts
      go_simp
      all_goals (try go_wp2_with (first | (go_at_call 50; (first | with_reducible refine (endOf_d _ hp ha (by decide)).mono ?_ | with_reducible refine (endOf_d _ hp hb_ (by decide)).mono ?_); rintro e w' ⟨rfl, hb1⟩) | (go_at_call 49; refine (piece_11 _ hp ha hb_ (by decide) h1 h2).mono ?_; rintro e w' ⟨rfl, hb1⟩)))
      all_goals first | exact hK.out _ _ rfl (bl_refl _) | exact hK.out _ _ rfl (by assumption) | exact hK.out _ _ (by assumption) (by assumption)
    · cases ho
      have e7 : s 7 = _ := hs 7 (by decide) rfl rfl (by kernel_rfl)
      simp only [e7] at hK ⊢
      simp only [Act.put, List.setIfInBounds_toArray, List.set_cons_zero, List.set_cons_succ] at hK
      clear hs hal hts
      go_simp
      all_goals (try go_wp2_with (first | (go_at_call 50; (first | with_reducible refine (endOf_d _ hp ha (by decide)).mono ?_ | with_reducible refine (endOf_d _ hp hb_ (by decide)).mono ?_); rintro e w' ⟨rfl, hb1⟩) | (go_at_call 49; refine (piece_11 _ hp ha hb_ (by decide) h1 h2).mono ?_; rintro e w' ⟨rfl, hb1⟩)))
      all_goals first | exact hK.out _ _ rfl (bl_refl _) | exact hK.out _ _ rfl (by assumption) | exact hK.out _ _ (by assumption) (by assumption)
    · cases (show some _ = none from hal)
    · cases (show some _ = none from hts)
    · cases ho
      have e9 : s 9 = _ := hs 9 (by decide) rfl rfl (by kernel_rfl)
      simp only [e9] at hK ⊢
      simp only [Act.put, List.setIfInBounds_toArray, List.set_cons_zero, List.set_cons_succ] at hK
      clear hs hal hts
      go_simp
      all_goals (try go_wp2_with (first | (go_at_call 50; (first | with_reducible refine (endOf_d _ hp ha (by decide)).mono ?_ | with_reducible refine (endOf_d _ hp hb_ (by decide)).mono ?_); rintro e w' ⟨rfl, hb1⟩) | (go_at_call 49; refine (piece_11 _ hp ha hb_ (by decide) h1 h2).mono ?_; rintro e w' ⟨rfl, hb1⟩)))
      all_goals first | exact hK.out _ _ rfl (bl_refl _) | exact hK.out _ _ rfl (by assumption) | exact hK.out _ _ (by assumption) (by assumption)
  case ht_wn =>
    intro s hs W hb hJ
    have e0 : s 0 = _ := hs 0 (by decide) rfl rfl
    have e1 : s 1 = _ := hs 1 (by decide) rfl rfl
    have e2 : s 2 = _ := hs 2 (by decide) rfl rfl
    have e3 : s 3 = _ := hs 3 (by decide) rfl rfl
    have e4 : s 4 = _ := hs 4 (by decide) rfl rfl
    have e5 : s 5 = _ := hs 5 (by decide) rfl rfl
    have e6 : s 6 = _ := hs 6 (by decide) rfl rfl
    have e7 : s 7 = _ := hs 7 (by decide) rfl rfl
    have e8 : s 8 = _ := hs 8 (by decide) rfl rfl
    have e9 : s 9 = _ := hs 9 (by decide) rfl rfl
    have e12 : s 12 = _ := hs 12 (by decide) rfl rfl
    obtain ⟨p10, e10, n10, l10, cl10⟩ := hJ.1 10 _ _ (by decide) rfl rfl
    have k_p10_0 : W.cell? ⟨p10, 0, none⟩ = some (cellAt (s 8) 0) := cl10 0 (by decide)
    have k_p10_1 : W.cell? ⟨p10, 1, none⟩ = some (cellAt (s 8) 1) := cl10 1 (by decide)
    have k_p10_2 : W.cell? ⟨p10, 2, none⟩ = some (cellAt (s 8) 2) := cl10 2 (by decide)
    have k_p10_3 : W.cell? ⟨p10, 3, none⟩ = some (cellAt (s 8) 3) := cl10 3 (by decide)
    have k_p10_4 : W.cell? ⟨p10, 4, none⟩ = some (cellAt (s 8) 4) := cl10 4 (by decide)
    have k_p10_5 : W.cell? ⟨p10, 5, none⟩ = some (cellAt (s 8) 5) := cl10 5 (by decide)
    rw [e8] at k_p10_0 k_p10_1 k_p10_2 k_p10_3 k_p10_4 k_p10_5
    simp only [cellAt] at k_p10_0 k_p10_1 k_p10_2 k_p10_3 k_p10_4 k_p10_5
    simp only [e0, e1, e2, e3, e4, e5, e6, e7, e8, e9, e12, e10]
    clear hs hJ e0 e1 e2 e3 e4 e5 e6 e7 e8 e9 e12 e10 cl10
    have BF := bl_trans B0 hb
    have lz := BF.size
    obtain ⟨W1, hW1⟩ : ∃ X, X = W.alloc (.cells #[.int .i64 0, .int .i64 0] 3) := ⟨_, rfl⟩
    have B1 : Bel W W1 := by rw [hW1]; exact bl_alloc (bl_refl W) _ _
    have g0 : W1.cell? ⟨W.heap.size, 0, none⟩ = some (.int .i64 0) := by rw [hW1, World.cell?_alloc_new]; rfl
    have g1 : W1.cell? ⟨W.heap.size, 1, none⟩ = some (.int .i64 0) := by rw [hW1, World.cell?_alloc_new]; rfl
    have gf : ∀ o, W1.frozen? ⟨W.heap.size, o, none⟩ = false := fun o => (B1.2 _).trans (fresh_frozen (Nat.le_refl _))
    have m4 := keep B1 k_p10_4
    have m5 := keep B1 k_p10_5
    have hcp := fun ty => copy_int2 (ty := ty) m4 m5 g0 g1 gf
    obtain ⟨W2, hW2⟩ : ∃ X, X = (W1.setCell ⟨W.heap.size, 0, none⟩ (.int .i64 0)).setCell ⟨W.heap.size, 1, none⟩ (.int .i64 1) := ⟨_, rfl⟩
    obtain ⟨f0, f1⟩ := set2 (p := .int .i64 0) (q := .int .i64 1) g0 g1
    rw [← hW2] at f0 f1 hcp
    have B2 : Bel W W2 := by rw [hW2]; exact bl_set (bl_set B1 (Nat.le_refl _)) (Nat.le_refl _)
    have sl : Sl W2 p10 0 2 (px [(ax, ay), (bx, b_y)]) (py [(ax, ay), (bx, b_y)]) := by
      intro q hq
      rcases (show q = 0 ∨ q = 1 by omega) with rfl | rfl
      · exact ⟨keep B2 k_p10_0, keep B2 k_p10_1⟩
      · exact ⟨keep B2 k_p10_2, keep B2 k_p10_3⟩
    have hmk := make_int2 W
    rw [← hW1] at hmk
    clear hW1 hW2
    go_wp2_with (first | (go_at_call 51; refine (listed_d p10 0 2 [(ax, ay), (bx, b_y)] W2 sl (Nat.succ_pos _) (show 2 ≤ 16000000000000 by decide)).mono ?_; rintro e w_9 ⟨v, rfl, hF, hb⟩))
    obtain ⟨q, rfl, hq1, hq2, hq3⟩ := hF
    have B9 := bl_trans B2 hb
    have z2 := B2.size
    have zg := World.block_lt_of_cell? _ _ f0
    refine bodyPost_ret (v := .tuple #[_, .slice (some ⟨W.heap.size, 0, none⟩) 2 2, .int .i64 0]) (by simp [results, Try.results13, go_sem] <;> (first | exact ⟨⟨rfl, rfl⟩, rfl⟩ | exact ⟨rfl, rfl, rfl, rfl⟩ | exact ⟨rfl, rfl, rfl⟩ | exact ⟨rfl, rfl⟩ | rfl)) rfl ⟨_, _, rfl, ⟨q, rfl, by omega, hq2, hq3⟩, by omega, fun x c hx => ?_, keep hb f0, keep hb f1, fun o => (B9.2 _).trans (fresh_frozen (Nat.le_refl _)), bl_trans BF B9⟩
    cases hx
    simp only at zg
    omega

set_option maxRecDepth 100000 in
set_option maxHeartbeats 2000000 in
theorem seg_10 (nx ny fd ax ay bx b_y : Nat) (w : World) (o1 : okK .f64 nx) (o2 : okK .f64 ny) (o3 : okK .f64 fd) (oa : okK .f64 ax) (ob : okK .f64 ay) (oc : okK .f64 bx) (od : okK .f64 b_y) (h0 : farE (nx, ny, fd) [(ax, ay), (bx, b_y)] = 0) (h1 : leK .f64 (frK (nx, ny, fd) (ax, ay)) 0 = true) (h2 : leK .f64 (frK (nx, ny, fd) (bx, b_y)) 0 = false) : Calls Try.prog 13 #[.agg #[.float .f64 nx, .float .f64 ny, .float .f64 fd], .agg #[.float .f64 ax, .float .f64 ay], .agg #[.float .f64 bx, .float .f64 b_y]] w fun e w' => ∃ v g, e = .returned (.tuple #[v, .slice (some ⟨g, 0, none⟩) 2 2, .int .i64 0]) ∧ Fresh w.heap.size w' v [(ax, ay), (cuP (nx, ny, fd) (ax, ay) (bx, b_y))] ∧ w.heap.size ≤ g ∧ (∀ x c, v ≠ .slice (some ⟨g, x, none⟩) 2 c) ∧ w'.cell? ⟨g, 0, none⟩ = some (.int .i64 0) ∧ w'.cell? ⟨g, 1, none⟩ = some (.int .i64 2) ∧ (∀ o, w'.frozen? ⟨g, o, none⟩ = false) ∧ Bel w w' := by
  obtain ⟨hp, hl⟩ := farE_bd h0 o1 o2 o3 (by intro q hq; simp at hq; rcases hq with rfl | rfl <;> constructor <;> assumption)
  have ha := hl (ax, ay) (by simp)
  have hb_ := hl (bx, b_y) (by simp)
  have z0_0 : (w.alloc (.cells #[.float .f64 nx, .float .f64 ny, .float .f64 fd] 26)).cell? ⟨w.heap.size, 0, none⟩ = some (.float .f64 nx) := by rw [World.cell?_alloc_new]; rfl
  replace z0_0 := up_alloc (o := .cells #[.float .f64 ax, .float .f64 ay] 24) z0_0
  replace z0_0 := up_alloc (o := .cells #[.float .f64 bx, .float .f64 b_y] 24) z0_0
  replace z0_0 := up_alloc (o := .cells #[.float .f64 ax, .float .f64 ay, .float .f64 bx, .float .f64 b_y] 24) z0_0
  have z0_1 : (w.alloc (.cells #[.float .f64 nx, .float .f64 ny, .float .f64 fd] 26)).cell? ⟨w.heap.size, 1, none⟩ = some (.float .f64 ny) := by rw [World.cell?_alloc_new]; rfl
  replace z0_1 := up_alloc (o := .cells #[.float .f64 ax, .float .f64 ay] 24) z0_1
  replace z0_1 := up_alloc (o := .cells #[.float .f64 bx, .float .f64 b_y] 24) z0_1
  replace z0_1 := up_alloc (o := .cells #[.float .f64 ax, .float .f64 ay, .float .f64 bx, .float .f64 b_y] 24) z0_1
  have z0_2 : (w.alloc (.cells #[.float .f64 nx, .float .f64 ny, .float .f64 fd] 26)).cell? ⟨w.heap.size, 2, none⟩ = some (.float .f64 fd) := by rw [World.cell?_alloc_new]; rfl
  replace z0_2 := up_alloc (o := .cells #[.float .f64 ax, .float .f64 ay] 24) z0_2
  replace z0_2 := up_alloc (o := .cells #[.float .f64 bx, .float .f64 b_y] 24) z0_2
  replace z0_2 := up_alloc (o := .cells #[.float .f64 ax, .float .f64 ay, .float .f64 bx, .float .f64 b_y] 24) z0_2
  have z1_0 : ((w.alloc (.cells #[.float .f64 nx, .float .f64 ny, .float .f64 fd] 26)).alloc (.cells #[.float .f64 ax, .float .f64 ay] 24)).cell? ⟨w.heap.size + 1, 0, none⟩ = some (.float .f64 ax) := by rw [← (show (w.alloc (.cells #[.float .f64 nx, .float .f64 ny, .float .f64 fd] 26)).heap.size = w.heap.size + 1 by simp only [World.size_alloc]), World.cell?_alloc_new]; rfl
  replace z1_0 := up_alloc (o := .cells #[.float .f64 bx, .float .f64 b_y] 24) z1_0
  replace z1_0 := up_alloc (o := .cells #[.float .f64 ax, .float .f64 ay, .float .f64 bx, .float .f64 b_y] 24) z1_0
  have z1_1 : ((w.alloc (.cells #[.float .f64 nx, .float .f64 ny, .float .f64 fd] 26)).alloc (.cells #[.float .f64 ax, .float .f64 ay] 24)).cell? ⟨w.heap.size + 1, 1, none⟩ = some (.float .f64 ay) := by rw [← (show (w.alloc (.cells #[.float .f64 nx, .float .f64 ny, .float .f64 fd] 26)).heap.size = w.heap.size + 1 by simp only [World.size_alloc]), World.cell?_alloc_new]; rfl
  replace z1_1 := up_alloc (o := .cells #[.float .f64 bx, .float .f64 b_y] 24) z1_1
  replace z1_1 := up_alloc (o := .cells #[.float .f64 ax, .float .f64 ay, .float .f64 bx, .float .f64 b_y] 24) z1_1
  have z2_0 : (((w.alloc (.cells #[.float .f64 nx, .float .f64 ny, .float .f64 fd] 26)).alloc (.cells #[.float .f64 ax, .float .f64 ay] 24)).alloc (.cells #[.float .f64 bx, .float .f64 b_y] 24)).cell? ⟨w.heap.size + 1 + 1, 0, none⟩ = some (.float .f64 bx) := by rw [← (show ((w.alloc (.cells #[.float .f64 nx, .float .f64 ny, .float .f64 fd] 26)).alloc (.cells #[.float .f64 ax, .float .f64 ay] 24)).heap.size = w.heap.size + 1 + 1 by simp only [World.size_alloc]), World.cell?_alloc_new]; rfl
  replace z2_0 := up_alloc (o := .cells #[.float .f64 ax, .float .f64 ay, .float .f64 bx, .float .f64 b_y] 24) z2_0
  have z2_1 : (((w.alloc (.cells #[.float .f64 nx, .float .f64 ny, .float .f64 fd] 26)).alloc (.cells #[.float .f64 ax, .float .f64 ay] 24)).alloc (.cells #[.float .f64 bx, .float .f64 b_y] 24)).cell? ⟨w.heap.size + 1 + 1, 1, none⟩ = some (.float .f64 b_y) := by rw [← (show ((w.alloc (.cells #[.float .f64 nx, .float .f64 ny, .float .f64 fd] 26)).alloc (.cells #[.float .f64 ax, .float .f64 ay] 24)).heap.size = w.heap.size + 1 + 1 by simp only [World.size_alloc]), World.cell?_alloc_new]; rfl
  replace z2_1 := up_alloc (o := .cells #[.float .f64 ax, .float .f64 ay, .float .f64 bx, .float .f64 b_y] 24) z2_1
  have z3_0 : ((((w.alloc (.cells #[.float .f64 nx, .float .f64 ny, .float .f64 fd] 26)).alloc (.cells #[.float .f64 ax, .float .f64 ay] 24)).alloc (.cells #[.float .f64 bx, .float .f64 b_y] 24)).alloc (.cells #[.float .f64 ax, .float .f64 ay, .float .f64 bx, .float .f64 b_y] 24)).cell? ⟨w.heap.size + 1 + 1 + 1, 0, none⟩ = some (.float .f64 ax) := by rw [← (show (((w.alloc (.cells #[.float .f64 nx, .float .f64 ny, .float .f64 fd] 26)).alloc (.cells #[.float .f64 ax, .float .f64 ay] 24)).alloc (.cells #[.float .f64 bx, .float .f64 b_y] 24)).heap.size = w.heap.size + 1 + 1 + 1 by simp only [World.size_alloc]), World.cell?_alloc_new]; rfl
  have z3_1 : ((((w.alloc (.cells #[.float .f64 nx, .float .f64 ny, .float .f64 fd] 26)).alloc (.cells #[.float .f64 ax, .float .f64 ay] 24)).alloc (.cells #[.float .f64 bx, .float .f64 b_y] 24)).alloc (.cells #[.float .f64 ax, .float .f64 ay, .float .f64 bx, .float .f64 b_y] 24)).cell? ⟨w.heap.size + 1 + 1 + 1, 1, none⟩ = some (.float .f64 ay) := by rw [← (show (((w.alloc (.cells #[.float .f64 nx, .float .f64 ny, .float .f64 fd] 26)).alloc (.cells #[.float .f64 ax, .float .f64 ay] 24)).alloc (.cells #[.float .f64 bx, .float .f64 b_y] 24)).heap.size = w.heap.size + 1 + 1 + 1 by simp only [World.size_alloc]), World.cell?_alloc_new]; rfl
  have z3_2 : ((((w.alloc (.cells #[.float .f64 nx, .float .f64 ny, .float .f64 fd] 26)).alloc (.cells #[.float .f64 ax, .float .f64 ay] 24)).alloc (.cells #[.float .f64 bx, .float .f64 b_y] 24)).alloc (.cells #[.float .f64 ax, .float .f64 ay, .float .f64 bx, .float .f64 b_y] 24)).cell? ⟨w.heap.size + 1 + 1 + 1, 2, none⟩ = some (.float .f64 bx) := by rw [← (show (((w.alloc (.cells #[.float .f64 nx, .float .f64 ny, .float .f64 fd] 26)).alloc (.cells #[.float .f64 ax, .float .f64 ay] 24)).alloc (.cells #[.float .f64 bx, .float .f64 b_y] 24)).heap.size = w.heap.size + 1 + 1 + 1 by simp only [World.size_alloc]), World.cell?_alloc_new]; rfl
  have z3_3 : ((((w.alloc (.cells #[.float .f64 nx, .float .f64 ny, .float .f64 fd] 26)).alloc (.cells #[.float .f64 ax, .float .f64 ay] 24)).alloc (.cells #[.float .f64 bx, .float .f64 b_y] 24)).alloc (.cells #[.float .f64 ax, .float .f64 ay, .float .f64 bx, .float .f64 b_y] 24)).cell? ⟨w.heap.size + 1 + 1 + 1, 3, none⟩ = some (.float .f64 b_y) := by rw [← (show (((w.alloc (.cells #[.float .f64 nx, .float .f64 ny, .float .f64 fd] 26)).alloc (.cells #[.float .f64 ax, .float .f64 ay] 24)).alloc (.cells #[.float .f64 bx, .float .f64 b_y] 24)).heap.size = w.heap.size + 1 + 1 + 1 by simp only [World.size_alloc]), World.cell?_alloc_new]; rfl
  have B0 : Bel w ((((w.alloc (.cells #[.float .f64 nx, .float .f64 ny, .float .f64 fd] 26)).alloc (.cells #[.float .f64 ax, .float .f64 ay] 24)).alloc (.cells #[.float .f64 bx, .float .f64 b_y] 24)).alloc (.cells #[.float .f64 ax, .float .f64 ay, .float .f64 bx, .float .f64 b_y] 24)) := bl_alloc (bl_alloc (bl_alloc (bl_alloc (bl_refl w) _ _) _ _) _ _) _ _
  have CW := cw_d (w.heap.size + 1 + 1 + 1) 0 2 2 (px [(ax, ay), (bx, b_y)]) (py [(ax, ay), (bx, b_y)]) nx ny fd _ (sl_pts (W := (((w.alloc (.cells #[.float .f64 nx, .float .f64 ny, .float .f64 fd] 26)).alloc (.cells #[.float .f64 ax, .float .f64 ay] 24)).alloc (.cells #[.float .f64 bx, .float .f64 b_y] 24))) (L := [(ax, ay), (bx, b_y)]) (ty := 24) (cs := #[.float .f64 ax, .float .f64 ay, .float .f64 bx, .float .f64 b_y]) (by simp only [World.size_alloc]) (by simp [prRow, px, py, pt, List.range_succ])) (by decide) (by decide) (by decide) o1 o2 o3
  rw [show cwE (nx, ny, fd) (px [(ax, ay), (bx, b_y)]) (py [(ax, ay), (bx, b_y)]) 2 = farE (nx, ny, fd) [(ax, ay), (bx, b_y)] from rfl] at CW
  rw [h0] at CW
  go_enter Try.func13, Try.ntmps13
  go_wp2_with (first | (go_at_call 48; refine CW.mono ?_; rintro e w' ⟨rfl, hb⟩; replace z0_0 := keep hb z0_0; replace z0_1 := keep hb z0_1; replace z0_2 := keep hb z0_2; replace z1_0 := keep hb z1_0; replace z1_1 := keep hb z1_1; replace z2_0 := keep hb z2_0; replace z2_1 := keep hb z2_1; have B0 := bl_trans B0 hb; clear hb))
  refine wp_region_new 13 rfl (fun i v => match i with | 0 => v = .agg #[.float .f64 nx, .float .f64 ny, .float .f64 fd] | 1 => v = .agg #[.float .f64 ax, .float .f64 ay] | 2 => v = .agg #[.float .f64 ax, .float .f64 ay, .float .f64 (frK (nx, ny, fd) (ax, ay))] | 3 => v = .agg #[.float .f64 nx, .float .f64 ny, .float .f64 fd] | 4 => v = .agg #[.float .f64 bx, .float .f64 b_y] | 5 => v = .agg #[.float .f64 bx, .float .f64 b_y, .float .f64 (frK (nx, ny, fd) (bx, b_y))] | 6 => v = .tuple #[.agg #[.float .f64 ax, .float .f64 ay, .float .f64 (cuX (nx, ny, fd) (ax, ay) (bx, b_y)), .float .f64 (cuY (nx, ny, fd) (ax, ay) (bx, b_y)), .int .i64 0, .int .i64 2], .bool true] | 7 => v = .tuple #[.agg #[.float .f64 ax, .float .f64 ay, .float .f64 (cuX (nx, ny, fd) (ax, ay) (bx, b_y)), .float .f64 (cuY (nx, ny, fd) (ax, ay) (bx, b_y)), .int .i64 0, .int .i64 2], .bool true] | 8 => v = .agg #[.float .f64 ax, .float .f64 ay, .float .f64 (cuX (nx, ny, fd) (ax, ay) (bx, b_y)), .float .f64 (cuY (nx, ny, fd) (ax, ay) (bx, b_y)), .int .i64 0, .int .i64 2] | 9 => v = .bool true | 12 => v = .bool true | _ => False) [(10, #[.float .f64 0, .float .f64 0, .float .f64 0, .float .f64 0, .int .i64 0, .int .i64 0], 79)] [(11, 10, 8)] ?A_wn (by kernel_rfl) (by kernel_rfl) ?hA_wn ?ha_wn ?hst_wn ?hq_wn ?ht_wn
  case hA_wn =>
    intro s
    simp only [putL, dstO, Act.put, List.getElem?_toArray, List.getElem?_cons_zero, List.getElem?_cons_succ, Option.bind_some, List.setIfInBounds_toArray, List.set_cons_zero, List.set_cons_succ, if_true]
    all_goals exact rfl
  case ha_wn =>
    intro i o c ty hi ho hal B W K hK
    rcases (show i = 0 ∨ i = 1 ∨ i = 2 ∨ i = 3 ∨ i = 4 ∨ i = 5 ∨ i = 6 ∨ i = 7 ∨ i = 8 ∨ i = 9 ∨ i = 10 ∨ i = 11 ∨ i = 12 by omega) with rfl | rfl | rfl | rfl | rfl | rfl | rfl | rfl | rfl | rfl | rfl | rfl | rfl
    · cases (show none = some (c, ty) from hal)
    · cases (show none = some (c, ty) from hal)
    · cases (show none = some (c, ty) from hal)
    · cases (show none = some (c, ty) from hal)
    · cases (show none = some (c, ty) from hal)
    · cases (show none = some (c, ty) from hal)
    · cases (show none = some (c, ty) from hal)
    · cases (show none = some (c, ty) from hal)
    · cases (show none = some (c, ty) from hal)
    · cases (show none = some (c, ty) from hal)
    · cases ho; cases (show some (#[.float .f64 0, .float .f64 0, .float .f64 0, .float .f64 0, .int .i64 0, .int .i64 0], 79) = some (c, ty) from hal); go_simp; exact hK.out
    · cases (show none = some (c, ty) from hal)
    · cases (show none = some (c, ty) from hal)
  case hst_wn =>
    intro t o a d c ty hlt ho hts hal s hs W b eb hc hf K hK
    rcases (show t = 0 ∨ t = 1 ∨ t = 2 ∨ t = 3 ∨ t = 4 ∨ t = 5 ∨ t = 6 ∨ t = 7 ∨ t = 8 ∨ t = 9 ∨ t = 10 ∨ t = 11 ∨ t = 12 by omega) with rfl | rfl | rfl | rfl | rfl | rfl | rfl | rfl | rfl | rfl | rfl | rfl | rfl
    · cases (show none = some (a, d) from hts)
    · cases (show none = some (a, d) from hts)
    · cases (show none = some (a, d) from hts)
    · cases (show none = some (a, d) from hts)
    · cases (show none = some (a, d) from hts)
    · cases (show none = some (a, d) from hts)
    · cases (show none = some (a, d) from hts)
    · cases (show none = some (a, d) from hts)
    · cases (show none = some (a, d) from hts)
    · cases (show none = some (a, d) from hts)
    · cases (show none = some (a, d) from hts)
    · cases ho; cases (show some (10, 8) = some (a, d) from hts); cases (show some (#[.float .f64 0, .float .f64 0, .float .f64 0, .float .f64 0, .int .i64 0, .int .i64 0], 79) = some (c, ty) from hal)
      have e8 : s 8 = _ := hs 8 (by decide) rfl rfl (by kernel_rfl)
      obtain ⟨u0, hu0⟩ := Option.isSome_iff_exists.1 (hc 0 (by decide))
      obtain ⟨u1, hu1⟩ := Option.isSome_iff_exists.1 (hc 1 (by decide))
      obtain ⟨u2, hu2⟩ := Option.isSome_iff_exists.1 (hc 2 (by decide))
      obtain ⟨u3, hu3⟩ := Option.isSome_iff_exists.1 (hc 3 (by decide))
      obtain ⟨u4, hu4⟩ := Option.isSome_iff_exists.1 (hc 4 (by decide))
      obtain ⟨u5, hu5⟩ := Option.isSome_iff_exists.1 (hc 5 (by decide))
      simp only [eb, e8] at hK ⊢
      clear hs
      go_simp
      exact hK.out
    · cases (show none = some (a, d) from hts)
  case hq_wn =>
    intro i o hi hal hts ho s hs W hb K hK
    have uz0_0 := keep hb z0_0; have uz0_1 := keep hb z0_1; have uz0_2 := keep hb z0_2; have uz1_0 := keep hb z1_0; have uz1_1 := keep hb z1_1; have uz2_0 := keep hb z2_0; have uz2_1 := keep hb z2_1
    rcases (show i = 0 ∨ i = 1 ∨ i = 2 ∨ i = 3 ∨ i = 4 ∨ i = 5 ∨ i = 6 ∨ i = 7 ∨ i = 8 ∨ i = 9 ∨ i = 10 ∨ i = 11 ∨ i = 12 by omega) with rfl | rfl | rfl | rfl | rfl | rfl | rfl | rfl | rfl | rfl | rfl | rfl | rfl
    · cases ho
      simp only [Act.put, List.setIfInBounds_toArray, List.set_cons_zero, List.set_cons_succ] at hK
      clear hs hal hts
      go_simp
      all_goals (try go_wp2_with (first | (go_at_call 50; (first | with_reducible refine (endOf_d _ hp ha (by decide)).mono ?_ | with_reducible refine (endOf_d _ hp hb_ (by decide)).mono ?_); rintro e w' ⟨rfl, hb1⟩) | (go_at_call 49; refine (piece_10 _ hp ha hb_ (by decide) h1 h2).mono ?_; rintro e w' ⟨rfl, hb1⟩)))
      all_goals first | exact hK.out _ _ rfl (bl_refl _) | exact hK.out _ _ rfl (by assumption) | exact hK.out _ _ (by assumption) (by assumption)
    · cases ho
      simp only [Act.put, List.setIfInBounds_toArray, List.set_cons_zero, List.set_cons_succ] at hK
      clear hs hal hts
      go_simp
      all_goals (try go_wp2_with (first | (go_at_call 50; (first | with_reducible refine (endOf_d _ hp ha (by decide)).mono ?_ | with_reducible refine (endOf_d _ hp hb_ (by decide)).mono ?_); rintro e w' ⟨rfl, hb1⟩) | (go_at_call 49; refine (piece_10 _ hp ha hb_ (by decide) h1 h2).mono ?_; rintro e w' ⟨rfl, hb1⟩)))
      all_goals first | exact hK.out _ _ rfl (bl_refl _) | exact hK.out _ _ rfl (by assumption) | exact hK.out _ _ (by assumption) (by assumption)
    · cases ho
      have e0 : s 0 = _ := hs 0 (by decide) rfl rfl (by kernel_rfl)
      have e1 : s 1 = _ := hs 1 (by decide) rfl rfl (by kernel_rfl)
      simp only [e0, e1] at hK ⊢
      simp only [Act.put, List.setIfInBounds_toArray, List.set_cons_zero, List.set_cons_succ] at hK
      clear hs hal hts
      go_simp
      all_goals (try go_wp2_with (first | (go_at_call 50; (first | with_reducible refine (endOf_d _ hp ha (by decide)).mono ?_ | with_reducible refine (endOf_d _ hp hb_ (by decide)).mono ?_); rintro e w' ⟨rfl, hb1⟩) | (go_at_call 49; refine (piece_10 _ hp ha hb_ (by decide) h1 h2).mono ?_; rintro e w' ⟨rfl, hb1⟩)))
      all_goals first | exact hK.out _ _ rfl (bl_refl _) | exact hK.out _ _ rfl (by assumption) | exact hK.out _ _ (by assumption) (by assumption)
    · cases ho
      simp only [Act.put, List.setIfInBounds_toArray, List.set_cons_zero, List.set_cons_succ] at hK
      clear hs hal hts
      go_simp
      all_goals (try go_wp2_with (first | (go_at_call 50; (first | with_reducible refine (endOf_d _ hp ha (by decide)).mono ?_ | with_reducible refine (endOf_d _ hp hb_ (by decide)).mono ?_); rintro e w' ⟨rfl, hb1⟩) | (go_at_call 49; refine (piece_10 _ hp ha hb_ (by decide) h1 h2).mono ?_; rintro e w' ⟨rfl, hb1⟩)))
      all_goals first | exact hK.out _ _ rfl (bl_refl _) | exact hK.out _ _ rfl (by assumption) | exact hK.out _ _ (by assumption) (by assumption)
    · cases ho
      simp only [Act.put, List.setIfInBounds_toArray, List.set_cons_zero, List.set_cons_succ] at hK
      clear hs hal hts
      go_simp
      all_goals (try go_wp2_with (first | (go_at_call 50; (first | with_reducible refine (endOf_d _ hp ha (by decide)).mono ?_ | with_reducible refine (endOf_d _ hp hb_ (by decide)).mono ?_); rintro e w' ⟨rfl, hb1⟩) | (go_at_call 49; refine (piece_10 _ hp ha hb_ (by decide) h1 h2).mono ?_; rintro e w' ⟨rfl, hb1⟩)))
      all_goals first | exact hK.out _ _ rfl (bl_refl _) | exact hK.out _ _ rfl (by assumption) | exact hK.out _ _ (by assumption) (by assumption)
    · cases ho
      have e3 : s 3 = _ := hs 3 (by decide) rfl rfl (by kernel_rfl)
      have e4 : s 4 = _ := hs 4 (by decide) rfl rfl (by kernel_rfl)
      simp only [e3, e4] at hK ⊢
      simp only [Act.put, List.setIfInBounds_toArray, List.set_cons_zero, List.set_cons_succ] at hK
      clear hs hal hts
      go_simp
      all_goals (try go_wp2_with (first | (go_at_call 50; (first | with_reducible refine (endOf_d _ hp ha (by decide)).mono ?_ | with_reducible refine (endOf_d _ hp hb_ (by decide)).mono ?_); rintro e w' ⟨rfl, hb1⟩) | (go_at_call 49; refine (piece_10 _ hp ha hb_ (by decide) h1 h2).mono ?_; rintro e w' ⟨rfl, hb1⟩)))
      all_goals first | exact hK.out _ _ rfl (bl_refl _) | exact hK.out _ _ rfl (by assumption) | exact hK.out _ _ (by assumption) (by assumption)
    · cases ho
      have e2 : s 2 = _ := hs 2 (by decide) rfl rfl (by kernel_rfl)
      have e5 : s 5 = _ := hs 5 (by decide) rfl rfl (by kernel_rfl)
      simp only [e2, e5] at hK ⊢
      simp only [Act.put, List.setIfInBounds_toArray, List.set_cons_zero, List.set_cons_succ] at hK
      clear hs hal hts
      go_simp
      all_goals (try go_wp2_with (first | (go_at_call 50; (first | with_reducible refine (endOf_d _ hp ha (by decide)).mono ?_ | with_reducible refine (endOf_d _ hp hb_ (by decide)).mono ?_); rintro e w' ⟨rfl, hb1⟩) | (go_at_call 49; refine (piece_10 _ hp ha hb_ (by decide) h1 h2).mono ?_; rintro e w' ⟨rfl, hb1⟩)))
      all_goals first | exact hK.out _ _ rfl (bl_refl _) | exact hK.out _ _ rfl (by assumption) | exact hK.out _ _ (by assumption) (by assumption)
    · cases ho
      have e6 : s 6 = _ := hs 6 (by decide) rfl rfl (by kernel_rfl)
      simp only [e6] at hK ⊢
      simp only [Act.put, List.setIfInBounds_toArray, List.set_cons_zero, List.set_cons_succ] at hK
      clear hs hal hts
      go_simp
      all_goals (try go_wp2_with (first | (go_at_call 50; (first | with_reducible refine (endOf_d _ hp ha (by decide)).mono ?_ | with_reducible refine (endOf_d _ hp hb_ (by decide)).mono ?_); rintro e w' ⟨rfl, hb1⟩) | (go_at_call 49; refine (piece_10 _ hp ha hb_ (by decide) h1 h2).mono ?_; rintro e w' ⟨rfl, hb1⟩)))
      all_goals first | exact hK.out _ _ rfl (bl_refl _) | exact hK.out _ _ rfl (by assumption) | exact hK.out _ _ (by assumption) (by assumption)
    · cases ho
      have e7 : s 7 = _ := hs 7 (by decide) rfl rfl (by kernel_rfl)
      simp only [e7] at hK ⊢
      simp only [Act.put, List.setIfInBounds_toArray, List.set_cons_zero, List.set_cons_succ] at hK
      clear hs hal hts
      go_simp
      all_goals (try go_wp2_with (first | (go_at_call 50; (first | with_reducible refine (endOf_d _ hp ha (by decide)).mono ?_ | with_reducible refine (endOf_d _ hp hb_ (by decide)).mono ?_); rintro e w' ⟨rfl, hb1⟩) | (go_at_call 49; refine (piece_10 _ hp ha hb_ (by decide) h1 h2).mono ?_; rintro e w' ⟨rfl, hb1⟩)))
      all_goals first | exact hK.out _ _ rfl (bl_refl _) | exact hK.out _ _ rfl (by assumption) | exact hK.out _ _ (by assumption) (by assumption)
    · cases ho
      have e7 : s 7 = _ := hs 7 (by decide) rfl rfl (by kernel_rfl)
      simp only [e7] at hK ⊢
      simp only [Act.put, List.setIfInBounds_toArray, List.set_cons_zero, List.set_cons_succ] at hK
      clear hs hal hts
      go_simp
      all_goals (try go_wp2_with (first | (go_at_call 50; (first | with_reducible refine (endOf_d _ hp ha (by decide)).mono ?_ | with_reducible refine (endOf_d _ hp hb_ (by decide)).mono ?_); rintro e w' ⟨rfl, hb1⟩) | (go_at_call 49; refine (piece_10 _ hp ha hb_ (by decide) h1 h2).mono ?_; rintro e w' ⟨rfl, hb1⟩)))
      all_goals first | exact hK.out _ _ rfl (bl_refl _) | exact hK.out _ _ rfl (by assumption) | exact hK.out _ _ (by assumption) (by assumption)
    · cases (show some _ = none from hal)
    · cases (show some _ = none from hts)
    · cases ho
      have e9 : s 9 = _ := hs 9 (by decide) rfl rfl (by kernel_rfl)
      simp only [e9] at hK ⊢
      simp only [Act.put, List.setIfInBounds_toArray, List.set_cons_zero, List.set_cons_succ] at hK
      clear hs hal hts
      go_simp
      all_goals (try go_wp2_with (first | (go_at_call 50; (first | with_reducible refine (endOf_d _ hp ha (by decide)).mono ?_ | with_reducible refine (endOf_d _ hp hb_ (by decide)).mono ?_); rintro e w' ⟨rfl, hb1⟩) | (go_at_call 49; refine (piece_10 _ hp ha hb_ (by decide) h1 h2).mono ?_; rintro e w' ⟨rfl, hb1⟩)))
      all_goals first | exact hK.out _ _ rfl (bl_refl _) | exact hK.out _ _ rfl (by assumption) | exact hK.out _ _ (by assumption) (by assumption)
  case ht_wn =>
    intro s hs W hb hJ
    have e0 : s 0 = _ := hs 0 (by decide) rfl rfl
    have e1 : s 1 = _ := hs 1 (by decide) rfl rfl
    have e2 : s 2 = _ := hs 2 (by decide) rfl rfl
    have e3 : s 3 = _ := hs 3 (by decide) rfl rfl
    have e4 : s 4 = _ := hs 4 (by decide) rfl rfl
    have e5 : s 5 = _ := hs 5 (by decide) rfl rfl
    have e6 : s 6 = _ := hs 6 (by decide) rfl rfl
    have e7 : s 7 = _ := hs 7 (by decide) rfl rfl
    have e8 : s 8 = _ := hs 8 (by decide) rfl rfl
    have e9 : s 9 = _ := hs 9 (by decide) rfl rfl
    have e12 : s 12 = _ := hs 12 (by decide) rfl rfl
    obtain ⟨p10, e10, n10, l10, cl10⟩ := hJ.1 10 _ _ (by decide) rfl rfl
    have k_p10_0 : W.cell? ⟨p10, 0, none⟩ = some (cellAt (s 8) 0) := cl10 0 (by decide)
    have k_p10_1 : W.cell? ⟨p10, 1, none⟩ = some (cellAt (s 8) 1) := cl10 1 (by decide)
    have k_p10_2 : W.cell? ⟨p10, 2, none⟩ = some (cellAt (s 8) 2) := cl10 2 (by decide)
    have k_p10_3 : W.cell? ⟨p10, 3, none⟩ = some (cellAt (s 8) 3) := cl10 3 (by decide)
    have k_p10_4 : W.cell? ⟨p10, 4, none⟩ = some (cellAt (s 8) 4) := cl10 4 (by decide)
    have k_p10_5 : W.cell? ⟨p10, 5, none⟩ = some (cellAt (s 8) 5) := cl10 5 (by decide)
    rw [e8] at k_p10_0 k_p10_1 k_p10_2 k_p10_3 k_p10_4 k_p10_5
    simp only [cellAt] at k_p10_0 k_p10_1 k_p10_2 k_p10_3 k_p10_4 k_p10_5
    simp only [e0, e1, e2, e3, e4, e5, e6, e7, e8, e9, e12, e10]
    clear hs hJ e0 e1 e2 e3 e4 e5 e6 e7 e8 e9 e12 e10 cl10
    have BF := bl_trans B0 hb
    have lz := BF.size
    obtain ⟨W1, hW1⟩ : ∃ X, X = W.alloc (.cells #[.int .i64 0, .int .i64 0] 3) := ⟨_, rfl⟩
    have B1 : Bel W W1 := by rw [hW1]; exact bl_alloc (bl_refl W) _ _
    have g0 : W1.cell? ⟨W.heap.size, 0, none⟩ = some (.int .i64 0) := by rw [hW1, World.cell?_alloc_new]; rfl
    have g1 : W1.cell? ⟨W.heap.size, 1, none⟩ = some (.int .i64 0) := by rw [hW1, World.cell?_alloc_new]; rfl
    have gf : ∀ o, W1.frozen? ⟨W.heap.size, o, none⟩ = false := fun o => (B1.2 _).trans (fresh_frozen (Nat.le_refl _))
    have m4 := keep B1 k_p10_4
    have m5 := keep B1 k_p10_5
    have hcp := fun ty => copy_int2 (ty := ty) m4 m5 g0 g1 gf
    obtain ⟨W2, hW2⟩ : ∃ X, X = (W1.setCell ⟨W.heap.size, 0, none⟩ (.int .i64 0)).setCell ⟨W.heap.size, 1, none⟩ (.int .i64 2) := ⟨_, rfl⟩
    obtain ⟨f0, f1⟩ := set2 (p := .int .i64 0) (q := .int .i64 2) g0 g1
    rw [← hW2] at f0 f1 hcp
    have B2 : Bel W W2 := by rw [hW2]; exact bl_set (bl_set B1 (Nat.le_refl _)) (Nat.le_refl _)
    have sl : Sl W2 p10 0 2 (px [(ax, ay), (cuP (nx, ny, fd) (ax, ay) (bx, b_y))]) (py [(ax, ay), (cuP (nx, ny, fd) (ax, ay) (bx, b_y))]) := by
      intro q hq
      rcases (show q = 0 ∨ q = 1 by omega) with rfl | rfl
      · exact ⟨keep B2 k_p10_0, keep B2 k_p10_1⟩
      · exact ⟨keep B2 k_p10_2, keep B2 k_p10_3⟩
    have hmk := make_int2 W
    rw [← hW1] at hmk
    clear hW1 hW2
    go_wp2_with (first | (go_at_call 51; refine (listed_d p10 0 2 [(ax, ay), (cuP (nx, ny, fd) (ax, ay) (bx, b_y))] W2 sl (Nat.succ_pos _) (show 2 ≤ 16000000000000 by decide)).mono ?_; rintro e w_9 ⟨v, rfl, hF, hb⟩))
    obtain ⟨q, rfl, hq1, hq2, hq3⟩ := hF
    have B9 := bl_trans B2 hb
    have z2 := B2.size
    have zg := World.block_lt_of_cell? _ _ f0
    refine bodyPost_ret (v := .tuple #[_, .slice (some ⟨W.heap.size, 0, none⟩) 2 2, .int .i64 0]) (by simp [results, Try.results13, go_sem] <;> (first | exact ⟨⟨rfl, rfl⟩, rfl⟩ | exact ⟨rfl, rfl, rfl, rfl⟩ | exact ⟨rfl, rfl, rfl⟩ | exact ⟨rfl, rfl⟩ | rfl)) rfl ⟨_, _, rfl, ⟨q, rfl, by omega, hq2, hq3⟩, by omega, fun x c hx => ?_, keep hb f0, keep hb f1, fun o => (B9.2 _).trans (fresh_frozen (Nat.le_refl _)), bl_trans BF B9⟩
    cases hx
    simp only at zg
    omega

set_option maxRecDepth 100000 in
set_option maxHeartbeats 2000000 in
theorem seg_01 (nx ny fd ax ay bx b_y : Nat) (w : World) (o1 : okK .f64 nx) (o2 : okK .f64 ny) (o3 : okK .f64 fd) (oa : okK .f64 ax) (ob : okK .f64 ay) (oc : okK .f64 bx) (od : okK .f64 b_y) (h0 : farE (nx, ny, fd) [(ax, ay), (bx, b_y)] = 0) (h1 : leK .f64 (frK (nx, ny, fd) (ax, ay)) 0 = false) (h2 : leK .f64 (frK (nx, ny, fd) (bx, b_y)) 0 = true) : Calls Try.prog 13 #[.agg #[.float .f64 nx, .float .f64 ny, .float .f64 fd], .agg #[.float .f64 ax, .float .f64 ay], .agg #[.float .f64 bx, .float .f64 b_y]] w fun e w' => ∃ v g, e = .returned (.tuple #[v, .slice (some ⟨g, 0, none⟩) 2 2, .int .i64 0]) ∧ Fresh w.heap.size w' v [(cuP (nx, ny, fd) (ax, ay) (bx, b_y)), (bx, b_y)] ∧ w.heap.size ≤ g ∧ (∀ x c, v ≠ .slice (some ⟨g, x, none⟩) 2 c) ∧ w'.cell? ⟨g, 0, none⟩ = some (.int .i64 2) ∧ w'.cell? ⟨g, 1, none⟩ = some (.int .i64 1) ∧ (∀ o, w'.frozen? ⟨g, o, none⟩ = false) ∧ Bel w w' := by
  obtain ⟨hp, hl⟩ := farE_bd h0 o1 o2 o3 (by intro q hq; simp at hq; rcases hq with rfl | rfl <;> constructor <;> assumption)
  have ha := hl (ax, ay) (by simp)
  have hb_ := hl (bx, b_y) (by simp)
  have z0_0 : (w.alloc (.cells #[.float .f64 nx, .float .f64 ny, .float .f64 fd] 26)).cell? ⟨w.heap.size, 0, none⟩ = some (.float .f64 nx) := by rw [World.cell?_alloc_new]; rfl
  replace z0_0 := up_alloc (o := .cells #[.float .f64 ax, .float .f64 ay] 24) z0_0
  replace z0_0 := up_alloc (o := .cells #[.float .f64 bx, .float .f64 b_y] 24) z0_0
  replace z0_0 := up_alloc (o := .cells #[.float .f64 ax, .float .f64 ay, .float .f64 bx, .float .f64 b_y] 24) z0_0
  have z0_1 : (w.alloc (.cells #[.float .f64 nx, .float .f64 ny, .float .f64 fd] 26)).cell? ⟨w.heap.size, 1, none⟩ = some (.float .f64 ny) := by rw [World.cell?_alloc_new]; rfl
  replace z0_1 := up_alloc (o := .cells #[.float .f64 ax, .float .f64 ay] 24) z0_1
  replace z0_1 := up_alloc (o := .cells #[.float .f64 bx, .float .f64 b_y] 24) z0_1
  replace z0_1 := up_alloc (o := .cells #[.float .f64 ax, .float .f64 ay, .float .f64 bx, .float .f64 b_y] 24) z0_1
  have z0_2 : (w.alloc (.cells #[.float .f64 nx, .float .f64 ny, .float .f64 fd] 26)).cell? ⟨w.heap.size, 2, none⟩ = some (.float .f64 fd) := by rw [World.cell?_alloc_new]; rfl
  replace z0_2 := up_alloc (o := .cells #[.float .f64 ax, .float .f64 ay] 24) z0_2
  replace z0_2 := up_alloc (o := .cells #[.float .f64 bx, .float .f64 b_y] 24) z0_2
  replace z0_2 := up_alloc (o := .cells #[.float .f64 ax, .float .f64 ay, .float .f64 bx, .float .f64 b_y] 24) z0_2
  have z1_0 : ((w.alloc (.cells #[.float .f64 nx, .float .f64 ny, .float .f64 fd] 26)).alloc (.cells #[.float .f64 ax, .float .f64 ay] 24)).cell? ⟨w.heap.size + 1, 0, none⟩ = some (.float .f64 ax) := by rw [← (show (w.alloc (.cells #[.float .f64 nx, .float .f64 ny, .float .f64 fd] 26)).heap.size = w.heap.size + 1 by simp only [World.size_alloc]), World.cell?_alloc_new]; rfl
  replace z1_0 := up_alloc (o := .cells #[.float .f64 bx, .float .f64 b_y] 24) z1_0
  replace z1_0 := up_alloc (o := .cells #[.float .f64 ax, .float .f64 ay, .float .f64 bx, .float .f64 b_y] 24) z1_0
  have z1_1 : ((w.alloc (.cells #[.float .f64 nx, .float .f64 ny, .float .f64 fd] 26)).alloc (.cells #[.float .f64 ax, .float .f64 ay] 24)).cell? ⟨w.heap.size + 1, 1, none⟩ = some (.float .f64 ay) := by rw [← (show (w.alloc (.cells #[.float .f64 nx, .float .f64 ny, .float .f64 fd] 26)).heap.size = w.heap.size + 1 by simp only [World.size_alloc]), World.cell?_alloc_new]; rfl
  replace z1_1 := up_alloc (o := .cells #[.float .f64 bx, .float .f64 b_y] 24) z1_1
  replace z1_1 := up_alloc (o := .cells #[.float .f64 ax, .float .f64 ay, .float .f64 bx, .float .f64 b_y] 24) z1_1
  have z2_0 : (((w.alloc (.cells #[.float .f64 nx, .float .f64 ny, .float .f64 fd] 26)).alloc (.cells #[.float .f64 ax, .float .f64 ay] 24)).alloc (.cells #[.float .f64 bx, .float .f64 b_y] 24)).cell? ⟨w.heap.size + 1 + 1, 0, none⟩ = some (.float .f64 bx) := by rw [← (show ((w.alloc (.cells #[.float .f64 nx, .float .f64 ny, .float .f64 fd] 26)).alloc (.cells #[.float .f64 ax, .float .f64 ay] 24)).heap.size = w.heap.size + 1 + 1 by simp only [World.size_alloc]), World.cell?_alloc_new]; rfl
  replace z2_0 := up_alloc (o := .cells #[.float .f64 ax, .float .f64 ay, .float .f64 bx, .float .f64 b_y] 24) z2_0
  have z2_1 : (((w.alloc (.cells #[.float .f64 nx, .float .f64 ny, .float .f64 fd] 26)).alloc (.cells #[.float .f64 ax, .float .f64 ay] 24)).alloc (.cells #[.float .f64 bx, .float .f64 b_y] 24)).cell? ⟨w.heap.size + 1 + 1, 1, none⟩ = some (.float .f64 b_y) := by rw [← (show ((w.alloc (.cells #[.float .f64 nx, .float .f64 ny, .float .f64 fd] 26)).alloc (.cells #[.float .f64 ax, .float .f64 ay] 24)).heap.size = w.heap.size + 1 + 1 by simp only [World.size_alloc]), World.cell?_alloc_new]; rfl
  replace z2_1 := up_alloc (o := .cells #[.float .f64 ax, .float .f64 ay, .float .f64 bx, .float .f64 b_y] 24) z2_1
  have z3_0 : ((((w.alloc (.cells #[.float .f64 nx, .float .f64 ny, .float .f64 fd] 26)).alloc (.cells #[.float .f64 ax, .float .f64 ay] 24)).alloc (.cells #[.float .f64 bx, .float .f64 b_y] 24)).alloc (.cells #[.float .f64 ax, .float .f64 ay, .float .f64 bx, .float .f64 b_y] 24)).cell? ⟨w.heap.size + 1 + 1 + 1, 0, none⟩ = some (.float .f64 ax) := by rw [← (show (((w.alloc (.cells #[.float .f64 nx, .float .f64 ny, .float .f64 fd] 26)).alloc (.cells #[.float .f64 ax, .float .f64 ay] 24)).alloc (.cells #[.float .f64 bx, .float .f64 b_y] 24)).heap.size = w.heap.size + 1 + 1 + 1 by simp only [World.size_alloc]), World.cell?_alloc_new]; rfl
  have z3_1 : ((((w.alloc (.cells #[.float .f64 nx, .float .f64 ny, .float .f64 fd] 26)).alloc (.cells #[.float .f64 ax, .float .f64 ay] 24)).alloc (.cells #[.float .f64 bx, .float .f64 b_y] 24)).alloc (.cells #[.float .f64 ax, .float .f64 ay, .float .f64 bx, .float .f64 b_y] 24)).cell? ⟨w.heap.size + 1 + 1 + 1, 1, none⟩ = some (.float .f64 ay) := by rw [← (show (((w.alloc (.cells #[.float .f64 nx, .float .f64 ny, .float .f64 fd] 26)).alloc (.cells #[.float .f64 ax, .float .f64 ay] 24)).alloc (.cells #[.float .f64 bx, .float .f64 b_y] 24)).heap.size = w.heap.size + 1 + 1 + 1 by simp only [World.size_alloc]), World.cell?_alloc_new]; rfl
  have z3_2 : ((((w.alloc (.cells #[.float .f64 nx, .float .f64 ny, .float .f64 fd] 26)).alloc (.cells #[.float .f64 ax, .float .f64 ay] 24)).alloc (.cells #[.float .f64 bx, .float .f64 b_y] 24)).alloc (.cells #[.float .f64 ax, .float .f64 ay, .float .f64 bx, .float .f64 b_y] 24)).cell? ⟨w.heap.size + 1 + 1 + 1, 2, none⟩ = some (.float .f64 bx) := by rw [← (show (((w.alloc (.cells #[.float .f64 nx, .float .f64 ny, .float .f64 fd] 26)).alloc (.cells #[.float .f64 ax, .float .f64 ay] 24)).alloc (.cells #[.float .f64 bx, .float .f64 b_y] 24)).heap.size = w.heap.size + 1 + 1 + 1 by simp only [World.size_alloc]), World.cell?_alloc_new]; rfl
  have z3_3 : ((((w.alloc (.cells #[.float .f64 nx, .float .f64 ny, .float .f64 fd] 26)).alloc (.cells #[.float .f64 ax, .float .f64 ay] 24)).alloc (.cells #[.float .f64 bx, .float .f64 b_y] 24)).alloc (.cells #[.float .f64 ax, .float .f64 ay, .float .f64 bx, .float .f64 b_y] 24)).cell? ⟨w.heap.size + 1 + 1 + 1, 3, none⟩ = some (.float .f64 b_y) := by rw [← (show (((w.alloc (.cells #[.float .f64 nx, .float .f64 ny, .float .f64 fd] 26)).alloc (.cells #[.float .f64 ax, .float .f64 ay] 24)).alloc (.cells #[.float .f64 bx, .float .f64 b_y] 24)).heap.size = w.heap.size + 1 + 1 + 1 by simp only [World.size_alloc]), World.cell?_alloc_new]; rfl
  have B0 : Bel w ((((w.alloc (.cells #[.float .f64 nx, .float .f64 ny, .float .f64 fd] 26)).alloc (.cells #[.float .f64 ax, .float .f64 ay] 24)).alloc (.cells #[.float .f64 bx, .float .f64 b_y] 24)).alloc (.cells #[.float .f64 ax, .float .f64 ay, .float .f64 bx, .float .f64 b_y] 24)) := bl_alloc (bl_alloc (bl_alloc (bl_alloc (bl_refl w) _ _) _ _) _ _) _ _
  have CW := cw_d (w.heap.size + 1 + 1 + 1) 0 2 2 (px [(ax, ay), (bx, b_y)]) (py [(ax, ay), (bx, b_y)]) nx ny fd _ (sl_pts (W := (((w.alloc (.cells #[.float .f64 nx, .float .f64 ny, .float .f64 fd] 26)).alloc (.cells #[.float .f64 ax, .float .f64 ay] 24)).alloc (.cells #[.float .f64 bx, .float .f64 b_y] 24))) (L := [(ax, ay), (bx, b_y)]) (ty := 24) (cs := #[.float .f64 ax, .float .f64 ay, .float .f64 bx, .float .f64 b_y]) (by simp only [World.size_alloc]) (by simp [prRow, px, py, pt, List.range_succ])) (by decide) (by decide) (by decide) o1 o2 o3
  rw [show cwE (nx, ny, fd) (px [(ax, ay), (bx, b_y)]) (py [(ax, ay), (bx, b_y)]) 2 = farE (nx, ny, fd) [(ax, ay), (bx, b_y)] from rfl] at CW
  rw [h0] at CW
  go_enter Try.func13, Try.ntmps13
  go_wp2_with (first | (go_at_call 48; refine CW.mono ?_; rintro e w' ⟨rfl, hb⟩; replace z0_0 := keep hb z0_0; replace z0_1 := keep hb z0_1; replace z0_2 := keep hb z0_2; replace z1_0 := keep hb z1_0; replace z1_1 := keep hb z1_1; replace z2_0 := keep hb z2_0; replace z2_1 := keep hb z2_1; have B0 := bl_trans B0 hb; clear hb))
  refine wp_region_new 13 rfl (fun i v => match i with | 0 => v = .agg #[.float .f64 nx, .float .f64 ny, .float .f64 fd] | 1 => v = .agg #[.float .f64 ax, .float .f64 ay] | 2 => v = .agg #[.float .f64 ax, .float .f64 ay, .float .f64 (frK (nx, ny, fd) (ax, ay))] | 3 => v = .agg #[.float .f64 nx, .float .f64 ny, .float .f64 fd] | 4 => v = .agg #[.float .f64 bx, .float .f64 b_y] | 5 => v = .agg #[.float .f64 bx, .float .f64 b_y, .float .f64 (frK (nx, ny, fd) (bx, b_y))] | 6 => v = .tuple #[.agg #[.float .f64 (cuX (nx, ny, fd) (ax, ay) (bx, b_y)), .float .f64 (cuY (nx, ny, fd) (ax, ay) (bx, b_y)), .float .f64 bx, .float .f64 b_y, .int .i64 2, .int .i64 1], .bool true] | 7 => v = .tuple #[.agg #[.float .f64 (cuX (nx, ny, fd) (ax, ay) (bx, b_y)), .float .f64 (cuY (nx, ny, fd) (ax, ay) (bx, b_y)), .float .f64 bx, .float .f64 b_y, .int .i64 2, .int .i64 1], .bool true] | 8 => v = .agg #[.float .f64 (cuX (nx, ny, fd) (ax, ay) (bx, b_y)), .float .f64 (cuY (nx, ny, fd) (ax, ay) (bx, b_y)), .float .f64 bx, .float .f64 b_y, .int .i64 2, .int .i64 1] | 9 => v = .bool true | 12 => v = .bool true | _ => False) [(10, #[.float .f64 0, .float .f64 0, .float .f64 0, .float .f64 0, .int .i64 0, .int .i64 0], 79)] [(11, 10, 8)] ?A_wn (by kernel_rfl) (by kernel_rfl) ?hA_wn ?ha_wn ?hst_wn ?hq_wn ?ht_wn
  case hA_wn =>
    intro s
    simp only [putL, dstO, Act.put, List.getElem?_toArray, List.getElem?_cons_zero, List.getElem?_cons_succ, Option.bind_some, List.setIfInBounds_toArray, List.set_cons_zero, List.set_cons_succ, if_true]
    all_goals exact rfl
  case ha_wn =>
    intro i o c ty hi ho hal B W K hK
    rcases (show i = 0 ∨ i = 1 ∨ i = 2 ∨ i = 3 ∨ i = 4 ∨ i = 5 ∨ i = 6 ∨ i = 7 ∨ i = 8 ∨ i = 9 ∨ i = 10 ∨ i = 11 ∨ i = 12 by omega) with rfl | rfl | rfl | rfl | rfl | rfl | rfl | rfl | rfl | rfl | rfl | rfl | rfl
    · cases (show none = some (c, ty) from hal)
    · cases (show none = some (c, ty) from hal)
    · cases (show none = some (c, ty) from hal)
    · cases (show none = some (c, ty) from hal)
    · cases (show none = some (c, ty) from hal)
    · cases (show none = some (c, ty) from hal)
    · cases (show none = some (c, ty) from hal)
    · cases (show none = some (c, ty) from hal)
    · cases (show none = some (c, ty) from hal)
    · cases (show none = some (c, ty) from hal)
    · cases ho; cases (show some (#[.float .f64 0, .float .f64 0, .float .f64 0, .float .f64 0, .int .i64 0, .int .i64 0], 79) = some (c, ty) from hal); go_simp; exact hK.out
    · cases (show none = some (c, ty) from hal)
    · cases (show none = some (c, ty) from hal)
  case hst_wn =>
    intro t o a d c ty hlt ho hts hal s hs W b eb hc hf K hK
    rcases (show t = 0 ∨ t = 1 ∨ t = 2 ∨ t = 3 ∨ t = 4 ∨ t = 5 ∨ t = 6 ∨ t = 7 ∨ t = 8 ∨ t = 9 ∨ t = 10 ∨ t = 11 ∨ t = 12 by omega) with rfl | rfl | rfl | rfl | rfl | rfl | rfl | rfl | rfl | rfl | rfl | rfl | rfl
    · cases (show none = some (a, d) from hts)
    · cases (show none = some (a, d) from hts)
    · cases (show none = some (a, d) from hts)
    · cases (show none = some (a, d) from hts)
    · cases (show none = some (a, d) from hts)
    · cases (show none = some (a, d) from hts)
    · cases (show none = some (a, d) from hts)
    · cases (show none = some (a, d) from hts)
    · cases (show none = some (a, d) from hts)
    · cases (show none = some (a, d) from hts)
    · cases (show none = some (a, d) from hts)
    · cases ho; cases (show some (10, 8) = some (a, d) from hts); cases (show some (#[.float .f64 0, .float .f64 0, .float .f64 0, .float .f64 0, .int .i64 0, .int .i64 0], 79) = some (c, ty) from hal)
      have e8 : s 8 = _ := hs 8 (by decide) rfl rfl (by kernel_rfl)
      obtain ⟨u0, hu0⟩ := Option.isSome_iff_exists.1 (hc 0 (by decide))
      obtain ⟨u1, hu1⟩ := Option.isSome_iff_exists.1 (hc 1 (by decide))
      obtain ⟨u2, hu2⟩ := Option.isSome_iff_exists.1 (hc 2 (by decide))
      obtain ⟨u3, hu3⟩ := Option.isSome_iff_exists.1 (hc 3 (by decide))
      obtain ⟨u4, hu4⟩ := Option.isSome_iff_exists.1 (hc 4 (by decide))
      obtain ⟨u5, hu5⟩ := Option.isSome_iff_exists.1 (hc 5 (by decide))
      simp only [eb, e8] at hK ⊢
      clear hs
      go_simp
      exact hK.out
    · cases (show none = some (a, d) from hts)
  case hq_wn =>
    intro i o hi hal hts ho s hs W hb K hK
    have uz0_0 := keep hb z0_0; have uz0_1 := keep hb z0_1; have uz0_2 := keep hb z0_2; have uz1_0 := keep hb z1_0; have uz1_1 := keep hb z1_1; have uz2_0 := keep hb z2_0; have uz2_1 := keep hb z2_1
    rcases (show i = 0 ∨ i = 1 ∨ i = 2 ∨ i = 3 ∨ i = 4 ∨ i = 5 ∨ i = 6 ∨ i = 7 ∨ i = 8 ∨ i = 9 ∨ i = 10 ∨ i = 11 ∨ i = 12 by omega) with rfl | rfl | rfl | rfl | rfl | rfl | rfl | rfl | rfl | rfl | rfl | rfl | rfl
    · cases ho
      simp only [Act.put, List.setIfInBounds_toArray, List.set_cons_zero, List.set_cons_succ] at hK
      clear hs hal hts
      go_simp
      all_goals (try go_wp2_with (first | (go_at_call 50; (first | with_reducible refine (endOf_d _ hp ha (by decide)).mono ?_ | with_reducible refine (endOf_d _ hp hb_ (by decide)).mono ?_); rintro e w' ⟨rfl, hb1⟩) | (go_at_call 49; refine (piece_01 _ hp ha hb_ (by decide) h1 h2).mono ?_; rintro e w' ⟨rfl, hb1⟩)))
      all_goals first | exact hK.out _ _ rfl (bl_refl _) | exact hK.out _ _ rfl (by assumption) | exact hK.out _ _ (by assumption) (by assumption)
    · cases ho
      simp only [Act.put, List.setIfInBounds_toArray, List.set_cons_zero, List.set_cons_succ] at hK
      clear hs hal hts
      go_simp
      all_goals (try go_wp2_with (first | (go_at_call 50; (first | with_reducible refine (endOf_d _ hp ha (by decide)).mono ?_ | with_reducible refine (endOf_d _ hp hb_ (by decide)).mono ?_); rintro e w' ⟨rfl, hb1⟩) | (go_at_call 49; refine (piece_01 _ hp ha hb_ (by decide) h1 h2).mono ?_; rintro e w' ⟨rfl, hb1⟩)))
      all_goals first | exact hK.out _ _ rfl (bl_refl _) | exact hK.out _ _ rfl (by assumption) | exact hK.out _ _ (by assumption) (by assumption)
    · cases ho
      have e0 : s 0 = _ := hs 0 (by decide) rfl rfl (by kernel_rfl)
      have e1 : s 1 = _ := hs 1 (by decide) rfl rfl (by kernel_rfl)
      simp only [e0, e1] at hK ⊢
      simp only [Act.put, List.setIfInBounds_toArray, List.set_cons_zero, List.set_cons_succ] at hK
      clear hs hal hts
      go_simp
      all_goals (try go_wp2_with (first | (go_at_call 50; (first | with_reducible refine (endOf_d _ hp ha (by decide)).mono ?_ | with_reducible refine (endOf_d _ hp hb_ (by decide)).mono ?_); rintro e w' ⟨rfl, hb1⟩) | (go_at_call 49; refine (piece_01 _ hp ha hb_ (by decide) h1 h2).mono ?_; rintro e w' ⟨rfl, hb1⟩)))
      all_goals first | exact hK.out _ _ rfl (bl_refl _) | exact hK.out _ _ rfl (by assumption) | exact hK.out _ _ (by assumption) (by assumption)
    · cases ho
      simp only [Act.put, List.setIfInBounds_toArray, List.set_cons_zero, List.set_cons_succ] at hK
      clear hs hal hts
      go_simp
      all_goals (try go_wp2_with (first | (go_at_call 50; (first | with_reducible refine (endOf_d _ hp ha (by decide)).mono ?_ | with_reducible refine (endOf_d _ hp hb_ (by decide)).mono ?_); rintro e w' ⟨rfl, hb1⟩) | (go_at_call 49; refine (piece_01 _ hp ha hb_ (by decide) h1 h2).mono ?_; rintro e w' ⟨rfl, hb1⟩)))
      all_goals first | exact hK.out _ _ rfl (bl_refl _) | exact hK.out _ _ rfl (by assumption) | exact hK.out _ _ (by assumption) (by assumption)
    · cases ho
      simp only [Act.put, List.setIfInBounds_toArray, List.set_cons_zero, List.set_cons_succ] at hK
      clear hs hal hts
      go_simp
      all_goals (try go_wp2_with (first | (go_at_call 50; (first | with_reducible refine (endOf_d _ hp ha (by decide)).mono ?_ | with_reducible refine (endOf_d _ hp hb_ (by decide)).mono ?_); rintro e w' ⟨rfl, hb1⟩) | (go_at_call 49; refine (piece_01 _ hp ha hb_ (by decide) h1 h2).mono ?_; rintro e w' ⟨rfl, hb1⟩)))
      all_goals first | exact hK.out _ _ rfl (bl_refl _) | exact hK.out _ _ rfl (by assumption) | exact hK.out _ _ (by assumption) (by assumption)
    · cases ho
      have e3 : s 3 = _ := hs 3 (by decide) rfl rfl (by kernel_rfl)
      have e4 : s 4 = _ := hs 4 (by decide) rfl rfl (by kernel_rfl)
      simp only [e3, e4] at hK ⊢
      simp only [Act.put, List.setIfInBounds_toArray, List.set_cons_zero, List.set_cons_succ] at hK
      clear hs hal hts
      go_simp
      all_goals (try go_wp2_with (first | (go_at_call 50; (first | with_reducible refine (endOf_d _ hp ha (by decide)).mono ?_ | with_reducible refine (endOf_d _ hp hb_ (by decide)).mono ?_); rintro e w' ⟨rfl, hb1⟩) | (go_at_call 49; refine (piece_01 _ hp ha hb_ (by decide) h1 h2).mono ?_; rintro e w' ⟨rfl, hb1⟩)))
      all_goals first | exact hK.out _ _ rfl (bl_refl _) | exact hK.out _ _ rfl (by assumption) | exact hK.out _ _ (by assumption) (by assumption)
    · cases ho
      have e2 : s 2 = _ := hs 2 (by decide) rfl rfl (by kernel_rfl)
      have e5 : s 5 = _ := hs 5 (by decide) rfl rfl (by kernel_rfl)
      simp only [e2, e5] at hK ⊢
      simp only [Act.put, List.setIfInBounds_toArray, List.set_cons_zero, List.set_cons_succ] at hK
      clear hs hal hts
      go_simp
      all_goals (try go_wp2_with (first | (go_at_call 50; (first | with_reducible refine (endOf_d _ hp ha (by decide)).mono ?_ | with_reducible refine (endOf_d _ hp hb_ (by decide)).mono ?_); rintro e w' ⟨rfl, hb1⟩) | (go_at_call 49; refine (piece_01 _ hp ha hb_ (by decide) h1 h2).mono ?_; rintro e w' ⟨rfl, hb1⟩)))
      all_goals first | exact hK.out _ _ rfl (bl_refl _) | exact hK.out _ _ rfl (by assumption) | exact hK.out _ _ (by assumption) (by assumption)
    · cases ho
      have e6 : s 6 = _ := hs 6 (by decide) rfl rfl (by kernel_rfl)
      simp only [e6] at hK ⊢
      simp only [Act.put, List.setIfInBounds_toArray, List.set_cons_zero, List.set_cons_succ] at hK
      clear hs hal hts
      go_simp
      all_goals (try go_wp2_with (first | (go_at_call 50; (first | with_reducible refine (endOf_d _ hp ha (by decide)).mono ?_ | with_reducible refine (endOf_d _ hp hb_ (by decide)).mono ?_); rintro e w' ⟨rfl, hb1⟩) | (go_at_call 49; refine (piece_01 _ hp ha hb_ (by decide) h1 h2).mono ?_; rintro e w' ⟨rfl, hb1⟩)))
      all_goals first | exact hK.out _ _ rfl (bl_refl _) | exact hK.out _ _ rfl (by assumption) | exact hK.out _ _ (by assumption) (by assumption)
    · cases ho
      have e7 : s 7 = _ := hs 7 (by decide) rfl rfl (by kernel_rfl)
      simp only [e7] at hK ⊢
      simp only [Act.put, List.setIfInBounds_toArray, List.set_cons_zero, List.set_cons_succ] at hK
      clear hs hal hts
      go_simp
      all_goals (try go_wp2_with (first | (go_at_call 50; (first | with_reducible refine (endOf_d _ hp ha (by decide)).mono ?_ | with_reducible refine (endOf_d _ hp hb_ (by decide)).mono ?_); rintro e w' ⟨rfl, hb1⟩) | (go_at_call 49; refine (piece_01 _ hp ha hb_ (by decide) h1 h2).mono ?_; rintro e w' ⟨rfl, hb1⟩)))
      all_goals first | exact hK.out _ _ rfl (bl_refl _) | exact hK.out _ _ rfl (by assumption) | exact hK.out _ _ (by assumption) (by assumption)
    · cases ho
      have e7 : s 7 = _ := hs 7 (by decide) rfl rfl (by kernel_rfl)
      simp only [e7] at hK ⊢
      simp only [Act.put, List.setIfInBounds_toArray, List.set_cons_zero, List.set_cons_succ] at hK
      clear hs hal hts
      go_simp
      all_goals (try go_wp2_with (first | (go_at_call 50; (first | with_reducible refine (endOf_d _ hp ha (by decide)).mono ?_ | with_reducible refine (endOf_d _ hp hb_ (by decide)).mono ?_); rintro e w' ⟨rfl, hb1⟩) | (go_at_call 49; refine (piece_01 _ hp ha hb_ (by decide) h1 h2).mono ?_; rintro e w' ⟨rfl, hb1⟩)))
      all_goals first | exact hK.out _ _ rfl (bl_refl _) | exact hK.out _ _ rfl (by assumption) | exact hK.out _ _ (by assumption) (by assumption)
    · cases (show some _ = none from hal)
    · cases (show some _ = none from hts)
    · cases ho
      have e9 : s 9 = _ := hs 9 (by decide) rfl rfl (by kernel_rfl)
      simp only [e9] at hK ⊢
      simp only [Act.put, List.setIfInBounds_toArray, List.set_cons_zero, List.set_cons_succ] at hK
      clear hs hal hts
      go_simp
      all_goals (try go_wp2_with (first | (go_at_call 50; (first | with_reducible refine (endOf_d _ hp ha (by decide)).mono ?_ | with_reducible refine (endOf_d _ hp hb_ (by decide)).mono ?_); rintro e w' ⟨rfl, hb1⟩) | (go_at_call 49; refine (piece_01 _ hp ha hb_ (by decide) h1 h2).mono ?_; rintro e w' ⟨rfl, hb1⟩)))
      all_goals first | exact hK.out _ _ rfl (bl_refl _) | exact hK.out _ _ rfl (by assumption) | exact hK.out _ _ (by assumption) (by assumption)
  case ht_wn =>
    intro s hs W hb hJ
    have e0 : s 0 = _ := hs 0 (by decide) rfl rfl
    have e1 : s 1 = _ := hs 1 (by decide) rfl rfl
    have e2 : s 2 = _ := hs 2 (by decide) rfl rfl
    have e3 : s 3 = _ := hs 3 (by decide) rfl rfl
    have e4 : s 4 = _ := hs 4 (by decide) rfl rfl
    have e5 : s 5 = _ := hs 5 (by decide) rfl rfl
    have e6 : s 6 = _ := hs 6 (by decide) rfl rfl
    have e7 : s 7 = _ := hs 7 (by decide) rfl rfl
    have e8 : s 8 = _ := hs 8 (by decide) rfl rfl
    have e9 : s 9 = _ := hs 9 (by decide) rfl rfl
    have e12 : s 12 = _ := hs 12 (by decide) rfl rfl
    obtain ⟨p10, e10, n10, l10, cl10⟩ := hJ.1 10 _ _ (by decide) rfl rfl
    have k_p10_0 : W.cell? ⟨p10, 0, none⟩ = some (cellAt (s 8) 0) := cl10 0 (by decide)
    have k_p10_1 : W.cell? ⟨p10, 1, none⟩ = some (cellAt (s 8) 1) := cl10 1 (by decide)
    have k_p10_2 : W.cell? ⟨p10, 2, none⟩ = some (cellAt (s 8) 2) := cl10 2 (by decide)
    have k_p10_3 : W.cell? ⟨p10, 3, none⟩ = some (cellAt (s 8) 3) := cl10 3 (by decide)
    have k_p10_4 : W.cell? ⟨p10, 4, none⟩ = some (cellAt (s 8) 4) := cl10 4 (by decide)
    have k_p10_5 : W.cell? ⟨p10, 5, none⟩ = some (cellAt (s 8) 5) := cl10 5 (by decide)
    rw [e8] at k_p10_0 k_p10_1 k_p10_2 k_p10_3 k_p10_4 k_p10_5
    simp only [cellAt] at k_p10_0 k_p10_1 k_p10_2 k_p10_3 k_p10_4 k_p10_5
    simp only [e0, e1, e2, e3, e4, e5, e6, e7, e8, e9, e12, e10]
    clear hs hJ e0 e1 e2 e3 e4 e5 e6 e7 e8 e9 e12 e10 cl10
    have BF := bl_trans B0 hb
    have lz := BF.size
    obtain ⟨W1, hW1⟩ : ∃ X, X = W.alloc (.cells #[.int .i64 0, .int .i64 0] 3) := ⟨_, rfl⟩
    have B1 : Bel W W1 := by rw [hW1]; exact bl_alloc (bl_refl W) _ _
    have g0 : W1.cell? ⟨W.heap.size, 0, none⟩ = some (.int .i64 0) := by rw [hW1, World.cell?_alloc_new]; rfl
    have g1 : W1.cell? ⟨W.heap.size, 1, none⟩ = some (.int .i64 0) := by rw [hW1, World.cell?_alloc_new]; rfl
    have gf : ∀ o, W1.frozen? ⟨W.heap.size, o, none⟩ = false := fun o => (B1.2 _).trans (fresh_frozen (Nat.le_refl _))
    have m4 := keep B1 k_p10_4
    have m5 := keep B1 k_p10_5
    have hcp := fun ty => copy_int2 (ty := ty) m4 m5 g0 g1 gf
    obtain ⟨W2, hW2⟩ : ∃ X, X = (W1.setCell ⟨W.heap.size, 0, none⟩ (.int .i64 2)).setCell ⟨W.heap.size, 1, none⟩ (.int .i64 1) := ⟨_, rfl⟩
    obtain ⟨f0, f1⟩ := set2 (p := .int .i64 2) (q := .int .i64 1) g0 g1
    rw [← hW2] at f0 f1 hcp
    have B2 : Bel W W2 := by rw [hW2]; exact bl_set (bl_set B1 (Nat.le_refl _)) (Nat.le_refl _)
    have sl : Sl W2 p10 0 2 (px [(cuP (nx, ny, fd) (ax, ay) (bx, b_y)), (bx, b_y)]) (py [(cuP (nx, ny, fd) (ax, ay) (bx, b_y)), (bx, b_y)]) := by
      intro q hq
      rcases (show q = 0 ∨ q = 1 by omega) with rfl | rfl
      · exact ⟨keep B2 k_p10_0, keep B2 k_p10_1⟩
      · exact ⟨keep B2 k_p10_2, keep B2 k_p10_3⟩
    have hmk := make_int2 W
    rw [← hW1] at hmk
    clear hW1 hW2
    go_wp2_with (first | (go_at_call 51; refine (listed_d p10 0 2 [(cuP (nx, ny, fd) (ax, ay) (bx, b_y)), (bx, b_y)] W2 sl (Nat.succ_pos _) (show 2 ≤ 16000000000000 by decide)).mono ?_; rintro e w_9 ⟨v, rfl, hF, hb⟩))
    obtain ⟨q, rfl, hq1, hq2, hq3⟩ := hF
    have B9 := bl_trans B2 hb
    have z2 := B2.size
    have zg := World.block_lt_of_cell? _ _ f0
    refine bodyPost_ret (v := .tuple #[_, .slice (some ⟨W.heap.size, 0, none⟩) 2 2, .int .i64 0]) (by simp [results, Try.results13, go_sem] <;> (first | exact ⟨⟨rfl, rfl⟩, rfl⟩ | exact ⟨rfl, rfl, rfl, rfl⟩ | exact ⟨rfl, rfl, rfl⟩ | exact ⟨rfl, rfl⟩ | rfl)) rfl ⟨_, _, rfl, ⟨q, rfl, by omega, hq2, hq3⟩, by omega, fun x c hx => ?_, keep hb f0, keep hb f1, fun o => (B9.2 _).trans (fresh_frozen (Nat.le_refl _)), bl_trans BF B9⟩
    cases hx
    simp only at zg
    omega

end Go.Proofs.Ytpedpgpgcmhnoaa
