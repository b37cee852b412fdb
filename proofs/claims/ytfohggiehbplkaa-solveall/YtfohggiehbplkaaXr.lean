/-
  What each function of package poly answers, and what the reference of its chapter answers: one contract a function, for every float: the answer stands in the relation of its formula to what was given; of the memory that was there nothing has turned.
-/
import Derived.Test.YtfohggiehbplkaaVec
import Derived.Test.YtfohggiehbplkaaXq
import Derived.Below
import Derived.OwnWalk
import Derived.Laws.AppendOwn
import Derived.Lib.SliceRun
import Derived.Laws.MakeOwn
import Derived.WalkKit
import Derived.WalkLawsBesides
import Derived.WalkSpells
import Derived.ProofKit
import Derived.OpenShut
import Derived.Deep.RegionHeld3
namespace Go.Proofs.Ytfohggiehbplkaa
open Go.ChangeShapes Go.WideShapes Go.ChangeAt Go.RowKit
set_option linter.unusedVariables false
set_option linter.unusedSimpArgs false


set_option maxRecDepth 100000 in
set_option maxHeartbeats 4000000 in
theorem same21 (a b : SD) (w : World) (h0 : smK .f64 a.sm b.sm = true) (h1 : smK .f64 a.si b.si = true) (h2 : smK .f64 a.sx b.sx = true) (h3 : smK .f64 a.sy b.sy = true) (h4 : smK .f64 a.ss b.ss = true) : Calls Try.prog 83 #[.agg #[.float .f64 a.sm, .float .f64 a.si, .float .f64 a.sx, .float .f64 a.sy, .float .f64 a.ss], .agg #[.float .f64 b.sm, .float .f64 b.si, .float .f64 b.sx, .float .f64 b.sy, .float .f64 b.ss]] w fun e w' => e = .returned (.bool true) ∧ Bel w w' := by
 have z0_0 : (w.alloc (.cells #[.float .f64 a.sm, .float .f64 a.si, .float .f64 a.sx, .float .f64 a.sy, .float .f64 a.ss] 45)).cell? ⟨w.heap.size, 0, none⟩ = some (.float .f64 a.sm) := by rw [World.cell?_alloc_new]; rfl
 replace z0_0 := up_alloc (o := .cells #[.float .f64 b.sm, .float .f64 b.si, .float .f64 b.sx, .float .f64 b.sy, .float .f64 b.ss] 45) z0_0
 have z0_1 : (w.alloc (.cells #[.float .f64 a.sm, .float .f64 a.si, .float .f64 a.sx, .float .f64 a.sy, .float .f64 a.ss] 45)).cell? ⟨w.heap.size, 1, none⟩ = some (.float .f64 a.si) := by rw [World.cell?_alloc_new]; rfl
 replace z0_1 := up_alloc (o := .cells #[.float .f64 b.sm, .float .f64 b.si, .float .f64 b.sx, .float .f64 b.sy, .float .f64 b.ss] 45) z0_1
 have z0_2 : (w.alloc (.cells #[.float .f64 a.sm, .float .f64 a.si, .float .f64 a.sx, .float .f64 a.sy, .float .f64 a.ss] 45)).cell? ⟨w.heap.size, 2, none⟩ = some (.float .f64 a.sx) := by rw [World.cell?_alloc_new]; rfl
 replace z0_2 := up_alloc (o := .cells #[.float .f64 b.sm, .float .f64 b.si, .float .f64 b.sx, .float .f64 b.sy, .float .f64 b.ss] 45) z0_2
 have z0_3 : (w.alloc (.cells #[.float .f64 a.sm, .float .f64 a.si, .float .f64 a.sx, .float .f64 a.sy, .float .f64 a.ss] 45)).cell? ⟨w.heap.size, 3, none⟩ = some (.float .f64 a.sy) := by rw [World.cell?_alloc_new]; rfl
 replace z0_3 := up_alloc (o := .cells #[.float .f64 b.sm, .float .f64 b.si, .float .f64 b.sx, .float .f64 b.sy, .float .f64 b.ss] 45) z0_3
 have z0_4 : (w.alloc (.cells #[.float .f64 a.sm, .float .f64 a.si, .float .f64 a.sx, .float .f64 a.sy, .float .f64 a.ss] 45)).cell? ⟨w.heap.size, 4, none⟩ = some (.float .f64 a.ss) := by rw [World.cell?_alloc_new]; rfl
 replace z0_4 := up_alloc (o := .cells #[.float .f64 b.sm, .float .f64 b.si, .float .f64 b.sx, .float .f64 b.sy, .float .f64 b.ss] 45) z0_4
 have z1_0 : ((w.alloc (.cells #[.float .f64 a.sm, .float .f64 a.si, .float .f64 a.sx, .float .f64 a.sy, .float .f64 a.ss] 45)).alloc (.cells #[.float .f64 b.sm, .float .f64 b.si, .float .f64 b.sx, .float .f64 b.sy, .float .f64 b.ss] 45)).cell? ⟨w.heap.size + 1, 0, none⟩ = some (.float .f64 b.sm) := by rw [← (show (w.alloc (.cells #[.float .f64 a.sm, .float .f64 a.si, .float .f64 a.sx, .float .f64 a.sy, .float .f64 a.ss] 45)).heap.size = w.heap.size + 1 by simp only [World.size_alloc]), World.cell?_alloc_new]; rfl
 have z1_1 : ((w.alloc (.cells #[.float .f64 a.sm, .float .f64 a.si, .float .f64 a.sx, .float .f64 a.sy, .float .f64 a.ss] 45)).alloc (.cells #[.float .f64 b.sm, .float .f64 b.si, .float .f64 b.sx, .float .f64 b.sy, .float .f64 b.ss] 45)).cell? ⟨w.heap.size + 1, 1, none⟩ = some (.float .f64 b.si) := by rw [← (show (w.alloc (.cells #[.float .f64 a.sm, .float .f64 a.si, .float .f64 a.sx, .float .f64 a.sy, .float .f64 a.ss] 45)).heap.size = w.heap.size + 1 by simp only [World.size_alloc]), World.cell?_alloc_new]; rfl
 have z1_2 : ((w.alloc (.cells #[.float .f64 a.sm, .float .f64 a.si, .float .f64 a.sx, .float .f64 a.sy, .float .f64 a.ss] 45)).alloc (.cells #[.float .f64 b.sm, .float .f64 b.si, .float .f64 b.sx, .float .f64 b.sy, .float .f64 b.ss] 45)).cell? ⟨w.heap.size + 1, 2, none⟩ = some (.float .f64 b.sx) := by rw [← (show (w.alloc (.cells #[.float .f64 a.sm, .float .f64 a.si, .float .f64 a.sx, .float .f64 a.sy, .float .f64 a.ss] 45)).heap.size = w.heap.size + 1 by simp only [World.size_alloc]), World.cell?_alloc_new]; rfl
 have z1_3 : ((w.alloc (.cells #[.float .f64 a.sm, .float .f64 a.si, .float .f64 a.sx, .float .f64 a.sy, .float .f64 a.ss] 45)).alloc (.cells #[.float .f64 b.sm, .float .f64 b.si, .float .f64 b.sx, .float .f64 b.sy, .float .f64 b.ss] 45)).cell? ⟨w.heap.size + 1, 3, none⟩ = some (.float .f64 b.sy) := by rw [← (show (w.alloc (.cells #[.float .f64 a.sm, .float .f64 a.si, .float .f64 a.sx, .float .f64 a.sy, .float .f64 a.ss] 45)).heap.size = w.heap.size + 1 by simp only [World.size_alloc]), World.cell?_alloc_new]; rfl
 have z1_4 : ((w.alloc (.cells #[.float .f64 a.sm, .float .f64 a.si, .float .f64 a.sx, .float .f64 a.sy, .float .f64 a.ss] 45)).alloc (.cells #[.float .f64 b.sm, .float .f64 b.si, .float .f64 b.sx, .float .f64 b.sy, .float .f64 b.ss] 45)).cell? ⟨w.heap.size + 1, 4, none⟩ = some (.float .f64 b.ss) := by rw [← (show (w.alloc (.cells #[.float .f64 a.sm, .float .f64 a.si, .float .f64 a.sx, .float .f64 a.sy, .float .f64 a.ss] 45)).heap.size = w.heap.size + 1 by simp only [World.size_alloc]), World.cell?_alloc_new]; rfl
 have B0 : Bel w ((w.alloc (.cells #[.float .f64 a.sm, .float .f64 a.si, .float .f64 a.sx, .float .f64 a.sy, .float .f64 a.ss] 45)).alloc (.cells #[.float .f64 b.sm, .float .f64 b.si, .float .f64 b.sx, .float .f64 b.sy, .float .f64 b.ss] 45)) := bl_alloc (bl_alloc (bl_refl w) _ _) _ _
 go_enter Try.func83, Try.ntmps83
 go_wp2_with (first | (go_at_call 54; (with_reducible refine (rSame_any a.sx a.sy b.sx b.sy _).mono ?_); rintro e w' ⟨rfl, hb⟩; rw [h2, h3]; (first | have B := bl_trans B hb | have B := bl_trans (by repeat (first | exact B | apply bl_drewN)) hb | have B := bl_trans (by repeat (first | exact B | apply bl_drewN | apply bl_drew | apply bl_alloc | refine bl_set ?_ (by simp <;> omega))) hb | have B := hb); (try clear hc hf hz); obtain ⟨hc, hf⟩ := bcell B; have hz := B.size; (try simp at hz)) | (go_at_call 37; (with_reducible refine (rIs_any a.sm b.sm _).mono ?_); rintro e w' ⟨rfl, rfl⟩; rw [h0]) | (go_at_call 37; (with_reducible refine (rIs_any a.si b.si _).mono ?_); rintro e w' ⟨rfl, rfl⟩; rw [h1]) | (go_at_call 37; (with_reducible refine (rIs_any a.ss b.ss _).mono ?_); rintro e w' ⟨rfl, rfl⟩; rw [h4]))
 go_ret
 exact ⟨rfl, by repeat (first | exact bl_refl _ | assumption | apply bl_drewN | apply bl_drew | apply bl_alloc | refine bl_set ?_ (by simp <;> omega) | refine bl_trans ?_ (by assumption))⟩
/-- two stills as they lie that are told alike -/
theorem RelS.same {a b m : SD} (h : RelS a m) (g : RelS b m) : smK .f64 a.sm b.sm = true ∧ smK .f64 a.si b.si = true ∧ smK .f64 a.sx b.sx = true ∧ smK .f64 a.sy b.sy = true ∧ smK .f64 a.ss b.ss = true :=
 ⟨bits_iff.2 (by rw [h.em, g.em]), bits_iff.2 (by rw [h.ei, g.ei]), bits_iff.2 (by rw [h.hx.2, g.hx.2]), bits_iff.2 (by rw [h.hy.2, g.hy.2]), bits_iff.2 (by rw [h.hs.2, g.hs.2])⟩
theorem same_rel (a b m : SD) (w : World) (h : RelS a m) (g : RelS b m) : Calls Try.prog 83 #[.agg #[.float .f64 a.sm, .float .f64 a.si, .float .f64 a.sx, .float .f64 a.sy, .float .f64 a.ss], .agg #[.float .f64 b.sm, .float .f64 b.si, .float .f64 b.sx, .float .f64 b.sy, .float .f64 b.ss]] w fun e w' => e = .returned (.bool true) ∧ Bel w w' :=
 same21 a b w (h.same g).1 (h.same g).2.1 (h.same g).2.2.1 (h.same g).2.2.2.1 (h.same g).2.2.2.2

end Go.Proofs.Ytfohggiehbplkaa
