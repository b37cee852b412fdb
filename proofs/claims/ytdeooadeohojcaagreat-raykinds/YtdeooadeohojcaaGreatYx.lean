/-
  What each function of package poly answers, and what the reference of its chapter answers: one contract a function, for every float: the answer stands in the relation of its formula to what was given; of the memory that was there nothing has turned.
-/
import Derived.Deep.LoopGhost
import Derived.Test.YtdeooadeohojcaaGreatVec
import Derived.Test.YtdeooadeohojcaaGreatYq
import Derived.Test.YtdeooadeohojcaaGreatBel
import Derived.Below
import Derived.WalkKit
import Derived.WalkLawsBesides
import Derived.WalkSpells
import Derived.ProofKit
import Derived.OpenShut
import Derived.Deep.RegionHeld3
namespace Go.Proofs.YtdeooadeohojcaaGreat
open Go.ChangeShapes Go.WideShapes Go.ChangeAt Go.RowKit
set_option linter.unusedVariables false
set_option linter.unusedSimpArgs false


set_option maxRecDepth 100000 in
theorem hsame_n {hx1 hy1 nx1 ny1 ht1 hx2 hy2 nx2 ny2 ht2 : Nat} {X : Ht} (w : World) (h : isH hx1 hy1 nx1 ny1 ht1 X) (g : isH hx2 hy2 nx2 ny2 ht2 X) : Calls Tryz.prog 37 #[.agg #[.float .f64 hx1, .float .f64 hy1, .float .f64 nx1, .float .f64 ny1, .float .f64 ht1], .agg #[.float .f64 hx2, .float .f64 hy2, .float .f64 nx2, .float .f64 ny2, .float .f64 ht2]] w fun e w' => e = .returned (.bool true) ∧ Bel w w' := by
  obtain ⟨a1, a2⟩ := P_same h.1 g.1
  obtain ⟨a3, a4⟩ := P_same h.2.1 g.2.1
  have a5 := F_same h.2.2 g.2.2
  have hA := fun W => rSame_any hx1 hy1 hx2 hy2 W
  have hN := fun W => rSame_any nx1 ny1 nx2 ny2 W
  have hI := fun W => rIs_any ht1 ht2 W
  simp only [a1, a2, Bool.and_self] at hA
  simp only [a3, a4, Bool.and_self] at hN
  simp only [a5] at hI
  clear a1 a2 a3 a4 a5
  have z0_0 : (w.alloc (.cells #[.float .f64 hx1, .float .f64 hy1, .float .f64 nx1, .float .f64 ny1, .float .f64 ht1] 28)).cell? ⟨w.heap.size, 0, none⟩ = some (.float .f64 hx1) := by rw [World.cell?_alloc_new]; rfl
  replace z0_0 := up_alloc (o := .cells #[.float .f64 hx2, .float .f64 hy2, .float .f64 nx2, .float .f64 ny2, .float .f64 ht2] 28) z0_0
  have z0_1 : (w.alloc (.cells #[.float .f64 hx1, .float .f64 hy1, .float .f64 nx1, .float .f64 ny1, .float .f64 ht1] 28)).cell? ⟨w.heap.size, 1, none⟩ = some (.float .f64 hy1) := by rw [World.cell?_alloc_new]; rfl
  replace z0_1 := up_alloc (o := .cells #[.float .f64 hx2, .float .f64 hy2, .float .f64 nx2, .float .f64 ny2, .float .f64 ht2] 28) z0_1
  have z0_2 : (w.alloc (.cells #[.float .f64 hx1, .float .f64 hy1, .float .f64 nx1, .float .f64 ny1, .float .f64 ht1] 28)).cell? ⟨w.heap.size, 2, none⟩ = some (.float .f64 nx1) := by rw [World.cell?_alloc_new]; rfl
  replace z0_2 := up_alloc (o := .cells #[.float .f64 hx2, .float .f64 hy2, .float .f64 nx2, .float .f64 ny2, .float .f64 ht2] 28) z0_2
  have z0_3 : (w.alloc (.cells #[.float .f64 hx1, .float .f64 hy1, .float .f64 nx1, .float .f64 ny1, .float .f64 ht1] 28)).cell? ⟨w.heap.size, 3, none⟩ = some (.float .f64 ny1) := by rw [World.cell?_alloc_new]; rfl
  replace z0_3 := up_alloc (o := .cells #[.float .f64 hx2, .float .f64 hy2, .float .f64 nx2, .float .f64 ny2, .float .f64 ht2] 28) z0_3
  have z0_4 : (w.alloc (.cells #[.float .f64 hx1, .float .f64 hy1, .float .f64 nx1, .float .f64 ny1, .float .f64 ht1] 28)).cell? ⟨w.heap.size, 4, none⟩ = some (.float .f64 ht1) := by rw [World.cell?_alloc_new]; rfl
  replace z0_4 := up_alloc (o := .cells #[.float .f64 hx2, .float .f64 hy2, .float .f64 nx2, .float .f64 ny2, .float .f64 ht2] 28) z0_4
  have z1_0 : ((w.alloc (.cells #[.float .f64 hx1, .float .f64 hy1, .float .f64 nx1, .float .f64 ny1, .float .f64 ht1] 28)).alloc (.cells #[.float .f64 hx2, .float .f64 hy2, .float .f64 nx2, .float .f64 ny2, .float .f64 ht2] 28)).cell? ⟨w.heap.size + 1, 0, none⟩ = some (.float .f64 hx2) := by rw [← (show (w.alloc (.cells #[.float .f64 hx1, .float .f64 hy1, .float .f64 nx1, .float .f64 ny1, .float .f64 ht1] 28)).heap.size = w.heap.size + 1 by simp only [World.size_alloc]), World.cell?_alloc_new]; rfl
  have z1_1 : ((w.alloc (.cells #[.float .f64 hx1, .float .f64 hy1, .float .f64 nx1, .float .f64 ny1, .float .f64 ht1] 28)).alloc (.cells #[.float .f64 hx2, .float .f64 hy2, .float .f64 nx2, .float .f64 ny2, .float .f64 ht2] 28)).cell? ⟨w.heap.size + 1, 1, none⟩ = some (.float .f64 hy2) := by rw [← (show (w.alloc (.cells #[.float .f64 hx1, .float .f64 hy1, .float .f64 nx1, .float .f64 ny1, .float .f64 ht1] 28)).heap.size = w.heap.size + 1 by simp only [World.size_alloc]), World.cell?_alloc_new]; rfl
  have z1_2 : ((w.alloc (.cells #[.float .f64 hx1, .float .f64 hy1, .float .f64 nx1, .float .f64 ny1, .float .f64 ht1] 28)).alloc (.cells #[.float .f64 hx2, .float .f64 hy2, .float .f64 nx2, .float .f64 ny2, .float .f64 ht2] 28)).cell? ⟨w.heap.size + 1, 2, none⟩ = some (.float .f64 nx2) := by rw [← (show (w.alloc (.cells #[.float .f64 hx1, .float .f64 hy1, .float .f64 nx1, .float .f64 ny1, .float .f64 ht1] 28)).heap.size = w.heap.size + 1 by simp only [World.size_alloc]), World.cell?_alloc_new]; rfl
  have z1_3 : ((w.alloc (.cells #[.float .f64 hx1, .float .f64 hy1, .float .f64 nx1, .float .f64 ny1, .float .f64 ht1] 28)).alloc (.cells #[.float .f64 hx2, .float .f64 hy2, .float .f64 nx2, .float .f64 ny2, .float .f64 ht2] 28)).cell? ⟨w.heap.size + 1, 3, none⟩ = some (.float .f64 ny2) := by rw [← (show (w.alloc (.cells #[.float .f64 hx1, .float .f64 hy1, .float .f64 nx1, .float .f64 ny1, .float .f64 ht1] 28)).heap.size = w.heap.size + 1 by simp only [World.size_alloc]), World.cell?_alloc_new]; rfl
  have z1_4 : ((w.alloc (.cells #[.float .f64 hx1, .float .f64 hy1, .float .f64 nx1, .float .f64 ny1, .float .f64 ht1] 28)).alloc (.cells #[.float .f64 hx2, .float .f64 hy2, .float .f64 nx2, .float .f64 ny2, .float .f64 ht2] 28)).cell? ⟨w.heap.size + 1, 4, none⟩ = some (.float .f64 ht2) := by rw [← (show (w.alloc (.cells #[.float .f64 hx1, .float .f64 hy1, .float .f64 nx1, .float .f64 ny1, .float .f64 ht1] 28)).heap.size = w.heap.size + 1 by simp only [World.size_alloc]), World.cell?_alloc_new]; rfl
  have B0 : Bel w ((w.alloc (.cells #[.float .f64 hx1, .float .f64 hy1, .float .f64 nx1, .float .f64 ny1, .float .f64 ht1] 28)).alloc (.cells #[.float .f64 hx2, .float .f64 hy2, .float .f64 nx2, .float .f64 ny2, .float .f64 ht2] 28)) := bl_alloc (bl_alloc (bl_refl w) _ _) _ _
  go_enter Tryz.func37, Tryz.ntmps37
  go_wp2_with (first | (go_at_call 51; first | ((with_reducible refine (hA _).mono ?_); rintro e w1 ⟨rfl, hb⟩; replace z0_0 : w1.cell? ⟨w.heap.size, 0, none⟩ = some (.float .f64 hx1) := keep hb (by first | exact z0_0 | go_keep); replace z0_1 : w1.cell? ⟨w.heap.size, 1, none⟩ = some (.float .f64 hy1) := keep hb (by first | exact z0_1 | go_keep); replace z0_2 : w1.cell? ⟨w.heap.size, 2, none⟩ = some (.float .f64 nx1) := keep hb (by first | exact z0_2 | go_keep); replace z0_3 : w1.cell? ⟨w.heap.size, 3, none⟩ = some (.float .f64 ny1) := keep hb (by first | exact z0_3 | go_keep); replace z0_4 : w1.cell? ⟨w.heap.size, 4, none⟩ = some (.float .f64 ht1) := keep hb (by first | exact z0_4 | go_keep); replace z1_0 : w1.cell? ⟨w.heap.size + 1, 0, none⟩ = some (.float .f64 hx2) := keep hb (by first | exact z1_0 | go_keep); replace z1_1 : w1.cell? ⟨w.heap.size + 1, 1, none⟩ = some (.float .f64 hy2) := keep hb (by first | exact z1_1 | go_keep); replace z1_2 : w1.cell? ⟨w.heap.size + 1, 2, none⟩ = some (.float .f64 nx2) := keep hb (by first | exact z1_2 | go_keep); replace z1_3 : w1.cell? ⟨w.heap.size + 1, 3, none⟩ = some (.float .f64 ny2) := keep hb (by first | exact z1_3 | go_keep); replace z1_4 : w1.cell? ⟨w.heap.size + 1, 4, none⟩ = some (.float .f64 ht2) := keep hb (by first | exact z1_4 | go_keep); replace B0 := bl_trans B0 hb; clear hb hA) | ((with_reducible refine (hN _).mono ?_); rintro e w2 ⟨rfl, hb⟩; replace z0_0 : w2.cell? ⟨w.heap.size, 0, none⟩ = some (.float .f64 hx1) := keep hb (by first | exact z0_0 | go_keep); replace z0_1 : w2.cell? ⟨w.heap.size, 1, none⟩ = some (.float .f64 hy1) := keep hb (by first | exact z0_1 | go_keep); replace z0_2 : w2.cell? ⟨w.heap.size, 2, none⟩ = some (.float .f64 nx1) := keep hb (by first | exact z0_2 | go_keep); replace z0_3 : w2.cell? ⟨w.heap.size, 3, none⟩ = some (.float .f64 ny1) := keep hb (by first | exact z0_3 | go_keep); replace z0_4 : w2.cell? ⟨w.heap.size, 4, none⟩ = some (.float .f64 ht1) := keep hb (by first | exact z0_4 | go_keep); replace z1_0 : w2.cell? ⟨w.heap.size + 1, 0, none⟩ = some (.float .f64 hx2) := keep hb (by first | exact z1_0 | go_keep); replace z1_1 : w2.cell? ⟨w.heap.size + 1, 1, none⟩ = some (.float .f64 hy2) := keep hb (by first | exact z1_1 | go_keep); replace z1_2 : w2.cell? ⟨w.heap.size + 1, 2, none⟩ = some (.float .f64 nx2) := keep hb (by first | exact z1_2 | go_keep); replace z1_3 : w2.cell? ⟨w.heap.size + 1, 3, none⟩ = some (.float .f64 ny2) := keep hb (by first | exact z1_3 | go_keep); replace z1_4 : w2.cell? ⟨w.heap.size + 1, 4, none⟩ = some (.float .f64 ht2) := keep hb (by first | exact z1_4 | go_keep); replace B0 := bl_trans B0 hb; clear hb)) | (go_at_call 62; (with_reducible refine (hI _).mono ?_); rintro e w3 ⟨rfl, hW⟩; rw [hW]; clear hW))
  go_ret
  exact ⟨by first | rfl | simp, B0⟩
set_option maxRecDepth 100000 in
theorem same12_n {hx1 hy1 nx1 ny1 ht1 hx2 hy2 nx2 ny2 ht2 : Nat} {X : Ht} (w : World) (h : isH hx1 hy1 nx1 ny1 ht1 X) (g : isH hx2 hy2 nx2 ny2 ht2 X) (b : Bool) (er : Int) : Calls Tryz.prog 8 #[.agg #[.float .f64 hx1, .float .f64 hy1, .float .f64 nx1, .float .f64 ny1, .float .f64 ht1], .bool b, .int .i64 er, .agg #[.float .f64 hx2, .float .f64 hy2, .float .f64 nx2, .float .f64 ny2, .float .f64 ht2], .bool b, .int .i64 er] w fun e w' => e = .returned (.bool true) ∧ Bel w w' := by
  have z0_0 : (w.alloc (.cells #[.float .f64 hx1, .float .f64 hy1, .float .f64 nx1, .float .f64 ny1, .float .f64 ht1] 28)).cell? ⟨w.heap.size, 0, none⟩ = some (.float .f64 hx1) := by rw [World.cell?_alloc_new]; rfl
  replace z0_0 := up_alloc (o := .cells #[.float .f64 hx2, .float .f64 hy2, .float .f64 nx2, .float .f64 ny2, .float .f64 ht2] 28) z0_0
  have z0_1 : (w.alloc (.cells #[.float .f64 hx1, .float .f64 hy1, .float .f64 nx1, .float .f64 ny1, .float .f64 ht1] 28)).cell? ⟨w.heap.size, 1, none⟩ = some (.float .f64 hy1) := by rw [World.cell?_alloc_new]; rfl
  replace z0_1 := up_alloc (o := .cells #[.float .f64 hx2, .float .f64 hy2, .float .f64 nx2, .float .f64 ny2, .float .f64 ht2] 28) z0_1
  have z0_2 : (w.alloc (.cells #[.float .f64 hx1, .float .f64 hy1, .float .f64 nx1, .float .f64 ny1, .float .f64 ht1] 28)).cell? ⟨w.heap.size, 2, none⟩ = some (.float .f64 nx1) := by rw [World.cell?_alloc_new]; rfl
  replace z0_2 := up_alloc (o := .cells #[.float .f64 hx2, .float .f64 hy2, .float .f64 nx2, .float .f64 ny2, .float .f64 ht2] 28) z0_2
  have z0_3 : (w.alloc (.cells #[.float .f64 hx1, .float .f64 hy1, .float .f64 nx1, .float .f64 ny1, .float .f64 ht1] 28)).cell? ⟨w.heap.size, 3, none⟩ = some (.float .f64 ny1) := by rw [World.cell?_alloc_new]; rfl
  replace z0_3 := up_alloc (o := .cells #[.float .f64 hx2, .float .f64 hy2, .float .f64 nx2, .float .f64 ny2, .float .f64 ht2] 28) z0_3
  have z0_4 : (w.alloc (.cells #[.float .f64 hx1, .float .f64 hy1, .float .f64 nx1, .float .f64 ny1, .float .f64 ht1] 28)).cell? ⟨w.heap.size, 4, none⟩ = some (.float .f64 ht1) := by rw [World.cell?_alloc_new]; rfl
  replace z0_4 := up_alloc (o := .cells #[.float .f64 hx2, .float .f64 hy2, .float .f64 nx2, .float .f64 ny2, .float .f64 ht2] 28) z0_4
  have z1_0 : ((w.alloc (.cells #[.float .f64 hx1, .float .f64 hy1, .float .f64 nx1, .float .f64 ny1, .float .f64 ht1] 28)).alloc (.cells #[.float .f64 hx2, .float .f64 hy2, .float .f64 nx2, .float .f64 ny2, .float .f64 ht2] 28)).cell? ⟨w.heap.size + 1, 0, none⟩ = some (.float .f64 hx2) := by rw [← (show (w.alloc (.cells #[.float .f64 hx1, .float .f64 hy1, .float .f64 nx1, .float .f64 ny1, .float .f64 ht1] 28)).heap.size = w.heap.size + 1 by simp only [World.size_alloc]), World.cell?_alloc_new]; rfl
  have z1_1 : ((w.alloc (.cells #[.float .f64 hx1, .float .f64 hy1, .float .f64 nx1, .float .f64 ny1, .float .f64 ht1] 28)).alloc (.cells #[.float .f64 hx2, .float .f64 hy2, .float .f64 nx2, .float .f64 ny2, .float .f64 ht2] 28)).cell? ⟨w.heap.size + 1, 1, none⟩ = some (.float .f64 hy2) := by rw [← (show (w.alloc (.cells #[.float .f64 hx1, .float .f64 hy1, .float .f64 nx1, .float .f64 ny1, .float .f64 ht1] 28)).heap.size = w.heap.size + 1 by simp only [World.size_alloc]), World.cell?_alloc_new]; rfl
  have z1_2 : ((w.alloc (.cells #[.float .f64 hx1, .float .f64 hy1, .float .f64 nx1, .float .f64 ny1, .float .f64 ht1] 28)).alloc (.cells #[.float .f64 hx2, .float .f64 hy2, .float .f64 nx2, .float .f64 ny2, .float .f64 ht2] 28)).cell? ⟨w.heap.size + 1, 2, none⟩ = some (.float .f64 nx2) := by rw [← (show (w.alloc (.cells #[.float .f64 hx1, .float .f64 hy1, .float .f64 nx1, .float .f64 ny1, .float .f64 ht1] 28)).heap.size = w.heap.size + 1 by simp only [World.size_alloc]), World.cell?_alloc_new]; rfl
  have z1_3 : ((w.alloc (.cells #[.float .f64 hx1, .float .f64 hy1, .float .f64 nx1, .float .f64 ny1, .float .f64 ht1] 28)).alloc (.cells #[.float .f64 hx2, .float .f64 hy2, .float .f64 nx2, .float .f64 ny2, .float .f64 ht2] 28)).cell? ⟨w.heap.size + 1, 3, none⟩ = some (.float .f64 ny2) := by rw [← (show (w.alloc (.cells #[.float .f64 hx1, .float .f64 hy1, .float .f64 nx1, .float .f64 ny1, .float .f64 ht1] 28)).heap.size = w.heap.size + 1 by simp only [World.size_alloc]), World.cell?_alloc_new]; rfl
  have z1_4 : ((w.alloc (.cells #[.float .f64 hx1, .float .f64 hy1, .float .f64 nx1, .float .f64 ny1, .float .f64 ht1] 28)).alloc (.cells #[.float .f64 hx2, .float .f64 hy2, .float .f64 nx2, .float .f64 ny2, .float .f64 ht2] 28)).cell? ⟨w.heap.size + 1, 4, none⟩ = some (.float .f64 ht2) := by rw [← (show (w.alloc (.cells #[.float .f64 hx1, .float .f64 hy1, .float .f64 nx1, .float .f64 ny1, .float .f64 ht1] 28)).heap.size = w.heap.size + 1 by simp only [World.size_alloc]), World.cell?_alloc_new]; rfl
  have B0 : Bel w ((w.alloc (.cells #[.float .f64 hx1, .float .f64 hy1, .float .f64 nx1, .float .f64 ny1, .float .f64 ht1] 28)).alloc (.cells #[.float .f64 hx2, .float .f64 hy2, .float .f64 nx2, .float .f64 ny2, .float .f64 ht2] 28)) := bl_alloc (bl_alloc (bl_refl w) _ _) _ _
  go_enter Tryz.func8, Tryz.ntmps8
  go_wp2_with (first | (go_at_call 37; (with_reducible refine (hsame_n _ h g).mono ?_); rintro e w1 ⟨rfl, hb⟩; replace B0 := bl_trans B0 hb; clear hb))
  go_ret
  exact ⟨by first | rfl | simp, B0⟩
set_option maxRecDepth 100000 in
set_option maxHeartbeats 2000000 in
theorem sameV_n (g c b off cap n : Nat) (xs ys : Nat → Nat) (w : World) (sG : Sl w g 0 n xs ys) (sB : Sl w b off n xs ys) (hml : n ≤ maxLen) : Calls Tryz.prog 13 #[.slice (some ⟨g, 0, none⟩) n c, .slice (some ⟨b, off, none⟩) n cap] w fun e w' => e = .returned (.bool true) ∧ Bel w w' := by
  unfold maxLen at hml
  go_enter Tryz.func13, Tryz.ntmps13
  go_wp2
  go_loopg [5] n (fun kx s5 wr => ∃ k : Nat, s5 = .int .i64 k ∧ k ≤ n ∧ n - k ≤ kx ∧ Bel w wr)
  case atStart => exact ⟨0, rfl, by omega, by omega, bl_refl _⟩
  case round =>
    obtain ⟨k, rfl, hk, hkx, hW⟩ := hrel
    by_cases hlt : k < n
    · have hltz : (k : Int) < (n : Int) := by omega
      have hwk : IntKind.wrap .i64 ((k : Int) + 1) = (k : Int) + 1 := by rw [IntKind.wrap_i64]; omega
      obtain ⟨x0, x1⟩ := (sG.bel hW) k hlt
      simp only [Nat.zero_add] at x0 x1
      obtain ⟨y0, y1⟩ := (sB.bel hW) k hlt
      have hS := fun W => rSame_any (xs k) (ys k) (xs k) (ys k) W
      simp only [smK_self, Bool.and_self] at hS
      haveI := belBy_some wr
      have v0 := belBy_cell x0
      have v1 := belBy_cell x1
      have v2 := belBy_cell y0
      have v3 := belBy_cell y1
      go_wp2
      refine wp_region_quiet_bel (by kernel_rfl) (by kernel_rfl) ?_
      repeat (go_big_quiet_step (first | (go_at_call 51; exact calls_bel (hS _))))
      refine wpQuiet_nil ?_
      rintro _ ⟨nq, rfl⟩
      have hb2 := nq.h
      go_wp2
      go_roundg (n - (k + 1))
      case measure => omega
      case rel => exact ⟨k + 1, by go_num, by omega, Nat.le_refl _, bl_trans hW hb2⟩
    · have hltz : ¬ (k : Int) < (n : Int) := by omega
      go_wp2
      go_ret
      exact ⟨rfl, hW⟩

end Go.Proofs.YtdeooadeohojcaaGreat
