/-
  What each function of package poly answers, and what the reference of its chapter answers: one contract a function, for every float: the answer stands in the relation of its formula to what was given; of the memory that was there nothing has turned.
-/
import Derived.Test.YtiamgphpcjokmabVec
import Derived.Test.YtiamgphpcjokmabLa
import Derived.Below
import Derived.OwnWalk
import Derived.Laws.AppendOwn
import Derived.Laws.AppendOwnNone
import Derived.Laws.StructEq
import Derived.WalkKit
import Derived.WalkLawsBesides
import Derived.WalkSpells
import Derived.ProofKit
import Derived.OpenShut
import Derived.Deep.RegionHeld3
namespace Go.Proofs.Ytiamgphpcjokmab
open Go.ChangeShapes Go.WideShapes Go.ChangeAt Go.RowKit
set_option linter.unusedVariables false
set_option linter.unusedSimpArgs false


set_option maxRecDepth 100000 in
set_option maxHeartbeats 2000000 in
theorem kept7 (g c : Nat) (V : Value) (n : Nat) (xs ys : Nat → Nat) (k : Int) (r : Nat) (w : World) (hL : Len1 w g c n xs ys) (h : AnyS w V n xs ys) : Calls Try.prog 19 #[.slice (some ⟨g, 0, none⟩) (n + 1) c, .agg #[.int .u8 k, .float .f64 r, V]] w fun e w' => e = .returned (.bool true) ∧ Bel w w' := by
  obtain ⟨a, cap, rfl, h2, h3, h4, h5, h6⟩ := h
  obtain ⟨l1, l2, l3, l4, l5⟩ := hL
  have q0 := cmp_eq .f64
  have q1 := fun (x y : Nat) (w : World) => run_equalIn_float Try.prog w 22 .f64 x y Try.underlying22
  have q3 := fun (d x y : Nat) (w : World) => run_equalIn_fl Try.prog w d 22 .f64 x y Try.underlying22
  have q4 := fun (x y : Nat) (w : World) => run_equalIn_fl Try.prog w 9997 22 .f64 x y Try.underlying22
  have e77 : eqK .f64 4635118810238550016 4635118810238550016 = true := by decide +kernel
  have e00 : eqK .f64 0 0 = true := by decide +kernel
  have c1 : (n : Int) ≤ (c : Int) := by omega
  have i5 : (n : Int) < (n : Int) + 1 := by omega
  rcases h6 with rfl | ⟨h0, b, off, rfl, hs⟩
  · simp only [Nat.zero_mul, Nat.zero_add] at l4 l5
    have z0_0 : (w.alloc (.cells #[.int .u8 k, .float .f64 r, .slice a 0 cap] 25)).cell? ⟨w.heap.size, 0, none⟩ = some (.int .u8 k) := by rw [World.cell?_alloc_new]; rfl
    have z0_1 : (w.alloc (.cells #[.int .u8 k, .float .f64 r, .slice a 0 cap] 25)).cell? ⟨w.heap.size, 1, none⟩ = some (.float .f64 r) := by rw [World.cell?_alloc_new]; rfl
    have z0_2 : (w.alloc (.cells #[.int .u8 k, .float .f64 r, .slice a 0 cap] 25)).cell? ⟨w.heap.size, 2, none⟩ = some (.slice a 0 cap) := by rw [World.cell?_alloc_new]; rfl
    have B0 : Bel w (w.alloc (.cells #[.int .u8 k, .float .f64 r, .slice a 0 cap] 25)) := bl_alloc (bl_refl w) _ _
    replace l4 := up_alloc (o := .cells #[.int .u8 k, .float .f64 r, .slice a 0 cap] 25) l4
    replace l5 := up_alloc (o := .cells #[.int .u8 k, .float .f64 r, .slice a 0 cap] 25) l5
    haveI := belBy_some (w.alloc (.cells #[.int .u8 k, .float .f64 r, .slice a 0 cap] 25))
    have y0 := belBy_cell z0_2
    have y1 := belBy_cell l4
    have y2 := belBy_cell l5
    have hbl := World.block_lt_of_cell? _ _ l4
    go_enter Try.func19, Try.ntmps19
    go_wp2
    refine wp_region_quiet_bel (by kernel_rfl) (by kernel_rfl) ?_
    repeat (go_big_quiet_step (first | (go_at_call 57; exact calls_bel (sameVecs_nil _ _ _ _ _))))
    refine wpQuiet_nil ?_
    rintro _ ⟨nq, rfl⟩
    go_wp2
    go_ret
    exact ⟨rfl, bl_trans B0 nq.h⟩
  · have lz := l3
    have hz := hs
    have z0_0 : (w.alloc (.cells #[.int .u8 k, .float .f64 r, .slice (some ⟨b, off, none⟩) n cap] 25)).cell? ⟨w.heap.size, 0, none⟩ = some (.int .u8 k) := by rw [World.cell?_alloc_new]; rfl
    have z0_1 : (w.alloc (.cells #[.int .u8 k, .float .f64 r, .slice (some ⟨b, off, none⟩) n cap] 25)).cell? ⟨w.heap.size, 1, none⟩ = some (.float .f64 r) := by rw [World.cell?_alloc_new]; rfl
    have z0_2 : (w.alloc (.cells #[.int .u8 k, .float .f64 r, .slice (some ⟨b, off, none⟩) n cap] 25)).cell? ⟨w.heap.size, 2, none⟩ = some (.slice (some ⟨b, off, none⟩) n cap) := by rw [World.cell?_alloc_new]; rfl
    have B0 : Bel w (w.alloc (.cells #[.int .u8 k, .float .f64 r, .slice (some ⟨b, off, none⟩) n cap] 25)) := bl_alloc (bl_refl w) _ _
    replace l4 := up_alloc (o := .cells #[.int .u8 k, .float .f64 r, .slice (some ⟨b, off, none⟩) n cap] 25) l4
    replace l5 := up_alloc (o := .cells #[.int .u8 k, .float .f64 r, .slice (some ⟨b, off, none⟩) n cap] 25) l5
    haveI := belBy_some (w.alloc (.cells #[.int .u8 k, .float .f64 r, .slice (some ⟨b, off, none⟩) n cap] 25))
    have y0 := belBy_cell z0_2
    have y1 := belBy_cell l4
    have y2 := belBy_cell l5
    have hbl := World.block_lt_of_cell? _ _ l4
    go_enter Try.func19, Try.ntmps19
    go_wp2
    refine wp_region_quiet_bel (by kernel_rfl) (by kernel_rfl) ?_
    repeat (go_big_quiet_step (first | (go_at_call 57; exact calls_bel (sameVecs_some g c b off cap n xs ys _ (lz.bel (bl_trans B0 (BelBy.h _))) (hz.bel (bl_trans B0 (BelBy.h _))) h5 h3 (by omega) h2 h0))))
    refine wpQuiet_nil ?_
    rintro _ ⟨nq, rfl⟩
    go_wp2
    go_ret
    exact ⟨rfl, bl_trans B0 nq.h⟩

end Go.Proofs.Ytiamgphpcjokmab
