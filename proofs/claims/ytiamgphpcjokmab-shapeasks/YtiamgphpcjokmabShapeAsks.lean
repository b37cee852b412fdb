/-
  'tumblelaw07.ShapeAsks' is true of all rows of points.
-/
import Derived.Test.YtiamgphpcjokmabRows
import Derived.Test.YtiamgphpcjokmabLd
import Derived.Test.YtiamgphpcjokmabLb
import Derived.Test.YtiamgphpcjokmabLc
import Derived.Test.YtiamgphpcjokmabRx7
import Derived.Test.YtiamgphpcjokmabRv
import Derived.Test.YtiamgphpcjokmabRy
import Derived.Test.YtiamgphpcjokmabRz
import Derived.WalkKit
import Derived.ProofKit
import Derived.OpenShut
import Derived.WalkLawsBesides
import Derived.WalkSpells
import Derived.Lib.SmallJoins
import Derived.Laws.Cover2
import Derived.Laws.AppendOwn
import Derived.Laws.OwnMore
import Derived.Laws.AppendOwnNone
import Derived.Deep.RegionHeld3
import Derived.Deep.RegionWith
import Derived.Deep.SlicePairs
import Derived.SizedLaws
import Derived.Below
import Derived.Laws.StructEq
namespace Go.Proofs.Ytiamgphpcjokmab.shapeAsks
open Go.ChangeShapes Go.WideShapes Go.ChangeAt Go.RowKit Go.Joins
set_option linter.unusedVariables false
set_option linter.unusedSimpArgs false

theorem own : ownKnob Try.prog.godebug = none := by kernel_rfl
theorem laidOut : laidOutB Try.prog = true := by kernel_rfl
theorem wf_f64 {x : Nat} (h : (Lit.float .f64 x).wf = true) : okK .f64 x := by
  rw [okK64]; simpa [Lit.wf] using h
theorem trod_fl {H : Type} {enc : TypeId × Value → H} {P : Program} {w : World} {base fuel : Nat} {spare : Nat → Bool} {held : Bool} {t : TypeId} {cs : List Value} {x : DataW H × List MemPlace} {k : FloatKind} (ht : P.underlying t = some (.float k)) (h : DataW.trod enc P w base spare held fuel t cs = some x) : ∃ z, cs = [.float k z] ∧ x = (.lit (.float k z), []) ∧ (Lit.float k z).wf = true := by
  cases fuel with
  | zero => simp [DataW.trod] at h
  | succ n =>
    unfold DataW.trod at h
    rw [ht] at h
    split at h <;> simp_all

theorem cellsH : Try.prog.cellsOf 25 = 3 := by kernel_rfl
theorem sized_agg3 {H : Type} {P : Program} {ts : List TypeId} {ds : List (DataW H)} (h : (DataW.weightsEach P ts ds).all (· ≤ reachBytes) = true) {j : Nat} {t e : TypeId} {f0 f1 f2 : Field} {d0 d1 : DataW H} {elems spare : List (DataW H)} (ht : ts[j]? = some t) (hd : ds[j]? = some (.agg [d0, d1, .slice elems spare])) (hu : P.underlying t = some (.struct #[f0, f1, f2])) (hu2 : P.underlying f2.type = some (.slice e)) :
    (elems.length + spare.length) * P.bytesOf e ≤ reachBytes := by
  have := List.all_eq_true.1 h _ (DataW.weights_mem_each ht hd ((elems.length + spare.length) * P.bytesOf e) (by simp [DataW.weights, DataW.weightsEach, hu, hu2]))
  simpa using this
theorem cellsV : Try.prog.cellsOf 27 = 2 := by kernel_rfl
theorem new3 (W : World) (t : TypeId) (x y z : Value) : (W.alloc (.cells #[x, y, z] t)).cell? ⟨W.heap.size, 0, none⟩ = some x ∧ (W.alloc (.cells #[x, y, z] t)).cell? ⟨W.heap.size, 1, none⟩ = some y ∧ (W.alloc (.cells #[x, y, z] t)).cell? ⟨W.heap.size, 2, none⟩ = some z :=
  ⟨by rw [World.cell?_alloc_new]; rfl, by rw [World.cell?_alloc_new]; rfl, by rw [World.cell?_alloc_new]; rfl⟩
set_option maxRecDepth 100000 in
set_option maxHeartbeats 8000000 in
theorem walk_any (V : Value) (n : Nat) (xs ys : Nat → Nat) (k : Int) (r : Nat) (hr : okK .f64 r) (p q : Nat) (op : okK .f64 p) (oq : okK .f64 q) (u v : Nat) (ou : okK .f64 u) (ov : okK .f64 v) (w : World) (hs : AnyS w V n xs ys) : Calls Try.prog 3 #[.agg #[.int .u8 k, .float .f64 r, V], .agg #[.float .f64 p, .float .f64 q], .agg #[.float .f64 u, .float .f64 v]] w fun e w' => e = .returned (.bool true) ∧ Bel w w' := by
  obtain ⟨a, cap, rfl, _, _, hrng, o, _⟩ := id hs
  obtain ⟨b0, b1, b2, b3, hB4, o0, o1, o2, o3⟩ := boxA_ok (k := k) o hr
  obtain ⟨ofx, ofy⟩ := far_ok (k := k) o hr ou ov
  have ore := rea_ok (k := k) o hr op oq
  obtain ⟨fx, hfx⟩ : ∃ x, farX k r xs ys n u v = x := ⟨_, rfl⟩
  obtain ⟨fy, hfy⟩ : ∃ x, farY k r xs ys n u v = x := ⟨_, rfl⟩
  obtain ⟨re, hre⟩ : ∃ x, reaK k r xs ys n p q = x := ⟨_, rfl⟩
  obtain ⟨hb_, hH⟩ : ∃ x, hasA k r xs ys n p q = x := ⟨_, rfl⟩
  rw [hfx] at ofx
  rw [hfy] at ofy
  rw [hre] at ore
  have sme := sm_self re ore
  have z0_0 : (w.alloc (.cells #[.int .u8 k, .float .f64 r, .slice a n cap] 25)).cell? ⟨w.heap.size, 0, none⟩ = some (.int .u8 k) := by rw [World.cell?_alloc_new]; rfl
  replace z0_0 := up_alloc (o := .cells #[.float .f64 p, .float .f64 q] 27) z0_0
  replace z0_0 := up_alloc (o := .cells #[.float .f64 u, .float .f64 v] 27) z0_0
  have z0_1 : (w.alloc (.cells #[.int .u8 k, .float .f64 r, .slice a n cap] 25)).cell? ⟨w.heap.size, 1, none⟩ = some (.float .f64 r) := by rw [World.cell?_alloc_new]; rfl
  replace z0_1 := up_alloc (o := .cells #[.float .f64 p, .float .f64 q] 27) z0_1
  replace z0_1 := up_alloc (o := .cells #[.float .f64 u, .float .f64 v] 27) z0_1
  have z0_2 : (w.alloc (.cells #[.int .u8 k, .float .f64 r, .slice a n cap] 25)).cell? ⟨w.heap.size, 2, none⟩ = some (.slice a n cap) := by rw [World.cell?_alloc_new]; rfl
  replace z0_2 := up_alloc (o := .cells #[.float .f64 p, .float .f64 q] 27) z0_2
  replace z0_2 := up_alloc (o := .cells #[.float .f64 u, .float .f64 v] 27) z0_2
  have z1_0 : ((w.alloc (.cells #[.int .u8 k, .float .f64 r, .slice a n cap] 25)).alloc (.cells #[.float .f64 p, .float .f64 q] 27)).cell? ⟨w.heap.size + 1, 0, none⟩ = some (.float .f64 p) := by rw [← (show (w.alloc (.cells #[.int .u8 k, .float .f64 r, .slice a n cap] 25)).heap.size = w.heap.size + 1 by simp only [World.size_alloc]), World.cell?_alloc_new]; rfl
  replace z1_0 := up_alloc (o := .cells #[.float .f64 u, .float .f64 v] 27) z1_0
  have z1_1 : ((w.alloc (.cells #[.int .u8 k, .float .f64 r, .slice a n cap] 25)).alloc (.cells #[.float .f64 p, .float .f64 q] 27)).cell? ⟨w.heap.size + 1, 1, none⟩ = some (.float .f64 q) := by rw [← (show (w.alloc (.cells #[.int .u8 k, .float .f64 r, .slice a n cap] 25)).heap.size = w.heap.size + 1 by simp only [World.size_alloc]), World.cell?_alloc_new]; rfl
  replace z1_1 := up_alloc (o := .cells #[.float .f64 u, .float .f64 v] 27) z1_1
  have z2_0 : (((w.alloc (.cells #[.int .u8 k, .float .f64 r, .slice a n cap] 25)).alloc (.cells #[.float .f64 p, .float .f64 q] 27)).alloc (.cells #[.float .f64 u, .float .f64 v] 27)).cell? ⟨w.heap.size + 1 + 1, 0, none⟩ = some (.float .f64 u) := by rw [← (show ((w.alloc (.cells #[.int .u8 k, .float .f64 r, .slice a n cap] 25)).alloc (.cells #[.float .f64 p, .float .f64 q] 27)).heap.size = w.heap.size + 1 + 1 by simp only [World.size_alloc]), World.cell?_alloc_new]; rfl
  have z2_1 : (((w.alloc (.cells #[.int .u8 k, .float .f64 r, .slice a n cap] 25)).alloc (.cells #[.float .f64 p, .float .f64 q] 27)).alloc (.cells #[.float .f64 u, .float .f64 v] 27)).cell? ⟨w.heap.size + 1 + 1, 1, none⟩ = some (.float .f64 v) := by rw [← (show ((w.alloc (.cells #[.int .u8 k, .float .f64 r, .slice a n cap] 25)).alloc (.cells #[.float .f64 p, .float .f64 q] 27)).heap.size = w.heap.size + 1 + 1 by simp only [World.size_alloc]), World.cell?_alloc_new]; rfl
  have B0 : Bel w (((w.alloc (.cells #[.int .u8 k, .float .f64 r, .slice a n cap] 25)).alloc (.cells #[.float .f64 p, .float .f64 q] 27)).alloc (.cells #[.float .f64 u, .float .f64 v] 27)) := bl_alloc (bl_alloc (bl_alloc (bl_refl w) _ _) _ _) _ _
  have S0 := z0_0
  have S1 := z0_1
  have S2 := z0_2
  have P0 := z1_0
  have P1 := z1_1
  have Q0 := z2_0
  have Q1 := z2_1
  clear z0_0 z0_1 z0_2 z1_0 z1_1 z2_0 z2_1
  replace hs := hs.bel B0
  have Bc := B0
  clear B0
  go_enter Try.func3, Try.ntmps3
  go_wp2_with (first | (go_at_call 7; refine (lent7 _ n xs ys k r _ hs).mono ?_; rintro e w1 ⟨g, c, rfl, hg, hL, hb⟩; replace S0 := keep hb S0; replace S1 := keep hb S1; replace S2 := keep hb S2; replace P0 := keep hb P0; replace P1 := keep hb P1; replace Q0 := keep hb Q0; replace Q1 := keep hb Q1; replace hs := hs.bel hb; replace Bc := bl_trans Bc hb; replace S0 := up_alloc (o := .cells #[.int .u8 k, .float .f64 r, .slice (some ⟨g, 0, none⟩) n c] 25) S0; replace S1 := up_alloc (o := .cells #[.int .u8 k, .float .f64 r, .slice (some ⟨g, 0, none⟩) n c] 25) S1; replace S2 := up_alloc (o := .cells #[.int .u8 k, .float .f64 r, .slice (some ⟨g, 0, none⟩) n c] 25) S2; replace P0 := up_alloc (o := .cells #[.int .u8 k, .float .f64 r, .slice (some ⟨g, 0, none⟩) n c] 25) P0; replace P1 := up_alloc (o := .cells #[.int .u8 k, .float .f64 r, .slice (some ⟨g, 0, none⟩) n c] 25) P1; replace Q0 := up_alloc (o := .cells #[.int .u8 k, .float .f64 r, .slice (some ⟨g, 0, none⟩) n c] 25) Q0; replace Q1 := up_alloc (o := .cells #[.int .u8 k, .float .f64 r, .slice (some ⟨g, 0, none⟩) n c] 25) Q1; replace hs := hs.bel (bl_alloc (bl_refl _) #[.int .u8 k, .float .f64 r, .slice (some ⟨g, 0, none⟩) n c] 25); replace hL := hL.bel (bl_alloc (bl_refl _) #[.int .u8 k, .float .f64 r, .slice (some ⟨g, 0, none⟩) n c] 25); replace Bc := bl_alloc Bc #[.int .u8 k, .float .f64 r, .slice (some ⟨g, 0, none⟩) n c] 25; obtain ⟨X0, X1, X2⟩ := new3 w1 25 (.int .u8 k) (.float .f64 r) (.slice (some ⟨g, 0, none⟩) n c)) | (go_at_call 8; refine (sBox_any _ n xs ys k r _ (hL.any o hrng) hr).mono ?_; rintro e w2 ⟨rfl, hb⟩; replace S0 := keep hb S0; replace S1 := keep hb S1; replace S2 := keep hb S2; replace P0 := keep hb P0; replace P1 := keep hb P1; replace Q0 := keep hb Q0; replace Q1 := keep hb Q1; replace X0 := keep hb X0; replace X1 := keep hb X1; replace X2 := keep hb X2; replace hs := hs.bel hb; replace Bc := bl_trans Bc hb; replace hL := hL.bel hb; rw [hB4]; replace S0 := up_alloc (o := .cells #[.float .f64 b0, .float .f64 b1, .float .f64 b2, .float .f64 b3] 31) S0; replace S1 := up_alloc (o := .cells #[.float .f64 b0, .float .f64 b1, .float .f64 b2, .float .f64 b3] 31) S1; replace S2 := up_alloc (o := .cells #[.float .f64 b0, .float .f64 b1, .float .f64 b2, .float .f64 b3] 31) S2; replace P0 := up_alloc (o := .cells #[.float .f64 b0, .float .f64 b1, .float .f64 b2, .float .f64 b3] 31) P0; replace P1 := up_alloc (o := .cells #[.float .f64 b0, .float .f64 b1, .float .f64 b2, .float .f64 b3] 31) P1; replace Q0 := up_alloc (o := .cells #[.float .f64 b0, .float .f64 b1, .float .f64 b2, .float .f64 b3] 31) Q0; replace Q1 := up_alloc (o := .cells #[.float .f64 b0, .float .f64 b1, .float .f64 b2, .float .f64 b3] 31) Q1; replace X0 := up_alloc (o := .cells #[.float .f64 b0, .float .f64 b1, .float .f64 b2, .float .f64 b3] 31) X0; replace X1 := up_alloc (o := .cells #[.float .f64 b0, .float .f64 b1, .float .f64 b2, .float .f64 b3] 31) X1; replace X2 := up_alloc (o := .cells #[.float .f64 b0, .float .f64 b1, .float .f64 b2, .float .f64 b3] 31) X2; replace hs := hs.bel (bl_alloc (bl_refl _) #[.float .f64 b0, .float .f64 b1, .float .f64 b2, .float .f64 b3] 31); replace hL := hL.bel (bl_alloc (bl_refl _) #[.float .f64 b0, .float .f64 b1, .float .f64 b2, .float .f64 b3] 31); replace Bc := bl_alloc Bc #[.float .f64 b0, .float .f64 b1, .float .f64 b2, .float .f64 b3] 31; obtain ⟨A0, A1, A2, A3⟩ := new4 w2 31 (.float .f64 b0) (.float .f64 b1) (.float .f64 b2) (.float .f64 b3)) | (go_at_call 9; refine (rBox7 _ n xs ys k r _ hs hr).mono ?_; rintro e w3 ⟨rfl, hb⟩; replace S0 := keep hb S0; replace S1 := keep hb S1; replace S2 := keep hb S2; replace P0 := keep hb P0; replace P1 := keep hb P1; replace Q0 := keep hb Q0; replace Q1 := keep hb Q1; replace X0 := keep hb X0; replace X1 := keep hb X1; replace X2 := keep hb X2; replace A0 := keep hb A0; replace A1 := keep hb A1; replace A2 := keep hb A2; replace A3 := keep hb A3; replace hs := hs.bel hb; replace Bc := bl_trans Bc hb; replace hL := hL.bel hb; rw [hB4]; replace S0 := up_alloc (o := .cells #[.float .f64 b0, .float .f64 b1, .float .f64 b2, .float .f64 b3] 31) S0; replace S1 := up_alloc (o := .cells #[.float .f64 b0, .float .f64 b1, .float .f64 b2, .float .f64 b3] 31) S1; replace S2 := up_alloc (o := .cells #[.float .f64 b0, .float .f64 b1, .float .f64 b2, .float .f64 b3] 31) S2; replace P0 := up_alloc (o := .cells #[.float .f64 b0, .float .f64 b1, .float .f64 b2, .float .f64 b3] 31) P0; replace P1 := up_alloc (o := .cells #[.float .f64 b0, .float .f64 b1, .float .f64 b2, .float .f64 b3] 31) P1; replace Q0 := up_alloc (o := .cells #[.float .f64 b0, .float .f64 b1, .float .f64 b2, .float .f64 b3] 31) Q0; replace Q1 := up_alloc (o := .cells #[.float .f64 b0, .float .f64 b1, .float .f64 b2, .float .f64 b3] 31) Q1; replace X0 := up_alloc (o := .cells #[.float .f64 b0, .float .f64 b1, .float .f64 b2, .float .f64 b3] 31) X0; replace X1 := up_alloc (o := .cells #[.float .f64 b0, .float .f64 b1, .float .f64 b2, .float .f64 b3] 31) X1; replace X2 := up_alloc (o := .cells #[.float .f64 b0, .float .f64 b1, .float .f64 b2, .float .f64 b3] 31) X2; replace A0 := up_alloc (o := .cells #[.float .f64 b0, .float .f64 b1, .float .f64 b2, .float .f64 b3] 31) A0; replace A1 := up_alloc (o := .cells #[.float .f64 b0, .float .f64 b1, .float .f64 b2, .float .f64 b3] 31) A1; replace A2 := up_alloc (o := .cells #[.float .f64 b0, .float .f64 b1, .float .f64 b2, .float .f64 b3] 31) A2; replace A3 := up_alloc (o := .cells #[.float .f64 b0, .float .f64 b1, .float .f64 b2, .float .f64 b3] 31) A3; replace hs := hs.bel (bl_alloc (bl_refl _) #[.float .f64 b0, .float .f64 b1, .float .f64 b2, .float .f64 b3] 31); replace hL := hL.bel (bl_alloc (bl_refl _) #[.float .f64 b0, .float .f64 b1, .float .f64 b2, .float .f64 b3] 31); replace Bc := bl_alloc Bc #[.float .f64 b0, .float .f64 b1, .float .f64 b2, .float .f64 b3] 31; obtain ⟨C0, C1, C2, C3⟩ := new4 w3 31 (.float .f64 b0) (.float .f64 b1) (.float .f64 b2) (.float .f64 b3)) | (go_at_call 10; refine (sHas_any _ n xs ys k r _ (hL.any o hrng) hr p q op oq).mono ?_; rintro e w4 ⟨rfl, hb⟩; replace S0 := keep hb S0; replace S1 := keep hb S1; replace S2 := keep hb S2; replace P0 := keep hb P0; replace P1 := keep hb P1; replace Q0 := keep hb Q0; replace Q1 := keep hb Q1; replace X0 := keep hb X0; replace X1 := keep hb X1; replace X2 := keep hb X2; replace A0 := keep hb A0; replace A1 := keep hb A1; replace A2 := keep hb A2; replace A3 := keep hb A3; replace C0 := keep hb C0; replace C1 := keep hb C1; replace C2 := keep hb C2; replace C3 := keep hb C3; replace hs := hs.bel hb; replace Bc := bl_trans Bc hb; replace hL := hL.bel hb; rw [hH]) | (go_at_call 11; refine (rHas7 _ n xs ys k r _ hs hr p q op oq).mono ?_; rintro e w5 ⟨rfl, hb⟩; replace S0 := keep hb S0; replace S1 := keep hb S1; replace S2 := keep hb S2; replace P0 := keep hb P0; replace P1 := keep hb P1; replace Q0 := keep hb Q0; replace Q1 := keep hb Q1; replace X0 := keep hb X0; replace X1 := keep hb X1; replace X2 := keep hb X2; replace A0 := keep hb A0; replace A1 := keep hb A1; replace A2 := keep hb A2; replace A3 := keep hb A3; replace C0 := keep hb C0; replace C1 := keep hb C1; replace C2 := keep hb C2; replace C3 := keep hb C3; replace hs := hs.bel hb; replace Bc := bl_trans Bc hb; replace hL := hL.bel hb; rw [hH]) | (go_at_call 12; refine (sFar_any _ n xs ys k r _ (hL.any o hrng) hr u v ou ov).mono ?_; rintro e w6 ⟨rfl, hb⟩; replace S0 := keep hb S0; replace S1 := keep hb S1; replace S2 := keep hb S2; replace P0 := keep hb P0; replace P1 := keep hb P1; replace Q0 := keep hb Q0; replace Q1 := keep hb Q1; replace X0 := keep hb X0; replace X1 := keep hb X1; replace X2 := keep hb X2; replace A0 := keep hb A0; replace A1 := keep hb A1; replace A2 := keep hb A2; replace A3 := keep hb A3; replace C0 := keep hb C0; replace C1 := keep hb C1; replace C2 := keep hb C2; replace C3 := keep hb C3; replace hs := hs.bel hb; replace Bc := bl_trans Bc hb; replace hL := hL.bel hb; rw [hfx, hfy]; replace S0 := up_alloc (o := .cells #[.float .f64 fx, .float .f64 fy] 27) S0; replace S1 := up_alloc (o := .cells #[.float .f64 fx, .float .f64 fy] 27) S1; replace S2 := up_alloc (o := .cells #[.float .f64 fx, .float .f64 fy] 27) S2; replace P0 := up_alloc (o := .cells #[.float .f64 fx, .float .f64 fy] 27) P0; replace P1 := up_alloc (o := .cells #[.float .f64 fx, .float .f64 fy] 27) P1; replace Q0 := up_alloc (o := .cells #[.float .f64 fx, .float .f64 fy] 27) Q0; replace Q1 := up_alloc (o := .cells #[.float .f64 fx, .float .f64 fy] 27) Q1; replace X0 := up_alloc (o := .cells #[.float .f64 fx, .float .f64 fy] 27) X0; replace X1 := up_alloc (o := .cells #[.float .f64 fx, .float .f64 fy] 27) X1; replace X2 := up_alloc (o := .cells #[.float .f64 fx, .float .f64 fy] 27) X2; replace A0 := up_alloc (o := .cells #[.float .f64 fx, .float .f64 fy] 27) A0; replace A1 := up_alloc (o := .cells #[.float .f64 fx, .float .f64 fy] 27) A1; replace A2 := up_alloc (o := .cells #[.float .f64 fx, .float .f64 fy] 27) A2; replace A3 := up_alloc (o := .cells #[.float .f64 fx, .float .f64 fy] 27) A3; replace C0 := up_alloc (o := .cells #[.float .f64 fx, .float .f64 fy] 27) C0; replace C1 := up_alloc (o := .cells #[.float .f64 fx, .float .f64 fy] 27) C1; replace C2 := up_alloc (o := .cells #[.float .f64 fx, .float .f64 fy] 27) C2; replace C3 := up_alloc (o := .cells #[.float .f64 fx, .float .f64 fy] 27) C3; replace hs := hs.bel (bl_alloc (bl_refl _) #[.float .f64 fx, .float .f64 fy] 27); replace hL := hL.bel (bl_alloc (bl_refl _) #[.float .f64 fx, .float .f64 fy] 27); replace Bc := bl_alloc Bc #[.float .f64 fx, .float .f64 fy] 27; obtain ⟨I0, I1, _⟩ := new2 w6 27 (.float .f64 fx) (.float .f64 fy)) | (go_at_call 13; refine (rFar7 _ n xs ys k r _ hs hr u v ou ov).mono ?_; rintro e w7 ⟨rfl, hb⟩; replace S0 := keep hb S0; replace S1 := keep hb S1; replace S2 := keep hb S2; replace P0 := keep hb P0; replace P1 := keep hb P1; replace Q0 := keep hb Q0; replace Q1 := keep hb Q1; replace X0 := keep hb X0; replace X1 := keep hb X1; replace X2 := keep hb X2; replace A0 := keep hb A0; replace A1 := keep hb A1; replace A2 := keep hb A2; replace A3 := keep hb A3; replace C0 := keep hb C0; replace C1 := keep hb C1; replace C2 := keep hb C2; replace C3 := keep hb C3; replace I0 := keep hb I0; replace I1 := keep hb I1; replace hs := hs.bel hb; replace Bc := bl_trans Bc hb; replace hL := hL.bel hb; rw [hfx, hfy]; replace S0 := up_alloc (o := .cells #[.float .f64 fx, .float .f64 fy] 27) S0; replace S1 := up_alloc (o := .cells #[.float .f64 fx, .float .f64 fy] 27) S1; replace S2 := up_alloc (o := .cells #[.float .f64 fx, .float .f64 fy] 27) S2; replace P0 := up_alloc (o := .cells #[.float .f64 fx, .float .f64 fy] 27) P0; replace P1 := up_alloc (o := .cells #[.float .f64 fx, .float .f64 fy] 27) P1; replace Q0 := up_alloc (o := .cells #[.float .f64 fx, .float .f64 fy] 27) Q0; replace Q1 := up_alloc (o := .cells #[.float .f64 fx, .float .f64 fy] 27) Q1; replace X0 := up_alloc (o := .cells #[.float .f64 fx, .float .f64 fy] 27) X0; replace X1 := up_alloc (o := .cells #[.float .f64 fx, .float .f64 fy] 27) X1; replace X2 := up_alloc (o := .cells #[.float .f64 fx, .float .f64 fy] 27) X2; replace A0 := up_alloc (o := .cells #[.float .f64 fx, .float .f64 fy] 27) A0; replace A1 := up_alloc (o := .cells #[.float .f64 fx, .float .f64 fy] 27) A1; replace A2 := up_alloc (o := .cells #[.float .f64 fx, .float .f64 fy] 27) A2; replace A3 := up_alloc (o := .cells #[.float .f64 fx, .float .f64 fy] 27) A3; replace C0 := up_alloc (o := .cells #[.float .f64 fx, .float .f64 fy] 27) C0; replace C1 := up_alloc (o := .cells #[.float .f64 fx, .float .f64 fy] 27) C1; replace C2 := up_alloc (o := .cells #[.float .f64 fx, .float .f64 fy] 27) C2; replace C3 := up_alloc (o := .cells #[.float .f64 fx, .float .f64 fy] 27) C3; replace I0 := up_alloc (o := .cells #[.float .f64 fx, .float .f64 fy] 27) I0; replace I1 := up_alloc (o := .cells #[.float .f64 fx, .float .f64 fy] 27) I1; replace hs := hs.bel (bl_alloc (bl_refl _) #[.float .f64 fx, .float .f64 fy] 27); replace hL := hL.bel (bl_alloc (bl_refl _) #[.float .f64 fx, .float .f64 fy] 27); replace Bc := bl_alloc Bc #[.float .f64 fx, .float .f64 fy] 27; obtain ⟨J0, J1, _⟩ := new2 w7 27 (.float .f64 fx) (.float .f64 fy)) | (go_at_call 14; refine (sReach_any _ n xs ys k r _ (hL.any o hrng) hr p q op oq).mono ?_; rintro e w8 ⟨rfl, hb⟩; replace S0 := keep hb S0; replace S1 := keep hb S1; replace S2 := keep hb S2; replace P0 := keep hb P0; replace P1 := keep hb P1; replace Q0 := keep hb Q0; replace Q1 := keep hb Q1; replace X0 := keep hb X0; replace X1 := keep hb X1; replace X2 := keep hb X2; replace A0 := keep hb A0; replace A1 := keep hb A1; replace A2 := keep hb A2; replace A3 := keep hb A3; replace C0 := keep hb C0; replace C1 := keep hb C1; replace C2 := keep hb C2; replace C3 := keep hb C3; replace I0 := keep hb I0; replace I1 := keep hb I1; replace J0 := keep hb J0; replace J1 := keep hb J1; replace hs := hs.bel hb; replace Bc := bl_trans Bc hb; replace hL := hL.bel hb; rw [hre]) | (go_at_call 15; refine (rReach7 _ n xs ys k r _ hs hr p q op oq).mono ?_; rintro e w9 ⟨rfl, hb⟩; replace S0 := keep hb S0; replace S1 := keep hb S1; replace S2 := keep hb S2; replace P0 := keep hb P0; replace P1 := keep hb P1; replace Q0 := keep hb Q0; replace Q1 := keep hb Q1; replace X0 := keep hb X0; replace X1 := keep hb X1; replace X2 := keep hb X2; replace A0 := keep hb A0; replace A1 := keep hb A1; replace A2 := keep hb A2; replace A3 := keep hb A3; replace C0 := keep hb C0; replace C1 := keep hb C1; replace C2 := keep hb C2; replace C3 := keep hb C3; replace I0 := keep hb I0; replace I1 := keep hb I1; replace J0 := keep hb J0; replace J1 := keep hb J1; replace hs := hs.bel hb; replace Bc := bl_trans Bc hb; replace hL := hL.bel hb; rw [hre]) | (go_at_call 16; refine (sameBox7 b0 b1 b2 b3 _ o0 o1 o2 o3).mono ?_; rintro e wa ⟨rfl, hb⟩; replace S0 := keep hb S0; replace S1 := keep hb S1; replace S2 := keep hb S2; replace P0 := keep hb P0; replace P1 := keep hb P1; replace Q0 := keep hb Q0; replace Q1 := keep hb Q1; replace X0 := keep hb X0; replace X1 := keep hb X1; replace X2 := keep hb X2; replace A0 := keep hb A0; replace A1 := keep hb A1; replace A2 := keep hb A2; replace A3 := keep hb A3; replace C0 := keep hb C0; replace C1 := keep hb C1; replace C2 := keep hb C2; replace C3 := keep hb C3; replace I0 := keep hb I0; replace I1 := keep hb I1; replace J0 := keep hb J0; replace J1 := keep hb J1; replace hs := hs.bel hb; replace Bc := bl_trans Bc hb; replace hL := hL.bel hb) | (go_at_call 17; refine (sameVec7 fx fy _ ofx ofy).mono ?_; rintro e wb ⟨rfl, hb⟩; replace S0 := keep hb S0; replace S1 := keep hb S1; replace S2 := keep hb S2; replace P0 := keep hb P0; replace P1 := keep hb P1; replace Q0 := keep hb Q0; replace Q1 := keep hb Q1; replace X0 := keep hb X0; replace X1 := keep hb X1; replace X2 := keep hb X2; replace A0 := keep hb A0; replace A1 := keep hb A1; replace A2 := keep hb A2; replace A3 := keep hb A3; replace C0 := keep hb C0; replace C1 := keep hb C1; replace C2 := keep hb C2; replace C3 := keep hb C3; replace I0 := keep hb I0; replace I1 := keep hb I1; replace J0 := keep hb J0; replace J1 := keep hb J1; replace hs := hs.bel hb; replace Bc := bl_trans Bc hb; replace hL := hL.bel hb) | (go_at_call 18; refine (rSame_any _ _ _ ore ore).mono ?_; rintro e wc ⟨rfl, hw⟩; rw [hw, sme]) | (go_at_call 19; refine (kept7 g c _ n xs ys k r _ hL hs).mono ?_; rintro e wd ⟨rfl, hb⟩; replace S0 := keep hb S0; replace S1 := keep hb S1; replace S2 := keep hb S2; replace P0 := keep hb P0; replace P1 := keep hb P1; replace Q0 := keep hb Q0; replace Q1 := keep hb Q1; replace X0 := keep hb X0; replace X1 := keep hb X1; replace X2 := keep hb X2; replace A0 := keep hb A0; replace A1 := keep hb A1; replace A2 := keep hb A2; replace A3 := keep hb A3; replace C0 := keep hb C0; replace C1 := keep hb C1; replace C2 := keep hb C2; replace C3 := keep hb C3; replace I0 := keep hb I0; replace I1 := keep hb I1; replace J0 := keep hb J0; replace J1 := keep hb J1; replace hs := hs.bel hb; replace Bc := bl_trans Bc hb))
  go_ret
  exact ⟨rfl, Bc⟩

/-- a row of ways: none, or len of them in cells, with room for cap -/
def IsWays (w : World) (a : Option Addr) (len cap : Nat) : Prop :=
  (a = none ∧ len = 0 ∧ cap = 0) ∨ ∃ (x : Addr) (xs ys : Nat → Nat), a = some x ∧ len ≤ cap ∧ cap ≤ maxLen ∧ len * 16 ≤ 140737488351232 ∧ ∀ i, i < len → w.cell? (x.add (i * 2)) = some (.float .f64 (xs i)) ∧ w.cell? (x.add (i * 2 + 1)) = some (.float .f64 (ys i)) ∧ okK .f64 (xs i) ∧ okK .f64 (ys i)
theorem any_of {w : World} {a : Option Addr} {len cap : Nat} (h : IsWays w a len cap) : ∃ xs ys, AnyS w (.slice a len cap) len xs ys := by
  rcases h with ⟨rfl, rfl, rfl⟩ | ⟨x, xs, ys, rfl, hl, hm, hr, hcell⟩
  · exact ⟨fun _ => 0, fun _ => 0, _, _, rfl, Nat.le_refl _, by decide, by decide, fun i hi => by omega, .inl rfl⟩
  · refine ⟨xs, ys, _, _, rfl, hl, Nat.le_trans hl hm, hr, fun i hi => ⟨(hcell i hi).2.2.1, (hcell i hi).2.2.2⟩, ?_⟩
    rcases Nat.eq_zero_or_pos len with h0 | h0
    · exact .inl h0
    · right
      obtain ⟨b, off, spot⟩ := x
      have hspot : spot = none := by simpa [Addr.add] using World.cell?_spot (hcell 0 h0).1
      subst hspot
      refine ⟨h0, b, off, rfl, fun i hi => ⟨?_, ?_⟩⟩
      · have h := (hcell i hi).1
        rw [add_plain] at h
        exact h
      · have h := (hcell i hi).2.1
        rw [add_plain, ← Nat.add_assoc] at h
        exact h
theorem walk (n0 : Int) (rad0 : Nat) (or0 : okK .f64 rad0) (a0 : Option Addr) (len0 cap0 : Nat) (x1 y1 : Nat) (ox1 : okK .f64 x1) (oy1 : okK .f64 y1) (x2 y2 : Nat) (ox2 : okK .f64 x2) (oy2 : okK .f64 y2) (w : World) (h0 : IsWays w a0 len0 cap0) :
    Calls Try.prog 3 #[.agg #[.int .u8 n0, .float .f64 rad0, .slice a0 len0 cap0], .agg #[.float .f64 x1, .float .f64 y1], .agg #[.float .f64 x2, .float .f64 y2]] w fun e w' => e = .returned (.bool true) ∧ Below w.heap.size w w' := by
  obtain ⟨xs0, ys0, g0⟩ := any_of h0
  exact (walk_any _ _ xs0 ys0 n0 rad0 or0 x1 y1 ox1 oy1 x2 y2 ox2 oy2 w g0).mono fun e w' h => ⟨h.1, h.2.1⟩

set_option maxRecDepth 100000 in
set_option maxHeartbeats 2000000 in
theorem lifted (os : Os) (started : os.Started) (H : Type) (enc : TypeId × Value → H) :
    ReturnsInHanded {} Try.checked os 3 .any (Rows.shapeAsksSpec.pre6 enc Try.prog Try.f3 Rows.shapeAsksRow.domain false) (Rows.shapeAsksSpec.post enc Try.prog Try.f3 false true false false) := by
  refine returnsInHanded_of_change_sized (C := Try.checked) own started (by kernel_rfl) Try.func3
    (ChangeSpec.witness6 (enc := enc) (C := Try.checked) false ⟨#[], #[.agg #[.int .u8 0, .float .f64 0, .slice none 0 0], .agg #[.float .f64 0, .float .f64 0], .agg #[.float .f64 0, .float .f64 0]], []⟩ 8 (by kernel_rfl) (by kernel_rfl) (by kernel_rfl) (by kernel_rfl)) ?_
  intro W base args ds gs before hval0 hW hcnd hsz0 _
  have hsz : (DataW.weightsEach Try.prog (Try.f3.params.toList ++ Rows.shapeAsksSpec.plain.varTypes Try.prog) (ds ++ gs)).all (· ≤ reachBytes) = true := hsz0
  have hval : ∀ (j : Nat) t v, Try.f3.params[j]? = some t → args[j]? = some v → Value.okWide Try.prog W .any base t v := hval0
  have hW' := hW
  obtain ⟨p, q, hA0, hV, rfl, hfz, hnd⟩ := hW
  have hA : DataW.TrodAll enc Try.prog W 0 (fun _ => true) true Try.f3.params.toList args.toList ds p := hA0
  rw [Try.params3] at hA hval hsz
  obtain ⟨v0, vs0, d0, ds0, p0, q0, hargs, rfl, rfl, h0, r0⟩ := trodAll_cons hA
  obtain ⟨v1, vs1, d1, ds1, p1, q1, rfl, rfl, rfl, h1, r1⟩ := trodAll_cons r0
  obtain ⟨v2, vs2, d2, ds2, p2, q2, rfl, rfl, rfl, h2, r2⟩ := trodAll_cons r1
  obtain ⟨rfl, rfl, rfl⟩ := trodAll_nil r2
  obtain rfl : args = #[v0, v1, v2] := by cases args; simp_all
  obtain ⟨rfl, rfl⟩ := trodVars_none hV
  have k0 := h0
  have lt0 : ∀ x ∈ p0, x.block < W.heap.size := by obtain ⟨m, hm⟩ := k0; exact DataW.trod_lt m _ _ _ hm
  obtain ⟨c0, kk0, b0, z0, u0, t0, m0, rfl, hd0, hp0, hz0, hu0, ht0⟩ := open_agg3 Try.underlying25 (by kernel_rfl) cellsH (hval 0 25 v0 rfl rfl) h0
  obtain ⟨n0, e0, hn0, wn0⟩ := DataW.trod_int Try.underlying5 hz0
  obtain ⟨rad0, e1, hr0, wr0⟩ := trod_fl Try.underlying22 hu0
  simp at e0 e1
  subst e0 e1
  obtain ⟨c1, k1, z1, u1, m1, rfl, rfl, rfl, hz1, hu1⟩ := open_agg2 Try.underlying27 (by kernel_rfl) cellsV (hval 1 27 v1 rfl rfl) h1
  obtain ⟨x1, e0, rfl, wx1⟩ := trod_fl Try.underlying22 hz1
  obtain ⟨y1, e1, rfl, wy1⟩ := trod_fl Try.underlying22 hu1
  simp at e0 e1
  subst e0 e1
  obtain ⟨c2, k2, z2, u2, m2, rfl, rfl, rfl, hz2, hu2⟩ := open_agg2 Try.underlying27 (by kernel_rfl) cellsV (hval 2 27 v2 rfl rfl) h2
  obtain ⟨x2, e0, rfl, wx2⟩ := trod_fl Try.underlying22 hz2
  obtain ⟨y2, e1, rfl, wy2⟩ := trod_fl Try.underlying22 hu2
  simp at e0 e1
  subst e0 e1
  have w0 : ∃ a len cap, b0 = .slice a len cap ∧ IsWays W a len cap := by
    rcases Go.Deep.open_slice_pairs Try.underlying23 Try.underlying27 (by kernel_rfl) rfl rfl (by kernel_rfl) (by kernel_rfl) ht0 with ⟨hcs, _⟩ | ⟨x, l, c, m, n, V0, V1, D0, D1, P0, P1, hcs, _, hl, hm, hmm, hx, hcell⟩
    · simp at hcs
      exact ⟨_, _, _, hcs, .inl ⟨rfl, rfl, rfl⟩⟩
    · simp at hcs
      rw [hx] at hd0
      have hr := sized_agg3 (j := 0) hsz rfl (by rw [hd0]; rfl) Try.underlying25 Try.underlying23
      rw [show Try.prog.bytesOf 27 = 16 by kernel_rfl] at hr
      simp only [List.length_map, List.length_range, reachBytes] at hr
      have hlm : l ≤ m := by rw [hmm]; split <;> omega
      have V : ∀ i, ∃ xy : Nat × Nat, i < m → V0 i = .float .f64 xy.1 ∧ V1 i = .float .f64 xy.2 ∧ okK .f64 xy.1 ∧ okK .f64 xy.2 := by
        intro i
        by_cases hi : i < m
        · obtain ⟨_, _, h3, h4⟩ := hcell i hi
          obtain ⟨x, e0, _, wx⟩ := trod_fl Try.underlying22 h3
          obtain ⟨y, e1, _, wy⟩ := trod_fl Try.underlying22 h4
          simp at e0 e1
          exact ⟨(x, y), fun _ => ⟨e0, e1, wf_f64 wx, wf_f64 wy⟩⟩
        · exact ⟨(0, 0), fun h => absurd h hi⟩
      have V' := Classical.axiomOfChoice V
      obtain ⟨f, hf'⟩ := V'
      refine ⟨_, _, _, hcs, .inr ⟨x, fun i => (f i).1, fun i => (f i).2, rfl, hl, hm, by omega, fun i hi => ?_⟩⟩
      obtain ⟨e0, e1, o0, o1⟩ := hf' i (by omega)
      obtain ⟨c0, c1, _, _⟩ := hcell i (by omega)
      rw [e0] at c0
      rw [e1] at c1
      exact ⟨c0, c1, o0, o1⟩
  obtain ⟨a0, len0, cap0, rfl, w0⟩ := w0
  clear hA0 hval0 hsz0
  refine (walk n0 rad0 (wf_f64 wr0) a0 len0 cap0 x1 y1 (wf_f64 wx1) (wf_f64 wy1) x2 y2 (wf_f64 wx2) (wf_f64 wy2) W w0).mono fun e W' ⟨he, bel0⟩ => ?_
  have bel := bel0
  subst he
  exact ⟨_, rfl, _, _, _, [], _, [], hW', trodAll_mk1 (shut_bool Try.underlying4 _), (trodAll_cons_mk (Below.trod laidOut (by kernel_rfl) (of_decide_eq_true (by kernel_rfl)) k0 bel lt0) (trodAll_cons_mk (shut_agg2 (y0 := (.lit (.float .f64 x1), [])) (y1 := (.lit (.float .f64 y1), [])) Try.underlying27 (by kernel_rfl) cellsV ⟨1, by simp [DataW.trod, show Try.checked.prog.underlying 22 = some (.float .f64) from Try.underlying22, wx1]⟩ ⟨1, by simp [DataW.trod, show Try.checked.prog.underlying 22 = some (.float .f64) from Try.underlying22, wy1]⟩) (trodAll_cons_mk (shut_agg2 (y0 := (.lit (.float .f64 x2), [])) (y1 := (.lit (.float .f64 y2), [])) Try.underlying27 (by kernel_rfl) cellsV ⟨1, by simp [DataW.trod, show Try.checked.prog.underlying 22 = some (.float .f64) from Try.underlying22, wx2]⟩ ⟨1, by simp [DataW.trod, show Try.checked.prog.underlying 22 = some (.float .f64) from Try.underlying22, wy2]⟩) trodAll_mk0))), rfl, bel.frame _, fun h => by cases h⟩

theorem over : Rows.shapeAsksRow.holds Try.pinned (OpenSpec.ofChange Rows.shapeAsksSpec) :=
  OpenClaim.holds_of_wide 3 Try.f3 rfl rfl rfl rfl rfl rfl rfl ⟨rfl, rfl, rfl, rfl, rfl⟩ rfl rfl rfl rfl rfl (by kernel_rfl) Try.func3 (by kernel_rfl)
    (of_decide_eq_true (by kernel_rfl)) (by unfold Func.isWrapper; first | (rw [if_pos (by decide +kernel)]; kernel_rfl) | (rw [if_neg (by decide +kernel)]; exact ⟨rfl, rfl⟩))
    (fun os started H enc _ => lifted os started H enc)

theorem proved : Rows.ShapeAsksSaid :=
  over
#print axioms proved
end Go.Proofs.Ytiamgphpcjokmab.shapeAsks
