/-
  'tumblelaw12.RayAgainst' is true of all planes and rows of points.
-/
import Derived.Test.YtglndoncaammlaaRows
import Derived.Test.YtglndoncaammlaaYi
import Derived.WalkKit
import Derived.ProofKit
import Derived.OpenShut
import Derived.WalkLawsBesides
import Derived.WalkSpells
import Derived.Lib.SmallJoins
import Derived.Laws.Cover2
import Derived.Laws.AppendOwn
import Derived.Laws.OwnMore
import Derived.Laws.AppendOwnNone
import Derived.Deep.RegionHeld3
import Derived.Deep.RegionWith
import Derived.Deep.SlicePairs
import Derived.SizedLaws
import Derived.Below
import Derived.Laws.StructEq
namespace Go.Proofs.Ytglndoncaammlaa.rayAgainst
open Go.ChangeShapes Go.WideShapes Go.ChangeAt Go.RowKit Go.Joins
set_option linter.unusedVariables false
set_option linter.unusedSimpArgs false

theorem own : ownKnob Try.prog.godebug = none := by kernel_rfl
theorem laidOut : laidOutB Try.prog = true := by kernel_rfl
theorem wf_f64 {x : Nat} (h : (Lit.float .f64 x).wf = true) : okK .f64 x := by
  rw [okK64]; simpa [Lit.wf] using h
theorem trod_fl {H : Type} {enc : TypeId × Value → H} {P : Program} {w : World} {base fuel : Nat} {spare : Nat → Bool} {held : Bool} {t : TypeId} {cs : List Value} {x : DataW H × List MemPlace} {k : FloatKind} (ht : P.underlying t = some (.float k)) (h : DataW.trod enc P w base spare held fuel t cs = some x) : ∃ z, cs = [.float k z] ∧ x = (.lit (.float k z), []) ∧ (Lit.float k z).wf = true := by
  cases fuel with
  | zero => simp [DataW.trod] at h
  | succ n =>
    unfold DataW.trod at h
    rw [ht] at h
    split at h <;> simp_all

theorem cellsV : Try.prog.cellsOf 24 = 2 := by kernel_rfl


set_option maxRecDepth 100000 in
set_option maxHeartbeats 16000000 in
theorem walk_any (ax ay : Nat) (oax : okK .f64 ax) (oay : okK .f64 ay) (bx b_y : Nat) (obx : okK .f64 bx) (oby : okK .f64 b_y) (Va : Value) (n : Nat) (xs ys : Nat → Nat) (fx fy : Nat) (ofx : okK .f64 fx) (ofy : okK .f64 fy) (wx wy : Nat) (owx : okK .f64 wx) (owy : okK .f64 wy) (w : World) (hA : AnyS w Va n xs ys) :
    Calls Try.prog 3 #[.agg #[.float .f64 ax, .float .f64 ay], .agg #[.float .f64 bx, .float .f64 b_y], Va, .agg #[.float .f64 fx, .float .f64 fy], .agg #[.float .f64 wx, .float .f64 wy]] w fun e w' => e = .returned (.bool true) ∧ Bel w w' := by
  obtain ⟨A, ha⟩ : ∃ P, isP ax ay P := ⟨_, isP_self oax oay⟩
  obtain ⟨B, hB⟩ : ∃ P, isP bx b_y P := ⟨_, isP_self obx oby⟩
  obtain ⟨F, hf⟩ : ∃ P, isP fx fy P := ⟨_, isP_self ofx ofy⟩
  obtain ⟨Y, hw⟩ : ∃ P, isP wx wy P := ⟨_, isP_self owx owy⟩
  have q0 := cmp_eq .f64
  have q1 := fun (x y : Nat) (w : World) => run_equalIn_float Try.prog w 22 .f64 x y Try.underlying22
  have q3 := fun (d x y : Nat) (w : World) => run_equalIn_fl Try.prog w d 22 .f64 x y Try.underlying22
  have q4 := fun (x y : Nat) (w : World) => run_equalIn_fl Try.prog w 9997 22 .f64 x y Try.underlying22
  have q5 := fun (x y : Nat) (w : World) => run_equalIn_fl Try.prog w 9996 22 .f64 x y Try.underlying22
  have q6 := fun (x y : Nat) (w : World) => run_equalIn_fl Try.prog w 9998 22 .f64 x y Try.underlying22
  have e0 : eqK .f64 0 0 = true := by decide +kernel
  have c1 := cmp_gt .f64
  have z0_0 : (w.alloc (.cells #[.float .f64 ax, .float .f64 ay] 24)).cell? ⟨w.heap.size, 0, none⟩ = some (.float .f64 ax) := by rw [World.cell?_alloc_new]; rfl
  replace z0_0 := up_alloc (o := .cells #[.float .f64 bx, .float .f64 b_y] 24) z0_0
  replace z0_0 := up_alloc (o := .cells #[.float .f64 fx, .float .f64 fy] 24) z0_0
  replace z0_0 := up_alloc (o := .cells #[.float .f64 wx, .float .f64 wy] 24) z0_0
  have z0_1 : (w.alloc (.cells #[.float .f64 ax, .float .f64 ay] 24)).cell? ⟨w.heap.size, 1, none⟩ = some (.float .f64 ay) := by rw [World.cell?_alloc_new]; rfl
  replace z0_1 := up_alloc (o := .cells #[.float .f64 bx, .float .f64 b_y] 24) z0_1
  replace z0_1 := up_alloc (o := .cells #[.float .f64 fx, .float .f64 fy] 24) z0_1
  replace z0_1 := up_alloc (o := .cells #[.float .f64 wx, .float .f64 wy] 24) z0_1
  have z1_0 : ((w.alloc (.cells #[.float .f64 ax, .float .f64 ay] 24)).alloc (.cells #[.float .f64 bx, .float .f64 b_y] 24)).cell? ⟨w.heap.size + 1, 0, none⟩ = some (.float .f64 bx) := by rw [← (show (w.alloc (.cells #[.float .f64 ax, .float .f64 ay] 24)).heap.size = w.heap.size + 1 by simp only [World.size_alloc]), World.cell?_alloc_new]; rfl
  replace z1_0 := up_alloc (o := .cells #[.float .f64 fx, .float .f64 fy] 24) z1_0
  replace z1_0 := up_alloc (o := .cells #[.float .f64 wx, .float .f64 wy] 24) z1_0
  have z1_1 : ((w.alloc (.cells #[.float .f64 ax, .float .f64 ay] 24)).alloc (.cells #[.float .f64 bx, .float .f64 b_y] 24)).cell? ⟨w.heap.size + 1, 1, none⟩ = some (.float .f64 b_y) := by rw [← (show (w.alloc (.cells #[.float .f64 ax, .float .f64 ay] 24)).heap.size = w.heap.size + 1 by simp only [World.size_alloc]), World.cell?_alloc_new]; rfl
  replace z1_1 := up_alloc (o := .cells #[.float .f64 fx, .float .f64 fy] 24) z1_1
  replace z1_1 := up_alloc (o := .cells #[.float .f64 wx, .float .f64 wy] 24) z1_1
  have z2_0 : (((w.alloc (.cells #[.float .f64 ax, .float .f64 ay] 24)).alloc (.cells #[.float .f64 bx, .float .f64 b_y] 24)).alloc (.cells #[.float .f64 fx, .float .f64 fy] 24)).cell? ⟨w.heap.size + 1 + 1, 0, none⟩ = some (.float .f64 fx) := by rw [← (show ((w.alloc (.cells #[.float .f64 ax, .float .f64 ay] 24)).alloc (.cells #[.float .f64 bx, .float .f64 b_y] 24)).heap.size = w.heap.size + 1 + 1 by simp only [World.size_alloc]), World.cell?_alloc_new]; rfl
  replace z2_0 := up_alloc (o := .cells #[.float .f64 wx, .float .f64 wy] 24) z2_0
  have z2_1 : (((w.alloc (.cells #[.float .f64 ax, .float .f64 ay] 24)).alloc (.cells #[.float .f64 bx, .float .f64 b_y] 24)).alloc (.cells #[.float .f64 fx, .float .f64 fy] 24)).cell? ⟨w.heap.size + 1 + 1, 1, none⟩ = some (.float .f64 fy) := by rw [← (show ((w.alloc (.cells #[.float .f64 ax, .float .f64 ay] 24)).alloc (.cells #[.float .f64 bx, .float .f64 b_y] 24)).heap.size = w.heap.size + 1 + 1 by simp only [World.size_alloc]), World.cell?_alloc_new]; rfl
  replace z2_1 := up_alloc (o := .cells #[.float .f64 wx, .float .f64 wy] 24) z2_1
  have z3_0 : ((((w.alloc (.cells #[.float .f64 ax, .float .f64 ay] 24)).alloc (.cells #[.float .f64 bx, .float .f64 b_y] 24)).alloc (.cells #[.float .f64 fx, .float .f64 fy] 24)).alloc (.cells #[.float .f64 wx, .float .f64 wy] 24)).cell? ⟨w.heap.size + 1 + 1 + 1, 0, none⟩ = some (.float .f64 wx) := by rw [← (show (((w.alloc (.cells #[.float .f64 ax, .float .f64 ay] 24)).alloc (.cells #[.float .f64 bx, .float .f64 b_y] 24)).alloc (.cells #[.float .f64 fx, .float .f64 fy] 24)).heap.size = w.heap.size + 1 + 1 + 1 by simp only [World.size_alloc]), World.cell?_alloc_new]; rfl
  have z3_1 : ((((w.alloc (.cells #[.float .f64 ax, .float .f64 ay] 24)).alloc (.cells #[.float .f64 bx, .float .f64 b_y] 24)).alloc (.cells #[.float .f64 fx, .float .f64 fy] 24)).alloc (.cells #[.float .f64 wx, .float .f64 wy] 24)).cell? ⟨w.heap.size + 1 + 1 + 1, 1, none⟩ = some (.float .f64 wy) := by rw [← (show (((w.alloc (.cells #[.float .f64 ax, .float .f64 ay] 24)).alloc (.cells #[.float .f64 bx, .float .f64 b_y] 24)).alloc (.cells #[.float .f64 fx, .float .f64 fy] 24)).heap.size = w.heap.size + 1 + 1 + 1 by simp only [World.size_alloc]), World.cell?_alloc_new]; rfl
  have B0 : Bel w ((((w.alloc (.cells #[.float .f64 ax, .float .f64 ay] 24)).alloc (.cells #[.float .f64 bx, .float .f64 b_y] 24)).alloc (.cells #[.float .f64 fx, .float .f64 fy] 24)).alloc (.cells #[.float .f64 wx, .float .f64 wy] 24)) := bl_alloc (bl_alloc (bl_alloc (bl_alloc (bl_refl w) _ _) _ _) _ _) _ _
  have Bc := B0
  clear B0
  go_enter Try.func3, Try.ntmps3
  go_upto_region 6 with (first | (go_at_call 4; (with_reducible refine (awake12 _).mono ?_); rintro e w1 ⟨rfl, hb⟩; replace z0_0 := keep hb z0_0; replace z0_1 := keep hb z0_1; replace z1_0 := keep hb z1_0; replace z1_1 := keep hb z1_1; replace z2_0 := keep hb z2_0; replace z2_1 := keep hb z2_1; replace z3_0 := keep hb z3_0; replace z3_1 := keep hb z3_1; replace Bc := bl_trans Bc hb; clear hb) | (go_at_call 5; (with_reducible refine (seg_ag _ ha hB hf hw).mono ?_); rintro e w2 ⟨hx, hy, nx, ny, ht, b1, er1, P1, rfl, hP1, H1, hb⟩; replace z0_0 := keep hb z0_0; replace z0_1 := keep hb z0_1; replace z1_0 := keep hb z1_0; replace z1_1 := keep hb z1_1; replace z2_0 := keep hb z2_0; replace z2_1 := keep hb z2_1; replace z3_0 := keep hb z3_0; replace z3_1 := keep hb z3_1; replace Bc := bl_trans Bc hb; clear hb; replace z0_0 := up_alloc (o := .cells #[.float .f64 hx, .float .f64 hy, .float .f64 nx, .float .f64 ny, .float .f64 ht] 28) z0_0; replace z0_1 := up_alloc (o := .cells #[.float .f64 hx, .float .f64 hy, .float .f64 nx, .float .f64 ny, .float .f64 ht] 28) z0_1; replace z1_0 := up_alloc (o := .cells #[.float .f64 hx, .float .f64 hy, .float .f64 nx, .float .f64 ny, .float .f64 ht] 28) z1_0; replace z1_1 := up_alloc (o := .cells #[.float .f64 hx, .float .f64 hy, .float .f64 nx, .float .f64 ny, .float .f64 ht] 28) z1_1; replace z2_0 := up_alloc (o := .cells #[.float .f64 hx, .float .f64 hy, .float .f64 nx, .float .f64 ny, .float .f64 ht] 28) z2_0; replace z2_1 := up_alloc (o := .cells #[.float .f64 hx, .float .f64 hy, .float .f64 nx, .float .f64 ny, .float .f64 ht] 28) z2_1; replace z3_0 := up_alloc (o := .cells #[.float .f64 hx, .float .f64 hy, .float .f64 nx, .float .f64 ny, .float .f64 ht] 28) z3_0; replace z3_1 := up_alloc (o := .cells #[.float .f64 hx, .float .f64 hy, .float .f64 nx, .float .f64 ny, .float .f64 ht] 28) z3_1; replace Bc := bl_alloc Bc #[.float .f64 hx, .float .f64 hy, .float .f64 nx, .float .f64 ny, .float .f64 ht] 28; obtain ⟨y0, y1, y2, y3, y4⟩ := new5' w2 28 (.float .f64 hx) (.float .f64 hy) (.float .f64 nx) (.float .f64 ny) (.float .f64 ht)) | (go_at_call 6; (with_reducible refine (pol_ag _ _ (hA.bel Bc) hf hw).mono ?_); rintro e w3 ⟨hx2, hy2, nx2, ny2, ht2, b2, er2, P2, rfl, hP2, H2, hb⟩; replace z0_0 := keep hb z0_0; replace z0_1 := keep hb z0_1; replace z1_0 := keep hb z1_0; replace z1_1 := keep hb z1_1; replace z2_0 := keep hb z2_0; replace z2_1 := keep hb z2_1; replace z3_0 := keep hb z3_0; replace z3_1 := keep hb z3_1; replace y0 := keep hb y0; replace y1 := keep hb y1; replace y2 := keep hb y2; replace y3 := keep hb y3; replace y4 := keep hb y4; replace Bc := bl_trans Bc hb; clear hb; replace z0_0 := up_alloc (o := .cells #[.float .f64 hx2, .float .f64 hy2, .float .f64 nx2, .float .f64 ny2, .float .f64 ht2] 28) z0_0; replace z0_1 := up_alloc (o := .cells #[.float .f64 hx2, .float .f64 hy2, .float .f64 nx2, .float .f64 ny2, .float .f64 ht2] 28) z0_1; replace z1_0 := up_alloc (o := .cells #[.float .f64 hx2, .float .f64 hy2, .float .f64 nx2, .float .f64 ny2, .float .f64 ht2] 28) z1_0; replace z1_1 := up_alloc (o := .cells #[.float .f64 hx2, .float .f64 hy2, .float .f64 nx2, .float .f64 ny2, .float .f64 ht2] 28) z1_1; replace z2_0 := up_alloc (o := .cells #[.float .f64 hx2, .float .f64 hy2, .float .f64 nx2, .float .f64 ny2, .float .f64 ht2] 28) z2_0; replace z2_1 := up_alloc (o := .cells #[.float .f64 hx2, .float .f64 hy2, .float .f64 nx2, .float .f64 ny2, .float .f64 ht2] 28) z2_1; replace z3_0 := up_alloc (o := .cells #[.float .f64 hx2, .float .f64 hy2, .float .f64 nx2, .float .f64 ny2, .float .f64 ht2] 28) z3_0; replace z3_1 := up_alloc (o := .cells #[.float .f64 hx2, .float .f64 hy2, .float .f64 nx2, .float .f64 ny2, .float .f64 ht2] 28) z3_1; replace y0 := up_alloc (o := .cells #[.float .f64 hx2, .float .f64 hy2, .float .f64 nx2, .float .f64 ny2, .float .f64 ht2] 28) y0; replace y1 := up_alloc (o := .cells #[.float .f64 hx2, .float .f64 hy2, .float .f64 nx2, .float .f64 ny2, .float .f64 ht2] 28) y1; replace y2 := up_alloc (o := .cells #[.float .f64 hx2, .float .f64 hy2, .float .f64 nx2, .float .f64 ny2, .float .f64 ht2] 28) y2; replace y3 := up_alloc (o := .cells #[.float .f64 hx2, .float .f64 hy2, .float .f64 nx2, .float .f64 ny2, .float .f64 ht2] 28) y3; replace y4 := up_alloc (o := .cells #[.float .f64 hx2, .float .f64 hy2, .float .f64 nx2, .float .f64 ny2, .float .f64 ht2] 28) y4; replace Bc := bl_alloc Bc #[.float .f64 hx2, .float .f64 hy2, .float .f64 nx2, .float .f64 ny2, .float .f64 ht2] 28; obtain ⟨v0, v1, v2, v3, v4⟩ := new5' w3 28 (.float .f64 hx2) (.float .f64 hy2) (.float .f64 nx2) (.float .f64 ny2) (.float .f64 ht2)))
  rcases H1 with ⟨rfl, rfl, hq1⟩ | ⟨rfl, rfl, rfl, rfl, rfl, rfl⟩ <;> rcases H2 with ⟨rfl, rfl, hq2⟩ | ⟨rfl, rfl, rfl, rfl, rfl, rfl⟩
  all_goals (go_wp2_with (first | (go_at_call 7; first | (have zn := hq1; clear zn; (with_reducible refine (dot_np _ hP1 hw hq1).mono ?_); rintro e w4 ⟨r1, rfl, hr1, hb⟩; replace z0_0 := keep hb z0_0; replace z0_1 := keep hb z0_1; replace z1_0 := keep hb z1_0; replace z1_1 := keep hb z1_1; replace z2_0 := keep hb z2_0; replace z2_1 := keep hb z2_1; replace z3_0 := keep hb z3_0; replace z3_1 := keep hb z3_1; replace y0 := keep hb y0; replace y1 := keep hb y1; replace y2 := keep hb y2; replace y3 := keep hb y3; replace y4 := keep hb y4; replace v0 := keep hb v0; replace v1 := keep hb v1; replace v2 := keep hb v2; replace v3 := keep hb v3; replace v4 := keep hb v4; replace Bc := bl_trans Bc hb; clear hb hq1) | ((with_reducible refine (dot_np _ hP2 hw hq2).mono ?_); rintro e w5 ⟨r2, rfl, hr2, hb⟩; replace z0_0 := keep hb z0_0; replace z0_1 := keep hb z0_1; replace z1_0 := keep hb z1_0; replace z1_1 := keep hb z1_1; replace z2_0 := keep hb z2_0; replace z2_1 := keep hb z2_1; replace z3_0 := keep hb z3_0; replace z3_1 := keep hb z3_1; replace y0 := keep hb y0; replace y1 := keep hb y1; replace y2 := keep hb y2; replace y3 := keep hb y3; replace y4 := keep hb y4; replace v0 := keep hb v0; replace v1 := keep hb v1; replace v2 := keep hb v2; replace v3 := keep hb v3; replace v4 := keep hb v4; replace Bc := bl_trans Bc hb; clear hb))))
  all_goals go_ret
  all_goals exact ⟨by first | rfl | simp, Bc⟩

/-- a row of ways: none, or len of them in cells, with room for cap -/
def IsWays (w : World) (a : Option Addr) (len cap : Nat) : Prop :=
  (a = none ∧ len = 0 ∧ cap = 0) ∨ ∃ (x : Addr) (xs ys : Nat → Nat), a = some x ∧ len ≤ cap ∧ cap ≤ maxLen ∧ len * 16 ≤ 140737488351232 ∧ ∀ i, i < len → w.cell? (x.add (i * 2)) = some (.float .f64 (xs i)) ∧ w.cell? (x.add (i * 2 + 1)) = some (.float .f64 (ys i)) ∧ okK .f64 (xs i) ∧ okK .f64 (ys i)
theorem any_of {w : World} {a : Option Addr} {len cap : Nat} (h : IsWays w a len cap) : ∃ xs ys, AnyS w (.slice a len cap) len xs ys := by
  rcases h with ⟨rfl, rfl, rfl⟩ | ⟨x, xs, ys, rfl, hl, hm, hr, hcell⟩
  · exact ⟨fun _ => 0, fun _ => 0, _, _, rfl, Nat.le_refl _, by decide, by decide, fun i hi => by omega, .inl rfl⟩
  · refine ⟨xs, ys, _, _, rfl, hl, Nat.le_trans hl hm, hr, fun i hi => ⟨(hcell i hi).2.2.1, (hcell i hi).2.2.2⟩, ?_⟩
    rcases Nat.eq_zero_or_pos len with h0 | h0
    · exact .inl h0
    · right
      obtain ⟨b, off, spot⟩ := x
      have hspot : spot = none := by simpa [Addr.add] using World.cell?_spot (hcell 0 h0).1
      subst hspot
      refine ⟨h0, b, off, rfl, fun i hi => ⟨?_, ?_⟩⟩
      · have h := (hcell i hi).1
        rw [add_plain] at h
        exact h
      · have h := (hcell i hi).2.1
        rw [add_plain, ← Nat.add_assoc] at h
        exact h
theorem walk (x0 y0 : Nat) (ox0 : okK .f64 x0) (oy0 : okK .f64 y0) (x1 y1 : Nat) (ox1 : okK .f64 x1) (oy1 : okK .f64 y1) (a2 : Option Addr) (len2 cap2 : Nat) (x3 y3 : Nat) (ox3 : okK .f64 x3) (oy3 : okK .f64 y3) (x4 y4 : Nat) (ox4 : okK .f64 x4) (oy4 : okK .f64 y4) (w : World) (h2 : IsWays w a2 len2 cap2) :
    Calls Try.prog 3 #[.agg #[.float .f64 x0, .float .f64 y0], .agg #[.float .f64 x1, .float .f64 y1], .slice a2 len2 cap2, .agg #[.float .f64 x3, .float .f64 y3], .agg #[.float .f64 x4, .float .f64 y4]] w fun e w' => e = .returned (.bool true) ∧ Below w.heap.size w w' := by
  obtain ⟨xs2, ys2, g2⟩ := any_of h2
  exact (walk_any x0 y0 ox0 oy0 x1 y1 ox1 oy1 _ _ xs2 ys2 x3 y3 ox3 oy3 x4 y4 ox4 oy4 w g2).mono fun e w' h => ⟨h.1, h.2.1⟩

set_option maxRecDepth 100000 in
theorem lifted (os : Os) (started : os.Started) (H : Type) (enc : TypeId × Value → H) :
    ReturnsInHanded {} Try.checked os 3 .any (Rows.rayAgainstSpec.pre6 enc Try.prog Try.f3 Rows.rayAgainstRow.domain false) (Rows.rayAgainstSpec.post enc Try.prog Try.f3 false true false false) := by
  refine returnsInHanded_of_change_sized (C := Try.checked) own started (by kernel_rfl) Try.func3
    (ChangeSpec.witness6 (enc := enc) (C := Try.checked) false ⟨#[], #[.agg #[.float .f64 0, .float .f64 0], .agg #[.float .f64 0, .float .f64 0], .slice none 0 0, .agg #[.float .f64 0, .float .f64 0], .agg #[.float .f64 0, .float .f64 0]], []⟩ 8 (by kernel_rfl) (by kernel_rfl) (by kernel_rfl) (by kernel_rfl)) ?_
  intro W base args ds gs before hval0 hW hcnd hsz0 _
  have hsz : (DataW.weightsEach Try.prog (Try.f3.params.toList ++ Rows.rayAgainstSpec.plain.varTypes Try.prog) (ds ++ gs)).all (· ≤ reachBytes) = true := hsz0
  have hval : ∀ (j : Nat) t v, Try.f3.params[j]? = some t → args[j]? = some v → Value.okWide Try.prog W .any base t v := hval0
  have hW' := hW
  obtain ⟨p, q, hA0, hV, rfl, hfz, hnd⟩ := hW
  have hA : DataW.TrodAll enc Try.prog W 0 (fun _ => true) true Try.f3.params.toList args.toList ds p := hA0
  rw [Try.params3] at hA hval hsz
  obtain ⟨v0, vs0, d0, ds0, p0, q0, hargs, rfl, rfl, h0, r0⟩ := trodAll_cons hA
  obtain ⟨v1, vs1, d1, ds1, p1, q1, rfl, rfl, rfl, h1, r1⟩ := trodAll_cons r0
  obtain ⟨v2, vs2, d2, ds2, p2, q2, rfl, rfl, rfl, h2, r2⟩ := trodAll_cons r1
  obtain ⟨v3, vs3, d3, ds3, p3, q3, rfl, rfl, rfl, h3, r3⟩ := trodAll_cons r2
  obtain ⟨v4, vs4, d4, ds4, p4, q4, rfl, rfl, rfl, h4, r4⟩ := trodAll_cons r3
  obtain ⟨rfl, rfl, rfl⟩ := trodAll_nil r4
  obtain rfl : args = #[v0, v1, v2, v3, v4] := by cases args; simp_all
  obtain ⟨rfl, rfl⟩ := trodVars_none hV
  obtain ⟨c0, k0, z0, u0, m0, rfl, rfl, rfl, hz0, hu0⟩ := open_agg2 Try.underlying24 (by kernel_rfl) cellsV (hval 0 24 v0 rfl rfl) h0
  obtain ⟨x0, e0, rfl, wx0⟩ := trod_fl Try.underlying22 hz0
  obtain ⟨y0, e1, rfl, wy0⟩ := trod_fl Try.underlying22 hu0
  simp at e0 e1
  subst e0 e1
  obtain ⟨c1, k1, z1, u1, m1, rfl, rfl, rfl, hz1, hu1⟩ := open_agg2 Try.underlying24 (by kernel_rfl) cellsV (hval 1 24 v1 rfl rfl) h1
  obtain ⟨x1, e0, rfl, wx1⟩ := trod_fl Try.underlying22 hz1
  obtain ⟨y1, e1, rfl, wy1⟩ := trod_fl Try.underlying22 hu1
  simp at e0 e1
  subst e0 e1
  obtain ⟨a2, len2, cap2, rfl⟩ := okWide_slice Try.underlying25 (hval 2 25 v2 rfl rfl)
  obtain ⟨c3, k3, z3, u3, m3, rfl, rfl, rfl, hz3, hu3⟩ := open_agg2 Try.underlying24 (by kernel_rfl) cellsV (hval 3 24 v3 rfl rfl) h3
  obtain ⟨x3, e0, rfl, wx3⟩ := trod_fl Try.underlying22 hz3
  obtain ⟨y3, e1, rfl, wy3⟩ := trod_fl Try.underlying22 hu3
  simp at e0 e1
  subst e0 e1
  obtain ⟨c4, k4, z4, u4, m4, rfl, rfl, rfl, hz4, hu4⟩ := open_agg2 Try.underlying24 (by kernel_rfl) cellsV (hval 4 24 v4 rfl rfl) h4
  obtain ⟨x4, e0, rfl, wx4⟩ := trod_fl Try.underlying22 hz4
  obtain ⟨y4, e1, rfl, wy4⟩ := trod_fl Try.underlying22 hu4
  simp at e0 e1
  subst e0 e1
  have k2 := h2
  have lt2 : ∀ x ∈ p2, x.block < W.heap.size := by obtain ⟨m, hm⟩ := k2; exact DataW.trod_lt m _ _ _ hm
  have w2 : IsWays W a2 len2 cap2 := by
    obtain ⟨fuel, hf⟩ := h2
    rcases Go.Deep.open_slice_pairs Try.underlying25 Try.underlying24 (by kernel_rfl) rfl rfl (by kernel_rfl) (by kernel_rfl) hf with ⟨hcs, _⟩ | ⟨x, l, c, m, n, V0, V1, D0, D1, P0, P1, hcs, _, hl, hm, hmm, hx, hcell⟩
    · simp [Value.cells] at hcs
      exact .inl hcs
    · simp [Value.cells] at hcs
      obtain ⟨rfl, rfl, rfl⟩ := hcs
      simp only [Prod.mk.injEq] at hx
      obtain ⟨rfl, rfl⟩ := hx
      have hr := sized_slice hsz (j := 2) (t := 25) (e := 24) rfl rfl Try.underlying25
      rw [show Try.prog.bytesOf 24 = 16 by kernel_rfl] at hr
      simp only [List.length_map, List.length_range, reachBytes] at hr
      have hlm : len2 ≤ m := by rw [hmm]; split <;> omega
      have V : ∀ i, ∃ xy : Nat × Nat, i < m → V0 i = .float .f64 xy.1 ∧ V1 i = .float .f64 xy.2 ∧ okK .f64 xy.1 ∧ okK .f64 xy.2 := by
        intro i
        by_cases hi : i < m
        · obtain ⟨_, _, h3, h4⟩ := hcell i hi
          obtain ⟨x, e0, _, wx⟩ := trod_fl Try.underlying22 h3
          obtain ⟨y, e1, _, wy⟩ := trod_fl Try.underlying22 h4
          simp at e0 e1
          exact ⟨(x, y), fun _ => ⟨e0, e1, wf_f64 wx, wf_f64 wy⟩⟩
        · exact ⟨(0, 0), fun h => absurd h hi⟩
      have V' := Classical.axiomOfChoice V
      obtain ⟨f, hf'⟩ := V'
      refine .inr ⟨x, fun i => (f i).1, fun i => (f i).2, rfl, hl, hm, by omega, fun i hi => ?_⟩
      obtain ⟨e0, e1, o0, o1⟩ := hf' i (by omega)
      obtain ⟨c0, c1, _, _⟩ := hcell i (by omega)
      rw [e0] at c0
      rw [e1] at c1
      exact ⟨c0, c1, o0, o1⟩
  clear hA0 hval0 hsz0
  refine (walk x0 y0 (wf_f64 wx0) (wf_f64 wy0) x1 y1 (wf_f64 wx1) (wf_f64 wy1) a2 len2 cap2 x3 y3 (wf_f64 wx3) (wf_f64 wy3) x4 y4 (wf_f64 wx4) (wf_f64 wy4) W w2).mono fun e W' ⟨he, bel0⟩ => ?_
  have bel := bel0
  subst he
  exact ⟨_, rfl, _, _, _, [], _, [], hW', trodAll_mk1 (shut_bool Try.underlying4 _), (trodAll_cons_mk (shut_agg2 (y0 := (.lit (.float .f64 x0), [])) (y1 := (.lit (.float .f64 y0), [])) Try.underlying24 (by kernel_rfl) cellsV ⟨1, by simp [DataW.trod, show Try.checked.prog.underlying 22 = some (.float .f64) from Try.underlying22, wx0]⟩ ⟨1, by simp [DataW.trod, show Try.checked.prog.underlying 22 = some (.float .f64) from Try.underlying22, wy0]⟩) (trodAll_cons_mk (shut_agg2 (y0 := (.lit (.float .f64 x1), [])) (y1 := (.lit (.float .f64 y1), [])) Try.underlying24 (by kernel_rfl) cellsV ⟨1, by simp [DataW.trod, show Try.checked.prog.underlying 22 = some (.float .f64) from Try.underlying22, wx1]⟩ ⟨1, by simp [DataW.trod, show Try.checked.prog.underlying 22 = some (.float .f64) from Try.underlying22, wy1]⟩) (trodAll_cons_mk (Below.trod laidOut (by kernel_rfl) (of_decide_eq_true (by kernel_rfl)) k2 bel lt2) (trodAll_cons_mk (shut_agg2 (y0 := (.lit (.float .f64 x3), [])) (y1 := (.lit (.float .f64 y3), [])) Try.underlying24 (by kernel_rfl) cellsV ⟨1, by simp [DataW.trod, show Try.checked.prog.underlying 22 = some (.float .f64) from Try.underlying22, wx3]⟩ ⟨1, by simp [DataW.trod, show Try.checked.prog.underlying 22 = some (.float .f64) from Try.underlying22, wy3]⟩) (trodAll_cons_mk (shut_agg2 (y0 := (.lit (.float .f64 x4), [])) (y1 := (.lit (.float .f64 y4), [])) Try.underlying24 (by kernel_rfl) cellsV ⟨1, by simp [DataW.trod, show Try.checked.prog.underlying 22 = some (.float .f64) from Try.underlying22, wx4]⟩ ⟨1, by simp [DataW.trod, show Try.checked.prog.underlying 22 = some (.float .f64) from Try.underlying22, wy4]⟩) trodAll_mk0))))), rfl, bel.frame _, fun h => by cases h⟩

theorem over : Rows.rayAgainstRow.holds Try.pinned (OpenSpec.ofChange Rows.rayAgainstSpec) :=
  OpenClaim.holds_of_wide 3 Try.f3 rfl rfl rfl rfl rfl rfl rfl ⟨rfl, rfl, rfl, rfl, rfl⟩ rfl rfl rfl rfl rfl (by kernel_rfl) Try.func3 (by kernel_rfl)
    (of_decide_eq_true (by kernel_rfl)) (by unfold Func.isWrapper; first | (rw [if_pos (by decide +kernel)]; kernel_rfl) | (rw [if_neg (by decide +kernel)]; exact ⟨rfl, rfl⟩))
    (fun os started H enc _ => lifted os started H enc)

theorem proved : Rows.RayAgainstSaid :=
  over
#print axioms proved
end Go.Proofs.Ytglndoncaammlaa.rayAgainst
