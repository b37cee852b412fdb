/-
  'tumblelaw07.ShapeEnds' is true of all rows of points.
-/
import Derived.Test.YtiamgphpcjokmabRows
import Derived.Test.YtiamgphpcjokmabSe
import Derived.Test.YtiamgphpcjokmabLd
import Derived.WalkKit
import Derived.ProofKit
import Derived.OpenShut
import Derived.WalkLawsBesides
import Derived.WalkSpells
import Derived.Lib.SmallJoins
import Derived.Laws.Cover2
import Derived.Laws.AppendOwn
import Derived.Laws.OwnMore
import Derived.Laws.AppendOwnNone
import Derived.Deep.RegionHeld3
import Derived.Deep.RegionWith
import Derived.Deep.SlicePairs
import Derived.SizedLaws
import Derived.Below
import Derived.Deep.DeepCutAuto
import Derived.Laws.StructEq
namespace Go.Proofs.Ytiamgphpcjokmab.shapeEnds
open Go.ChangeShapes Go.WideShapes Go.ChangeAt Go.RowKit Go.Joins
set_option linter.unusedVariables false
set_option linter.unusedSimpArgs false

theorem own : ownKnob Try.prog.godebug = none := by kernel_rfl
theorem laidOut : laidOutB Try.prog = true := by kernel_rfl
theorem wf_f64 {x : Nat} (h : (Lit.float .f64 x).wf = true) : okK .f64 x := by
  rw [okK64]; simpa [Lit.wf] using h
theorem trod_fl {H : Type} {enc : TypeId × Value → H} {P : Program} {w : World} {base fuel : Nat} {spare : Nat → Bool} {held : Bool} {t : TypeId} {cs : List Value} {x : DataW H × List MemPlace} {k : FloatKind} (ht : P.underlying t = some (.float k)) (h : DataW.trod enc P w base spare held fuel t cs = some x) : ∃ z, cs = [.float k z] ∧ x = (.lit (.float k z), []) ∧ (Lit.float k z).wf = true := by
  cases fuel with
  | zero => simp [DataW.trod] at h
  | succ n =>
    unfold DataW.trod at h
    rw [ht] at h
    split at h <;> simp_all

theorem cellsH : Try.prog.cellsOf 25 = 3 := by kernel_rfl
theorem sized_agg3 {H : Type} {P : Program} {ts : List TypeId} {ds : List (DataW H)} (h : (DataW.weightsEach P ts ds).all (· ≤ reachBytes) = true) {j : Nat} {t e : TypeId} {f0 f1 f2 : Field} {d0 d1 : DataW H} {elems spare : List (DataW H)} (ht : ts[j]? = some t) (hd : ds[j]? = some (.agg [d0, d1, .slice elems spare])) (hu : P.underlying t = some (.struct #[f0, f1, f2])) (hu2 : P.underlying f2.type = some (.slice e)) :
    (elems.length + spare.length) * P.bytesOf e ≤ reachBytes := by
  have := List.all_eq_true.1 h _ (DataW.weights_mem_each ht hd ((elems.length + spare.length) * P.bytesOf e) (by simp [DataW.weights, DataW.weightsEach, hu, hu2]))
  simpa using this


set_option maxRecDepth 100000 in
set_option maxHeartbeats 8000000 in
theorem walk_bad (V : Value) (n : Nat) (xs ys : Nat → Nat) (k : Int) (r : Nat) (hr : okK .f64 r) (w : World) (hs : AnyS w V n xs ys) (hz : ¬ shE k r xs ys n = 0) : Calls Try.prog 4 #[.agg #[.int .u8 k, .float .f64 r, V]] w fun e w' => e = .returned (.bool true) ∧ Bel w w' := by
  obtain ⟨a, cap, rfl, _, _, hrng, o, _⟩ := id hs
  have q0 := cmp_eq .f64
  have q1 := fun (x y : Nat) (w : World) => run_equalIn_float Try.prog w 22 .f64 x y Try.underlying22
  have q3 := fun (d x y : Nat) (w : World) => run_equalIn_fl Try.prog w d 22 .f64 x y Try.underlying22
  have q4 := fun (x y : Nat) (w : World) => run_equalIn_fl Try.prog w 9997 22 .f64 x y Try.underlying22
  have q5 := fun (x y : Nat) (w : World) => run_equalIn_fl Try.prog w 9996 22 .f64 x y Try.underlying22
  have e00 : eqK .f64 0 0 = true := by decide +kernel
  obtain ⟨v, hE⟩ : ∃ v, shE k r xs ys n = v := ⟨_, rfl⟩
  have hB4 : boxA k r xs ys n = .agg #[.float .f64 0, .float .f64 0, .float .f64 0, .float .f64 0] := by unfold boxA; rw [if_neg hz]
  rw [hE] at hz
  have z0_0 : (w.alloc (.cells #[.int .u8 k, .float .f64 r, .slice a n cap] 25)).cell? ⟨w.heap.size, 0, none⟩ = some (.int .u8 k) := by rw [World.cell?_alloc_new]; rfl
  have z0_1 : (w.alloc (.cells #[.int .u8 k, .float .f64 r, .slice a n cap] 25)).cell? ⟨w.heap.size, 1, none⟩ = some (.float .f64 r) := by rw [World.cell?_alloc_new]; rfl
  have z0_2 : (w.alloc (.cells #[.int .u8 k, .float .f64 r, .slice a n cap] 25)).cell? ⟨w.heap.size, 2, none⟩ = some (.slice a n cap) := by rw [World.cell?_alloc_new]; rfl
  have B0 : Bel w (w.alloc (.cells #[.int .u8 k, .float .f64 r, .slice a n cap] 25)) := bl_alloc (bl_refl w) _ _
  have S0 := z0_0
  have S1 := z0_1
  have S2 := z0_2
  clear z0_0 z0_1 z0_2
  replace hs := hs.bel B0
  have Bc := B0
  clear B0
  go_enter Try.func4, Try.ntmps4
  go_wp2_with (first | (go_at_call 20; refine (alive7 _).mono ?_; rintro e w1 ⟨rfl, hb⟩; replace Bc := bl_trans Bc hb; replace S0 := keep hb S0; replace S1 := keep hb S1; replace S2 := keep hb S2; replace hs := hs.bel hb) | (go_at_call 8; refine (sBox_any _ n xs ys k r _ hs hr).mono ?_; rintro e w2 ⟨rfl, hb⟩; rw [hB4, hE]; replace Bc := bl_trans Bc hb; replace S0 := keep hb S0; replace S1 := keep hb S1; replace S2 := keep hb S2; replace hs := (hs.bel hb).bel (bl_alloc (bl_refl _) #[.float .f64 0, .float .f64 0, .float .f64 0, .float .f64 0] 31); replace S0 := up_alloc (o := .cells #[.float .f64 0, .float .f64 0, .float .f64 0, .float .f64 0] 31) S0; replace S1 := up_alloc (o := .cells #[.float .f64 0, .float .f64 0, .float .f64 0, .float .f64 0] 31) S1; replace S2 := up_alloc (o := .cells #[.float .f64 0, .float .f64 0, .float .f64 0, .float .f64 0] 31) S2; replace Bc := bl_alloc Bc #[.float .f64 0, .float .f64 0, .float .f64 0, .float .f64 0] 31; obtain ⟨A0, A1, A2, A3⟩ := new4 w2 31 (.float .f64 0) (.float .f64 0) (.float .f64 0) (.float .f64 0)) | (go_at_call 21; refine (check_any _ n xs ys k r _ hs).mono ?_; rintro e w3 ⟨rfl, hb⟩; rw [hE]; replace Bc := bl_trans Bc hb; replace S0 := keep hb S0; replace S1 := keep hb S1; replace S2 := keep hb S2; replace A0 := keep hb A0; replace A1 := keep hb A1; replace A2 := keep hb A2; replace A3 := keep hb A3; replace hs := hs.bel hb))
  go_ret
  exact ⟨rfl, Bc⟩

set_option maxRecDepth 100000 in
set_option maxHeartbeats 32000000 in
theorem walk_good (V : Value) (n : Nat) (xs ys : Nat → Nat) (k : Int) (r : Nat) (hr : okK .f64 r) (w : World) (hs : AnyS w V n xs ys) (hz : shE k r xs ys n = 0) : Calls Try.prog 4 #[.agg #[.int .u8 k, .float .f64 r, V]] w fun e w' => e = .returned (.bool true) ∧ Bel w w' := by
  obtain ⟨a, cap, rfl, hcc, hml, hrng, o, hA⟩ := id hs
  have q0 := cmp_ne .f64
  obtain ⟨_, hn1, _, _⟩ := sh_gd o hr hz
  obtain ⟨hp, b, off, rfl, hsl⟩ : 0 < n ∧ ∃ b off, a = some ⟨b, off, none⟩ ∧ Sl w b off n xs ys := by
    rcases hA with e | e
    · omega
    · exact e
  have hb0 := hsl.lt hp
  have hE := hz
  obtain ⟨b0, b1, b2, b3, hB4, _, _, _, _⟩ := boxA_ok (k := k) o hr
  have E0 := end0 o hr hz
  have E1 := end1 o hr hz
  have E2 := end2 o hr hz
  have E3 := end3 o hr hz
  obtain ⟨eb0, eb1, eb2, eb3⟩ : bxL k r xs n = b0 ∧ bxL k r ys n = b1 ∧ bxH k r xs n = b2 ∧ bxH k r ys n = b3 := by
    unfold boxA at hB4
    rw [if_pos hz] at hB4
    simpa using hB4
  rw [eb2] at E0
  rw [eb3] at E1
  rw [eb0] at E2
  rw [eb1] at E3
  have x0 : aE k r xs ys n 4607182418800017408 0 = 0 := aE_axis hz (by decide +kernel)
  obtain ⟨fx0, hfx0⟩ : ∃ x, farX k r xs ys n 4607182418800017408 0 = x := ⟨_, rfl⟩
  obtain ⟨fy0, hfy0⟩ : ∃ x, farY k r xs ys n 4607182418800017408 0 = x := ⟨_, rfl⟩
  have x1 : aE k r xs ys n 0 4607182418800017408 = 0 := aE_axis hz (by decide +kernel)
  obtain ⟨fx1, hfx1⟩ : ∃ x, farX k r xs ys n 0 4607182418800017408 = x := ⟨_, rfl⟩
  obtain ⟨fy1, hfy1⟩ : ∃ x, farY k r xs ys n 0 4607182418800017408 = x := ⟨_, rfl⟩
  have x2 : aE k r xs ys n 13830554455654793216 0 = 0 := aE_axis hz (by decide +kernel)
  obtain ⟨fx2, hfx2⟩ : ∃ x, farX k r xs ys n 13830554455654793216 0 = x := ⟨_, rfl⟩
  obtain ⟨fy2, hfy2⟩ : ∃ x, farY k r xs ys n 13830554455654793216 0 = x := ⟨_, rfl⟩
  have x3 : aE k r xs ys n 0 13830554455654793216 = 0 := aE_axis hz (by decide +kernel)
  obtain ⟨fx3, hfx3⟩ : ∃ x, farX k r xs ys n 0 13830554455654793216 = x := ⟨_, rfl⟩
  obtain ⟨fy3, hfy3⟩ : ∃ x, farY k r xs ys n 0 13830554455654793216 = x := ⟨_, rfl⟩
  rw [hfx0] at E0
  rw [hfy1] at E1
  rw [hfx2] at E2
  rw [hfy3] at E3
  have z0_0 : (w.alloc (.cells #[.int .u8 k, .float .f64 r, .slice (some ⟨b, off, none⟩) n cap] 25)).cell? ⟨w.heap.size, 0, none⟩ = some (.int .u8 k) := by rw [World.cell?_alloc_new]; rfl
  have z0_1 : (w.alloc (.cells #[.int .u8 k, .float .f64 r, .slice (some ⟨b, off, none⟩) n cap] 25)).cell? ⟨w.heap.size, 1, none⟩ = some (.float .f64 r) := by rw [World.cell?_alloc_new]; rfl
  have z0_2 : (w.alloc (.cells #[.int .u8 k, .float .f64 r, .slice (some ⟨b, off, none⟩) n cap] 25)).cell? ⟨w.heap.size, 2, none⟩ = some (.slice (some ⟨b, off, none⟩) n cap) := by rw [World.cell?_alloc_new]; rfl
  have B0 : Bel w (w.alloc (.cells #[.int .u8 k, .float .f64 r, .slice (some ⟨b, off, none⟩) n cap] 25)) := bl_alloc (bl_refl w) _ _
  have S0 := z0_0
  have S1 := z0_1
  have S2 := z0_2
  clear z0_0 z0_1 z0_2
  replace hs := hs.bel B0
  have Bc := B0
  clear B0
  go_enter Try.func4, Try.ntmps4
  go_wp2_with (first | (go_at_call 20; refine (alive7 _).mono ?_; rintro e w1 ⟨rfl, hb⟩; replace Bc := bl_trans Bc hb; replace S0 := keep hb S0; replace S1 := keep hb S1; replace S2 := keep hb S2; replace hs := hs.bel hb) | (go_at_call 8; refine (sBox_any _ n xs ys k r _ hs hr).mono ?_; rintro e w2 ⟨rfl, hb⟩; rw [hB4, hE]; replace Bc := bl_trans Bc hb; replace S0 := keep hb S0; replace S1 := keep hb S1; replace S2 := keep hb S2; replace hs := (hs.bel hb).bel (bl_alloc (bl_refl _) #[.float .f64 b0, .float .f64 b1, .float .f64 b2, .float .f64 b3] 31); replace S0 := up_alloc (o := .cells #[.float .f64 b0, .float .f64 b1, .float .f64 b2, .float .f64 b3] 31) S0; replace S1 := up_alloc (o := .cells #[.float .f64 b0, .float .f64 b1, .float .f64 b2, .float .f64 b3] 31) S1; replace S2 := up_alloc (o := .cells #[.float .f64 b0, .float .f64 b1, .float .f64 b2, .float .f64 b3] 31) S2; replace Bc := bl_alloc Bc #[.float .f64 b0, .float .f64 b1, .float .f64 b2, .float .f64 b3] 31; obtain ⟨A0, A1, A2, A3⟩ := new4 w2 31 (.float .f64 b0) (.float .f64 b1) (.float .f64 b2) (.float .f64 b3)) | (go_at_call 21; refine (check_any _ n xs ys k r _ hs).mono ?_; rintro e w3 ⟨rfl, hb⟩; rw [hE]; replace Bc := bl_trans Bc hb; replace S0 := keep hb S0; replace S1 := keep hb S1; replace S2 := keep hb S2; replace A0 := keep hb A0; replace A1 := keep hb A1; replace A2 := keep hb A2; replace A3 := keep hb A3; replace hs := hs.bel hb))
  have LW := Bc.size
  have D0 : ((w3.alloc (.cells #[.float .f64 0, .float .f64 0] 27)).drew).cell? ⟨w.heap.size, 0, none⟩ = _ := up_drew (up_alloc S0)
  have D1 : ((w3.alloc (.cells #[.float .f64 0, .float .f64 0] 27)).drew).cell? ⟨w.heap.size, 1, none⟩ = _ := up_drew (up_alloc S1)
  have D2 : ((w3.alloc (.cells #[.float .f64 0, .float .f64 0] 27)).drew).cell? ⟨w.heap.size, 2, none⟩ = _ := up_drew (up_alloc S2)
  go_cut [6, 7] from 38 to 43 (fun p' e' wx => ∃ b, p' = .pointer (some ⟨b, 0, none⟩) ∧ Bel w3 wx ∧ wx.cell? ⟨b, 0, none⟩ = some (.float .f64 fx0) ∧ wx.cell? ⟨b, 1, none⟩ = some (.float .f64 fy0) ∧ e' = .int .i64 0)
  case first =>
    go_region_with (first | (go_at_call 22; refine (v_any _ _ _).mono ?_; rintro e wv ⟨rfl, hv⟩; (first | (have Bv : Bel w3 wv := bl_trans (bl_drew (bl_refl _)) hv) | (have Bv : Bel w3 wv := bl_trans (bl_drew (bl_alloc (bl_refl _) _ _)) hv; have K0 : wv.cell? ⟨w3.heap.size, 0, none⟩ = some (.float .f64 0) := keep hv (up_drew (new2 w3 27 (.float .f64 0) (.float .f64 0)).1); have K1 : wv.cell? ⟨w3.heap.size, 1, none⟩ = some (.float .f64 0) := keep hv (up_drew (new2 w3 27 (.float .f64 0) (.float .f64 0)).2.1))); have S0' := keep Bv S0; have S1' := keep Bv S1; have S2' := keep Bv S2; have T0' := up_alloc (o := (.cells #[.float .f64 0, .float .f64 0] 27)) S0'; have T1' := up_alloc (o := (.cells #[.float .f64 0, .float .f64 0] 27)) S1'; have T2' := up_alloc (o := (.cells #[.float .f64 0, .float .f64 0] 27)) S2') | (go_at_call 12; refine (sFar_any _ n xs ys k r _ (by first | exact hs.bel Bv | exact hs.bel (bl_alloc Bv _ _)) hr 4607182418800017408 0 (by rw [okK64]; decide) (by rw [okK64]; decide)).mono ?_; rintro e wf ⟨rfl, hb⟩; rw [hfx0, hfy0, x0]; (first | (have Bf := bl_trans Bv hb) | (have Bf := bl_trans (bl_alloc Bv _ _) hb; have K0' := keep hb (new2 wv 27 (.float .f64 0) (.float .f64 0)).1; have K1' := keep hb (new2 wv 27 (.float .f64 0) (.float .f64 0)).2.1)); have Bw := bl_trans Bc Bf; (try replace K0 := keep hb K0); (try replace K1 := keep hb K1); have Z1 := fun o => (Bw.2 ⟨w3.heap.size, o, none⟩).trans (fresh_frozen LW); have Z3 := fun o => (Bw.2 ⟨wv.heap.size, o, none⟩).trans (fresh_frozen (Nat.le_trans LW Bv.size))))
    all_goals
      go_wp2
      go_meet
      first | exact ⟨_, rfl, bl_alloc Bf _ _, (new2 wf 27 (.float .f64 fx0) (.float .f64 fy0)).1, (new2 wf 27 (.float .f64 fx0) (.float .f64 fy0)).2.1, rfl⟩ | exact ⟨_, rfl, bl_set (bl_set Bf Bv.size) Bv.size, (set2 K0' K1').1, (set2 K0' K1').2, rfl⟩ | exact ⟨_, rfl, bl_set (bl_set Bf (Nat.le_refl _)) (Nat.le_refl _), (set2 K0 K1).1, (set2 K0 K1).2, rfl⟩
  case rest =>
    obtain ⟨pb0, rfl, Bx, P00, P01, rfl⟩ := hcut
    obtain ⟨wb0, hwb⟩ : ∃ x, wc = x := ⟨_, rfl⟩
    rw [hwb] at Bx P00 P01 ⊢
    clear hwb D0 D1 D2 LW
    replace S0 := keep Bx S0; replace S1 := keep Bx S1; replace S2 := keep Bx S2; replace A0 := keep Bx A0; replace A1 := keep Bx A1; replace A2 := keep Bx A2; replace A3 := keep Bx A3
    replace hs := hs.bel Bx
    replace Bc := bl_trans Bc Bx
    clear Bx
    go_wp2
    have LW := Bc.size
    have D0 : ((wb0.alloc (.cells #[.float .f64 0, .float .f64 0] 27)).drew).cell? ⟨w.heap.size, 0, none⟩ = _ := up_drew (up_alloc S0)
    have D1 : ((wb0.alloc (.cells #[.float .f64 0, .float .f64 0] 27)).drew).cell? ⟨w.heap.size, 1, none⟩ = _ := up_drew (up_alloc S1)
    have D2 : ((wb0.alloc (.cells #[.float .f64 0, .float .f64 0] 27)).drew).cell? ⟨w.heap.size, 2, none⟩ = _ := up_drew (up_alloc S2)
    go_cut [8, 9] from 44 to 49 (fun p' e' wx => ∃ b, p' = .pointer (some ⟨b, 0, none⟩) ∧ Bel wb0 wx ∧ wx.cell? ⟨b, 0, none⟩ = some (.float .f64 fx1) ∧ wx.cell? ⟨b, 1, none⟩ = some (.float .f64 fy1) ∧ e' = .int .i64 0)
    case first =>
      go_region_with (first | (go_at_call 22; refine (v_any _ _ _).mono ?_; rintro e wv ⟨rfl, hv⟩; (first | (have Bv : Bel wb0 wv := bl_trans (bl_drew (bl_refl _)) hv) | (have Bv : Bel wb0 wv := bl_trans (bl_drew (bl_alloc (bl_refl _) _ _)) hv; have K0 : wv.cell? ⟨wb0.heap.size, 0, none⟩ = some (.float .f64 0) := keep hv (up_drew (new2 wb0 27 (.float .f64 0) (.float .f64 0)).1); have K1 : wv.cell? ⟨wb0.heap.size, 1, none⟩ = some (.float .f64 0) := keep hv (up_drew (new2 wb0 27 (.float .f64 0) (.float .f64 0)).2.1))); have S0' := keep Bv S0; have S1' := keep Bv S1; have S2' := keep Bv S2; have T0' := up_alloc (o := (.cells #[.float .f64 0, .float .f64 0] 27)) S0'; have T1' := up_alloc (o := (.cells #[.float .f64 0, .float .f64 0] 27)) S1'; have T2' := up_alloc (o := (.cells #[.float .f64 0, .float .f64 0] 27)) S2') | (go_at_call 12; refine (sFar_any _ n xs ys k r _ (by first | exact hs.bel Bv | exact hs.bel (bl_alloc Bv _ _)) hr 0 4607182418800017408 (by rw [okK64]; decide) (by rw [okK64]; decide)).mono ?_; rintro e wf ⟨rfl, hb⟩; rw [hfx1, hfy1, x1]; (first | (have Bf := bl_trans Bv hb) | (have Bf := bl_trans (bl_alloc Bv _ _) hb; have K0' := keep hb (new2 wv 27 (.float .f64 0) (.float .f64 0)).1; have K1' := keep hb (new2 wv 27 (.float .f64 0) (.float .f64 0)).2.1)); have Bw := bl_trans Bc Bf; (try replace K0 := keep hb K0); (try replace K1 := keep hb K1); have Z1 := fun o => (Bw.2 ⟨wb0.heap.size, o, none⟩).trans (fresh_frozen LW); have Z3 := fun o => (Bw.2 ⟨wv.heap.size, o, none⟩).trans (fresh_frozen (Nat.le_trans LW Bv.size))))
      all_goals
        go_wp2
        go_meet
        first | exact ⟨_, rfl, bl_alloc Bf _ _, (new2 wf 27 (.float .f64 fx1) (.float .f64 fy1)).1, (new2 wf 27 (.float .f64 fx1) (.float .f64 fy1)).2.1, rfl⟩ | exact ⟨_, rfl, bl_set (bl_set Bf Bv.size) Bv.size, (set2 K0' K1').1, (set2 K0' K1').2, rfl⟩ | exact ⟨_, rfl, bl_set (bl_set Bf (Nat.le_refl _)) (Nat.le_refl _), (set2 K0 K1).1, (set2 K0 K1).2, rfl⟩
    case rest =>
      obtain ⟨pb1, rfl, Bx, P10, P11, rfl⟩ := hcut
      obtain ⟨wb1, hwb⟩ : ∃ x, wc = x := ⟨_, rfl⟩
      rw [hwb] at Bx P10 P11 ⊢
      clear hwb D0 D1 D2 LW
      replace S0 := keep Bx S0; replace S1 := keep Bx S1; replace S2 := keep Bx S2; replace A0 := keep Bx A0; replace A1 := keep Bx A1; replace A2 := keep Bx A2; replace A3 := keep Bx A3; replace P00 := keep Bx P00; replace P01 := keep Bx P01
      replace hs := hs.bel Bx
      replace Bc := bl_trans Bc Bx
      clear Bx
      go_wp2
      have LW := Bc.size
      have D0 : ((wb1.alloc (.cells #[.float .f64 0, .float .f64 0] 27)).drew).cell? ⟨w.heap.size, 0, none⟩ = _ := up_drew (up_alloc S0)
      have D1 : ((wb1.alloc (.cells #[.float .f64 0, .float .f64 0] 27)).drew).cell? ⟨w.heap.size, 1, none⟩ = _ := up_drew (up_alloc S1)
      have D2 : ((wb1.alloc (.cells #[.float .f64 0, .float .f64 0] 27)).drew).cell? ⟨w.heap.size, 2, none⟩ = _ := up_drew (up_alloc S2)
      go_cut [10, 11] from 50 to 55 (fun p' e' wx => ∃ b, p' = .pointer (some ⟨b, 0, none⟩) ∧ Bel wb1 wx ∧ wx.cell? ⟨b, 0, none⟩ = some (.float .f64 fx2) ∧ wx.cell? ⟨b, 1, none⟩ = some (.float .f64 fy2) ∧ e' = .int .i64 0)
      case first =>
        go_region_with (first | (go_at_call 22; refine (v_any _ _ _).mono ?_; rintro e wv ⟨rfl, hv⟩; (first | (have Bv : Bel wb1 wv := bl_trans (bl_drew (bl_refl _)) hv) | (have Bv : Bel wb1 wv := bl_trans (bl_drew (bl_alloc (bl_refl _) _ _)) hv; have K0 : wv.cell? ⟨wb1.heap.size, 0, none⟩ = some (.float .f64 0) := keep hv (up_drew (new2 wb1 27 (.float .f64 0) (.float .f64 0)).1); have K1 : wv.cell? ⟨wb1.heap.size, 1, none⟩ = some (.float .f64 0) := keep hv (up_drew (new2 wb1 27 (.float .f64 0) (.float .f64 0)).2.1))); have S0' := keep Bv S0; have S1' := keep Bv S1; have S2' := keep Bv S2; have T0' := up_alloc (o := (.cells #[.float .f64 0, .float .f64 0] 27)) S0'; have T1' := up_alloc (o := (.cells #[.float .f64 0, .float .f64 0] 27)) S1'; have T2' := up_alloc (o := (.cells #[.float .f64 0, .float .f64 0] 27)) S2') | (go_at_call 12; refine (sFar_any _ n xs ys k r _ (by first | exact hs.bel Bv | exact hs.bel (bl_alloc Bv _ _)) hr 13830554455654793216 0 (by rw [okK64]; decide) (by rw [okK64]; decide)).mono ?_; rintro e wf ⟨rfl, hb⟩; rw [hfx2, hfy2, x2]; (first | (have Bf := bl_trans Bv hb) | (have Bf := bl_trans (bl_alloc Bv _ _) hb; have K0' := keep hb (new2 wv 27 (.float .f64 0) (.float .f64 0)).1; have K1' := keep hb (new2 wv 27 (.float .f64 0) (.float .f64 0)).2.1)); have Bw := bl_trans Bc Bf; (try replace K0 := keep hb K0); (try replace K1 := keep hb K1); have Z1 := fun o => (Bw.2 ⟨wb1.heap.size, o, none⟩).trans (fresh_frozen LW); have Z3 := fun o => (Bw.2 ⟨wv.heap.size, o, none⟩).trans (fresh_frozen (Nat.le_trans LW Bv.size))))
        all_goals
          go_wp2
          go_meet
          first | exact ⟨_, rfl, bl_alloc Bf _ _, (new2 wf 27 (.float .f64 fx2) (.float .f64 fy2)).1, (new2 wf 27 (.float .f64 fx2) (.float .f64 fy2)).2.1, rfl⟩ | exact ⟨_, rfl, bl_set (bl_set Bf Bv.size) Bv.size, (set2 K0' K1').1, (set2 K0' K1').2, rfl⟩ | exact ⟨_, rfl, bl_set (bl_set Bf (Nat.le_refl _)) (Nat.le_refl _), (set2 K0 K1).1, (set2 K0 K1).2, rfl⟩
      case rest =>
        obtain ⟨pb2, rfl, Bx, P20, P21, rfl⟩ := hcut
        obtain ⟨wb2, hwb⟩ : ∃ x, wc = x := ⟨_, rfl⟩
        rw [hwb] at Bx P20 P21 ⊢
        clear hwb D0 D1 D2 LW
        replace S0 := keep Bx S0; replace S1 := keep Bx S1; replace S2 := keep Bx S2; replace A0 := keep Bx A0; replace A1 := keep Bx A1; replace A2 := keep Bx A2; replace A3 := keep Bx A3; replace P00 := keep Bx P00; replace P01 := keep Bx P01; replace P10 := keep Bx P10; replace P11 := keep Bx P11
        replace hs := hs.bel Bx
        replace Bc := bl_trans Bc Bx
        clear Bx
        go_wp2
        have LW := Bc.size
        have D0 : ((wb2.alloc (.cells #[.float .f64 0, .float .f64 0] 27)).drew).cell? ⟨w.heap.size, 0, none⟩ = _ := up_drew (up_alloc S0)
        have D1 : ((wb2.alloc (.cells #[.float .f64 0, .float .f64 0] 27)).drew).cell? ⟨w.heap.size, 1, none⟩ = _ := up_drew (up_alloc S1)
        have D2 : ((wb2.alloc (.cells #[.float .f64 0, .float .f64 0] 27)).drew).cell? ⟨w.heap.size, 2, none⟩ = _ := up_drew (up_alloc S2)
        go_cut [12, 13] from 56 to 61 (fun p' e' wx => ∃ b, p' = .pointer (some ⟨b, 0, none⟩) ∧ Bel wb2 wx ∧ wx.cell? ⟨b, 0, none⟩ = some (.float .f64 fx3) ∧ wx.cell? ⟨b, 1, none⟩ = some (.float .f64 fy3) ∧ e' = .int .i64 0)
        case first =>
          go_region_with (first | (go_at_call 22; refine (v_any _ _ _).mono ?_; rintro e wv ⟨rfl, hv⟩; (first | (have Bv : Bel wb2 wv := bl_trans (bl_drew (bl_refl _)) hv) | (have Bv : Bel wb2 wv := bl_trans (bl_drew (bl_alloc (bl_refl _) _ _)) hv; have K0 : wv.cell? ⟨wb2.heap.size, 0, none⟩ = some (.float .f64 0) := keep hv (up_drew (new2 wb2 27 (.float .f64 0) (.float .f64 0)).1); have K1 : wv.cell? ⟨wb2.heap.size, 1, none⟩ = some (.float .f64 0) := keep hv (up_drew (new2 wb2 27 (.float .f64 0) (.float .f64 0)).2.1))); have S0' := keep Bv S0; have S1' := keep Bv S1; have S2' := keep Bv S2; have T0' := up_alloc (o := (.cells #[.float .f64 0, .float .f64 0] 27)) S0'; have T1' := up_alloc (o := (.cells #[.float .f64 0, .float .f64 0] 27)) S1'; have T2' := up_alloc (o := (.cells #[.float .f64 0, .float .f64 0] 27)) S2') | (go_at_call 12; refine (sFar_any _ n xs ys k r _ (by first | exact hs.bel Bv | exact hs.bel (bl_alloc Bv _ _)) hr 0 13830554455654793216 (by rw [okK64]; decide) (by rw [okK64]; decide)).mono ?_; rintro e wf ⟨rfl, hb⟩; rw [hfx3, hfy3, x3]; (first | (have Bf := bl_trans Bv hb) | (have Bf := bl_trans (bl_alloc Bv _ _) hb; have K0' := keep hb (new2 wv 27 (.float .f64 0) (.float .f64 0)).1; have K1' := keep hb (new2 wv 27 (.float .f64 0) (.float .f64 0)).2.1)); have Bw := bl_trans Bc Bf; (try replace K0 := keep hb K0); (try replace K1 := keep hb K1); have Z1 := fun o => (Bw.2 ⟨wb2.heap.size, o, none⟩).trans (fresh_frozen LW); have Z3 := fun o => (Bw.2 ⟨wv.heap.size, o, none⟩).trans (fresh_frozen (Nat.le_trans LW Bv.size))))
          all_goals
            go_wp2
            go_meet
            first | exact ⟨_, rfl, bl_alloc Bf _ _, (new2 wf 27 (.float .f64 fx3) (.float .f64 fy3)).1, (new2 wf 27 (.float .f64 fx3) (.float .f64 fy3)).2.1, rfl⟩ | exact ⟨_, rfl, bl_set (bl_set Bf Bv.size) Bv.size, (set2 K0' K1').1, (set2 K0' K1').2, rfl⟩ | exact ⟨_, rfl, bl_set (bl_set Bf (Nat.le_refl _)) (Nat.le_refl _), (set2 K0 K1).1, (set2 K0 K1).2, rfl⟩
        case rest =>
          obtain ⟨pb3, rfl, Bx, P30, P31, rfl⟩ := hcut
          obtain ⟨wb3, hwb⟩ : ∃ x, wc = x := ⟨_, rfl⟩
          rw [hwb] at Bx P30 P31 ⊢
          clear hwb D0 D1 D2 LW
          replace S0 := keep Bx S0; replace S1 := keep Bx S1; replace S2 := keep Bx S2; replace A0 := keep Bx A0; replace A1 := keep Bx A1; replace A2 := keep Bx A2; replace A3 := keep Bx A3; replace P00 := keep Bx P00; replace P01 := keep Bx P01; replace P10 := keep Bx P10; replace P11 := keep Bx P11; replace P20 := keep Bx P20; replace P21 := keep Bx P21
          replace hs := hs.bel Bx
          replace Bc := bl_trans Bc Bx
          clear Bx
          go_wp2
          go_loopw [14] (fun i' wr => ∃ j : Nat, j ≤ n ∧ i' = .int .i64 j ∧ Bel wb3 wr) (fun i' _ => n - (intOf i').toNat)
          case atStart => exact ⟨0, by omega, rfl, bl_refl _⟩
          case round =>
            obtain ⟨j, hj, rfl, hB⟩ := hrel
            have s0 := keep hB S0
            have s1 := keep hB S1
            have s2 := keep hB S2
            have hs2 := hs.bel hB
            by_cases hlt : j < n
            · have k1 : (j : Int) < (n : Int) := by omega
              by_cases hgo : j = 0 ∨ k = 3
              · obtain ⟨o1, o2⟩ := o j hlt
                have hoo := own_has o hr hz hlt hgo
                obtain ⟨c0, c1⟩ := (hsl.bel (bl_trans Bc hB)) j hlt
                have hbb := Nat.lt_of_lt_of_le hb0 (bl_trans Bc hB).size
                by_cases j0 : j = 0
                · have j0' : (j : Int) = 0 := by omega
                  go_wp2
                  clear j0' j0
                  go_region_with (first | (go_at_call 10; refine (sHas_any _ n xs ys k r _ (hs2.bel (bl_drew (bl_refl _))) hr (xs j) (ys j) o1 o2).mono ?_; rintro e w1 ⟨rfl, hb⟩; rw [hoo.1, hoo.2]))
                  all_goals
                    go_wp2
                    exact ⟨⟨j + 1, by omega, by go_num, bl_trans (bl_drew hB) hb⟩, by simp [intOf]; omega⟩
                · have j0' : ¬ (j : Int) = 0 := by omega
                  have k3 : (k == 3) = true := by have : k = 3 := by omega
                                                  rw [this]; rfl
                  go_wp2
                  clear j0' j0 k3
                  go_region_with (first | (go_at_call 10; refine (sHas_any _ n xs ys k r _ (hs2.bel (bl_drew (bl_refl _))) hr (xs j) (ys j) o1 o2).mono ?_; rintro e w1 ⟨rfl, hb⟩; rw [hoo.1, hoo.2]))
                  all_goals
                    go_wp2
                    exact ⟨⟨j + 1, by omega, by go_num, bl_trans (bl_drew hB) hb⟩, by simp [intOf]; omega⟩
              · have j0' : ¬ (j : Int) = 0 := by omega
                have k3 : ¬ k = 3 := by omega
                have k3b : (k == 3) = false := by simpa using k3
                have j0b : ((j : Int) == 0) = false := by simpa using j0'
                go_wp2
                go_ret
                exact ⟨rfl, bl_trans Bc hB⟩
            · have hkn : j = n := by omega
              subst hkn
              go_wp2
              go_ret
              exact ⟨rfl, bl_trans Bc hB⟩

theorem walk_any (V : Value) (n : Nat) (xs ys : Nat → Nat) (k : Int) (r : Nat) (hr : okK .f64 r) (w : World) (hs : AnyS w V n xs ys) : Calls Try.prog 4 #[.agg #[.int .u8 k, .float .f64 r, V]] w fun e w' => e = .returned (.bool true) ∧ Bel w w' := by
  by_cases hz : shE k r xs ys n = 0
  · exact walk_good V n xs ys k r hr w hs hz
  · exact walk_bad V n xs ys k r hr w hs hz

/-- a row of ways: none, or len of them in cells, with room for cap -/
def IsWays (w : World) (a : Option Addr) (len cap : Nat) : Prop :=
  (a = none ∧ len = 0 ∧ cap = 0) ∨ ∃ (x : Addr) (xs ys : Nat → Nat), a = some x ∧ len ≤ cap ∧ cap ≤ maxLen ∧ len * 16 ≤ 140737488351232 ∧ ∀ i, i < len → w.cell? (x.add (i * 2)) = some (.float .f64 (xs i)) ∧ w.cell? (x.add (i * 2 + 1)) = some (.float .f64 (ys i)) ∧ okK .f64 (xs i) ∧ okK .f64 (ys i)
theorem any_of {w : World} {a : Option Addr} {len cap : Nat} (h : IsWays w a len cap) : ∃ xs ys, AnyS w (.slice a len cap) len xs ys := by
  rcases h with ⟨rfl, rfl, rfl⟩ | ⟨x, xs, ys, rfl, hl, hm, hr, hcell⟩
  · exact ⟨fun _ => 0, fun _ => 0, _, _, rfl, Nat.le_refl _, by decide, by decide, fun i hi => by omega, .inl rfl⟩
  · refine ⟨xs, ys, _, _, rfl, hl, Nat.le_trans hl hm, hr, fun i hi => ⟨(hcell i hi).2.2.1, (hcell i hi).2.2.2⟩, ?_⟩
    rcases Nat.eq_zero_or_pos len with h0 | h0
    · exact .inl h0
    · right
      obtain ⟨b, off, spot⟩ := x
      have hspot : spot = none := by simpa [Addr.add] using World.cell?_spot (hcell 0 h0).1
      subst hspot
      refine ⟨h0, b, off, rfl, fun i hi => ⟨?_, ?_⟩⟩
      · have h := (hcell i hi).1
        rw [add_plain] at h
        exact h
      · have h := (hcell i hi).2.1
        rw [add_plain, ← Nat.add_assoc] at h
        exact h
theorem walk (n0 : Int) (rad0 : Nat) (or0 : okK .f64 rad0) (a0 : Option Addr) (len0 cap0 : Nat) (w : World) (h0 : IsWays w a0 len0 cap0) :
    Calls Try.prog 4 #[.agg #[.int .u8 n0, .float .f64 rad0, .slice a0 len0 cap0]] w fun e w' => e = .returned (.bool true) ∧ Below w.heap.size w w' := by
  obtain ⟨xs0, ys0, g0⟩ := any_of h0
  exact (walk_any _ _ xs0 ys0 n0 rad0 or0 w g0).mono fun e w' h => ⟨h.1, h.2.1⟩

set_option maxRecDepth 100000 in
set_option maxHeartbeats 2000000 in
theorem lifted (os : Os) (started : os.Started) (H : Type) (enc : TypeId × Value → H) :
    ReturnsInHanded {} Try.checked os 4 .any (Rows.shapeEndsSpec.pre6 enc Try.prog Try.f4 Rows.shapeEndsRow.domain false) (Rows.shapeEndsSpec.post enc Try.prog Try.f4 false true false false) := by
  refine returnsInHanded_of_change_sized (C := Try.checked) own started (by kernel_rfl) Try.func4
    (ChangeSpec.witness6 (enc := enc) (C := Try.checked) false ⟨#[], #[.agg #[.int .u8 0, .float .f64 0, .slice none 0 0]], []⟩ 8 (by kernel_rfl) (by kernel_rfl) (by kernel_rfl) (by kernel_rfl)) ?_
  intro W base args ds gs before hval0 hW hcnd hsz0 _
  have hsz : (DataW.weightsEach Try.prog (Try.f4.params.toList ++ Rows.shapeEndsSpec.plain.varTypes Try.prog) (ds ++ gs)).all (· ≤ reachBytes) = true := hsz0
  have hval : ∀ (j : Nat) t v, Try.f4.params[j]? = some t → args[j]? = some v → Value.okWide Try.prog W .any base t v := hval0
  have hW' := hW
  obtain ⟨p, q, hA0, hV, rfl, hfz, hnd⟩ := hW
  have hA : DataW.TrodAll enc Try.prog W 0 (fun _ => true) true Try.f4.params.toList args.toList ds p := hA0
  rw [Try.params4] at hA hval hsz
  obtain ⟨v0, vs0, d0, ds0, p0, q0, hargs, rfl, rfl, h0, r0⟩ := trodAll_cons hA
  obtain ⟨rfl, rfl, rfl⟩ := trodAll_nil r0
  obtain rfl : args = #[v0] := by cases args; simp_all
  obtain ⟨rfl, rfl⟩ := trodVars_none hV
  have k0 := h0
  have lt0 : ∀ x ∈ p0, x.block < W.heap.size := by obtain ⟨m, hm⟩ := k0; exact DataW.trod_lt m _ _ _ hm
  obtain ⟨c0, kk0, b0, z0, u0, t0, m0, rfl, hd0, hp0, hz0, hu0, ht0⟩ := open_agg3 Try.underlying25 (by kernel_rfl) cellsH (hval 0 25 v0 rfl rfl) h0
  obtain ⟨n0, e0, hn0, wn0⟩ := DataW.trod_int Try.underlying5 hz0
  obtain ⟨rad0, e1, hr0, wr0⟩ := trod_fl Try.underlying22 hu0
  simp at e0 e1
  subst e0 e1
  have w0 : ∃ a len cap, b0 = .slice a len cap ∧ IsWays W a len cap := by
    rcases Go.Deep.open_slice_pairs Try.underlying23 Try.underlying27 (by kernel_rfl) rfl rfl (by kernel_rfl) (by kernel_rfl) ht0 with ⟨hcs, _⟩ | ⟨x, l, c, m, n, V0, V1, D0, D1, P0, P1, hcs, _, hl, hm, hmm, hx, hcell⟩
    · simp at hcs
      exact ⟨_, _, _, hcs, .inl ⟨rfl, rfl, rfl⟩⟩
    · simp at hcs
      rw [hx] at hd0
      have hr := sized_agg3 (j := 0) hsz rfl (by rw [hd0]; rfl) Try.underlying25 Try.underlying23
      rw [show Try.prog.bytesOf 27 = 16 by kernel_rfl] at hr
      simp only [List.length_map, List.length_range, reachBytes] at hr
      have hlm : l ≤ m := by rw [hmm]; split <;> omega
      have V : ∀ i, ∃ xy : Nat × Nat, i < m → V0 i = .float .f64 xy.1 ∧ V1 i = .float .f64 xy.2 ∧ okK .f64 xy.1 ∧ okK .f64 xy.2 := by
        intro i
        by_cases hi : i < m
        · obtain ⟨_, _, h3, h4⟩ := hcell i hi
          obtain ⟨x, e0, _, wx⟩ := trod_fl Try.underlying22 h3
          obtain ⟨y, e1, _, wy⟩ := trod_fl Try.underlying22 h4
          simp at e0 e1
          exact ⟨(x, y), fun _ => ⟨e0, e1, wf_f64 wx, wf_f64 wy⟩⟩
        · exact ⟨(0, 0), fun h => absurd h hi⟩
      have V' := Classical.axiomOfChoice V
      obtain ⟨f, hf'⟩ := V'
      refine ⟨_, _, _, hcs, .inr ⟨x, fun i => (f i).1, fun i => (f i).2, rfl, hl, hm, by omega, fun i hi => ?_⟩⟩
      obtain ⟨e0, e1, o0, o1⟩ := hf' i (by omega)
      obtain ⟨c0, c1, _, _⟩ := hcell i (by omega)
      rw [e0] at c0
      rw [e1] at c1
      exact ⟨c0, c1, o0, o1⟩
  obtain ⟨a0, len0, cap0, rfl, w0⟩ := w0
  clear hA0 hval0 hsz0
  refine (walk n0 rad0 (wf_f64 wr0) a0 len0 cap0 W w0).mono fun e W' ⟨he, bel0⟩ => ?_
  have bel := bel0
  subst he
  exact ⟨_, rfl, _, _, _, [], _, [], hW', trodAll_mk1 (shut_bool Try.underlying4 _), (trodAll_cons_mk (Below.trod laidOut (by kernel_rfl) (of_decide_eq_true (by kernel_rfl)) k0 bel lt0) trodAll_mk0), rfl, bel.frame _, fun h => by cases h⟩

theorem over : Rows.shapeEndsRow.holds Try.pinned (OpenSpec.ofChange Rows.shapeEndsSpec) :=
  OpenClaim.holds_of_wide 4 Try.f4 rfl rfl rfl rfl rfl rfl rfl ⟨rfl, rfl, rfl, rfl, rfl⟩ rfl rfl rfl rfl rfl (by kernel_rfl) Try.func4 (by kernel_rfl)
    (of_decide_eq_true (by kernel_rfl)) (by unfold Func.isWrapper; first | (rw [if_pos (by decide +kernel)]; kernel_rfl) | (rw [if_neg (by decide +kernel)]; exact ⟨rfl, rfl⟩))
    (fun os started H enc _ => lifted os started H enc)

theorem proved : Rows.ShapeEndsSaid :=
  over
#print axioms proved
end Go.Proofs.Ytiamgphpcjokmab.shapeEnds
