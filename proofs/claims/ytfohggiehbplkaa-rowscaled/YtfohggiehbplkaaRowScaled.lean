/-
  'tumblelaw20.RowScaled': in a world 2^k times as great a row goes likewise, bit by bit (k from -8 to 8), for every row, every two stills and every power; no condition.
-/
import Derived.Test.YtfohggiehbplkaaRows
import Derived.Test.YtfohggiehbplkaaWse
import Derived.Test.YtfohggiehbplkaaWh
import Derived.WalkKit
import Derived.ProofKit
import Derived.OpenShut
import Derived.WalkLawsBesides
import Derived.WalkSpells
import Derived.Lib.SmallJoins
import Derived.Laws.Cover2
import Derived.Laws.AppendOwn
import Derived.Laws.OwnMore
import Derived.Laws.AppendOwnNone
import Derived.Deep.RegionHeld3
import Derived.Deep.RegionWith
import Derived.Deep.SlicePairs
import Derived.Deep.Strs
import Derived.SizedLaws
import Derived.Below
import Derived.ChangeArms
import Derived.OpenShut
import Derived.Laws.IdiomArrays
import Derived.Laws.StructEq
namespace Go.Proofs.Ytfohggiehbplkaa.rowScaled
open Go.ChangeShapes Go.WideShapes Go.ChangeAt Go.RowKit Go.Joins
set_option linter.unusedVariables false
set_option linter.unusedSimpArgs false

theorem own : ownKnob Try.prog.godebug = none := by kernel_rfl
theorem laidOut : laidOutB Try.prog = true := by kernel_rfl
theorem wf_f64 {x : Nat} (h : (Lit.float .f64 x).wf = true) : okK .f64 x := by
  rw [okK64]; simpa [Lit.wf] using h
section
variable {H : Type} {enc : TypeId × Value → H} {P : Program} {w : World} {base fuel : Nat} {spare : Nat → Bool} {held : Bool} {t : TypeId} {cs : List Value} {x : DataW H × List MemPlace}
theorem trod_fl {k : FloatKind} (ht : P.underlying t = some (.float k)) (h : DataW.trod enc P w base spare held fuel t cs = some x) : ∃ y, cs = [.float k y] ∧ (Lit.float k y).wf = true := by
  cases fuel with
  | zero => simp [DataW.trod] at h
  | succ n =>
    unfold DataW.trod at h
    rw [ht] at h
    split at h <;> simp_all
theorem trod_bo (ht : P.underlying t = some .bool) (h : DataW.trod enc P w base spare held fuel t cs = some x) : ∃ y, cs = [.bool y] := by
  cases fuel with
  | zero => simp [DataW.trod] at h
  | succ n =>
    unfold DataW.trod at h
    rw [ht] at h
    split at h <;> simp_all
theorem trod_in {k : IntKind} (ht : P.underlying t = some (.int k)) (h : DataW.trod enc P w base spare held fuel t cs = some x) : ∃ n, cs = [.int k n] ∧ (Lit.int k n).wf = true := by
  cases fuel with
  | zero => simp [DataW.trod] at h
  | succ n =>
    unfold DataW.trod at h
    rw [ht] at h
    split at h <;> simp_all
end
theorem cellsF : Try.prog.cellsOf 24 = 1 := by kernel_rfl
theorem cellsV : Try.prog.cellsOf 26 = 2 := by kernel_rfl
theorem cellsI : Try.prog.cellsOf 3 = 1 := by kernel_rfl
theorem cellsR : Try.prog.cellsOf 43 = 14 := by kernel_rfl
theorem list14 {α : Type} {l : List α} (h : l.length = 14) : ∃ c0 c1 c2 c3 c4 c5 c6 c7 c8 c9 c10 c11 c12 c13, l = [c0, c1, c2, c3, c4, c5, c6, c7, c8, c9, c10, c11, c12, c13] := by
  obtain _ | ⟨c0, l⟩ := l
  · simp at h
  obtain _ | ⟨c1, l⟩ := l
  · simp at h
  obtain _ | ⟨c2, l⟩ := l
  · simp at h
  obtain _ | ⟨c3, l⟩ := l
  · simp at h
  obtain _ | ⟨c4, l⟩ := l
  · simp at h
  obtain _ | ⟨c5, l⟩ := l
  · simp at h
  obtain _ | ⟨c6, l⟩ := l
  · simp at h
  obtain _ | ⟨c7, l⟩ := l
  · simp at h
  obtain _ | ⟨c8, l⟩ := l
  · simp at h
  obtain _ | ⟨c9, l⟩ := l
  · simp at h
  obtain _ | ⟨c10, l⟩ := l
  · simp at h
  obtain _ | ⟨c11, l⟩ := l
  · simp at h
  obtain _ | ⟨c12, l⟩ := l
  · simp at h
  obtain _ | ⟨c13, l⟩ := l
  · simp at h
  obtain _ | ⟨c, l⟩ := l
  · exact ⟨c0, c1, c2, c3, c4, c5, c6, c7, c8, c9, c10, c11, c12, c13, rfl⟩
  · simp at h
theorem list12 {α : Type} {l : List α} (h : l.length = 12) : ∃ c0 c1 c2 c3 c4 c5 c6 c7 c8 c9 c10 c11, l = [c0, c1, c2, c3, c4, c5, c6, c7, c8, c9, c10, c11] := by
  obtain _ | ⟨c0, l⟩ := l
  · simp at h
  obtain _ | ⟨c1, l⟩ := l
  · simp at h
  obtain _ | ⟨c2, l⟩ := l
  · simp at h
  obtain _ | ⟨c3, l⟩ := l
  · simp at h
  obtain _ | ⟨c4, l⟩ := l
  · simp at h
  obtain _ | ⟨c5, l⟩ := l
  · simp at h
  obtain _ | ⟨c6, l⟩ := l
  · simp at h
  obtain _ | ⟨c7, l⟩ := l
  · simp at h
  obtain _ | ⟨c8, l⟩ := l
  · simp at h
  obtain _ | ⟨c9, l⟩ := l
  · simp at h
  obtain _ | ⟨c10, l⟩ := l
  · simp at h
  obtain _ | ⟨c11, l⟩ := l
  · simp at h
  obtain _ | ⟨c, l⟩ := l
  · exact ⟨c0, c1, c2, c3, c4, c5, c6, c7, c8, c9, c10, c11, rfl⟩
  · simp at h
set_option maxRecDepth 100000 in
set_option maxHeartbeats 2000000 in
theorem open_row {H : Type} {enc : TypeId × Value → H} {w : World} {base fuel : Nat} {spare : Nat → Bool} {held : Bool} {l : List Value} {x : DataW H × List MemPlace} (hl : l.length = 14) (h : DataW.trod enc Try.prog w base spare held fuel 43 l = some x) :
    ∃ (ra : Int) (rb : Int) (r2 : Nat) (r3 : Nat) (r4 : Nat) (r5 : Nat) (r6 : Nat) (r7 : Nat) (r8 : Nat) (r9 : Nat) (r10 : Nat) (r11 : Nat) (ro : Int) (r13 : Nat), l = [.int .i64 ra, .int .i64 rb, .float .f64 r2, .float .f64 r3, .float .f64 r4, .float .f64 r5, .float .f64 r6, .float .f64 r7, .float .f64 r8, .float .f64 r9, .float .f64 r10, .float .f64 r11, .int .i64 ro, .float .f64 r13] ∧ okK .f64 r2 ∧ okK .f64 r3 ∧ okK .f64 r4 ∧ okK .f64 r5 ∧ okK .f64 r6 ∧ okK .f64 r7 ∧ okK .f64 r8 ∧ okK .f64 r9 ∧ okK .f64 r10 ∧ okK .f64 r11 ∧ okK .f64 r13 := by
  obtain ⟨c0, c1, c2, c3, c4, c5, c6, c7, c8, c9, c10, c11, c12, c13, rfl⟩ := list14 hl
  obtain ⟨xs, n', _, _, _, hlx, hfd⟩ := DataW.trod_struct Try.underlying43 h
  obtain ⟨y0, y1, y2, y3, y4, y5, y6, y7, y8, y9, y10, y11, rfl⟩ := list12 hlx
  have g0 := hfd 0 _ rfl
  simp [cellsI] at g0
  obtain ⟨ra, e0, _⟩ := trod_in Try.underlying3 g0
  have g1 := hfd 1 _ rfl
  simp [cellsI] at g1
  obtain ⟨rb, e1, _⟩ := trod_in Try.underlying3 g1
  have g2 := hfd 2 _ rfl
  simp [cellsV] at g2
  obtain ⟨_, _, _, _, _, s2, s3⟩ := trod_struct2 Try.underlying26 g2
  simp [cellsF] at s2 s3
  obtain ⟨r2, e2, w2⟩ := trod_fl Try.underlying24 s2
  obtain ⟨r3, e3, w3⟩ := trod_fl Try.underlying24 s3
  have g3 := hfd 3 _ rfl
  simp [cellsV] at g3
  obtain ⟨_, _, _, _, _, s4, s5⟩ := trod_struct2 Try.underlying26 g3
  simp [cellsF] at s4 s5
  obtain ⟨r4, e4, w4⟩ := trod_fl Try.underlying24 s4
  obtain ⟨r5, e5, w5⟩ := trod_fl Try.underlying24 s5
  have g4 := hfd 4 _ rfl
  simp [cellsF] at g4
  obtain ⟨r6, e6, w6⟩ := trod_fl Try.underlying24 g4
  have g5 := hfd 5 _ rfl
  simp [cellsF] at g5
  obtain ⟨r7, e7, w7⟩ := trod_fl Try.underlying24 g5
  have g6 := hfd 6 _ rfl
  simp [cellsF] at g6
  obtain ⟨r8, e8, w8⟩ := trod_fl Try.underlying24 g6
  have g7 := hfd 7 _ rfl
  simp [cellsF] at g7
  obtain ⟨r9, e9, w9⟩ := trod_fl Try.underlying24 g7
  have g8 := hfd 8 _ rfl
  simp [cellsF] at g8
  obtain ⟨r10, e10, w10⟩ := trod_fl Try.underlying24 g8
  have g9 := hfd 9 _ rfl
  simp [cellsF] at g9
  obtain ⟨r11, e11, w11⟩ := trod_fl Try.underlying24 g9
  have g10 := hfd 10 _ rfl
  simp [cellsI] at g10
  obtain ⟨ro, e12, _⟩ := trod_in Try.underlying3 g10
  have g11 := hfd 11 _ rfl
  simp [cellsF] at g11
  obtain ⟨r13, e13, w13⟩ := trod_fl Try.underlying24 g11
  simp at e0 e1 e2 e3 e4 e5 e6 e7 e8 e9 e10 e11 e12 e13
  subst e0 e1 e2 e3 e4 e5 e6 e7 e8 e9 e10 e11 e12 e13
  exact ⟨_, _, _, _, _, _, _, _, _, _, _, _, _, _, rfl, wf_f64 w2, wf_f64 w3, wf_f64 w4, wf_f64 w5, wf_f64 w6, wf_f64 w7, wf_f64 w8, wf_f64 w9, wf_f64 w10, wf_f64 w11, wf_f64 w13⟩
theorem cellsS : Try.prog.cellsOf 45 = 5 := by kernel_rfl
theorem list5 {α : Type} {l : List α} (h : l.length = 5) : ∃ c0 c1 c2 c3 c4, l = [c0, c1, c2, c3, c4] := by
  obtain _ | ⟨c0, l⟩ := l
  · simp at h
  obtain _ | ⟨c1, l⟩ := l
  · simp at h
  obtain _ | ⟨c2, l⟩ := l
  · simp at h
  obtain _ | ⟨c3, l⟩ := l
  · simp at h
  obtain _ | ⟨c4, l⟩ := l
  · simp at h
  obtain _ | ⟨c, l⟩ := l
  · exact ⟨c0, c1, c2, c3, c4, rfl⟩
  · simp at h
theorem list4 {α : Type} {l : List α} (h : l.length = 4) : ∃ c0 c1 c2 c3, l = [c0, c1, c2, c3] := by
  obtain _ | ⟨c0, l⟩ := l
  · simp at h
  obtain _ | ⟨c1, l⟩ := l
  · simp at h
  obtain _ | ⟨c2, l⟩ := l
  · simp at h
  obtain _ | ⟨c3, l⟩ := l
  · simp at h
  obtain _ | ⟨c, l⟩ := l
  · exact ⟨c0, c1, c2, c3, rfl⟩
  · simp at h
set_option maxRecDepth 100000 in
set_option maxHeartbeats 2000000 in
theorem open_still {H : Type} {enc : TypeId × Value → H} {w : World} {base fuel : Nat} {spare : Nat → Bool} {held : Bool} {l : List Value} {x : DataW H × List MemPlace} (hl : l.length = 5) (h : DataW.trod enc Try.prog w base spare held fuel 45 l = some x) :
    ∃ (sm : Nat) (si : Nat) (sx : Nat) (sy : Nat) (ss : Nat), l = [.float .f64 sm, .float .f64 si, .float .f64 sx, .float .f64 sy, .float .f64 ss] ∧ okK .f64 sm ∧ okK .f64 si ∧ okK .f64 sx ∧ okK .f64 sy ∧ okK .f64 ss := by
  obtain ⟨c0, c1, c2, c3, c4, rfl⟩ := list5 hl
  obtain ⟨xs, n', _, _, _, hlx, hfd⟩ := DataW.trod_struct Try.underlying45 h
  obtain ⟨y0, y1, y2, y3, rfl⟩ := list4 hlx
  have g0 := hfd 0 _ rfl
  simp [cellsF] at g0
  obtain ⟨sm, e0, w0⟩ := trod_fl Try.underlying24 g0
  have g1 := hfd 1 _ rfl
  simp [cellsF] at g1
  obtain ⟨si, e1, w1⟩ := trod_fl Try.underlying24 g1
  have g2 := hfd 2 _ rfl
  simp [cellsV] at g2
  obtain ⟨_, _, _, _, _, s2, s3⟩ := trod_struct2 Try.underlying26 g2
  simp [cellsF] at s2 s3
  obtain ⟨sx, e2, w2⟩ := trod_fl Try.underlying24 s2
  obtain ⟨sy, e3, w3⟩ := trod_fl Try.underlying24 s3
  have g3 := hfd 3 _ rfl
  simp [cellsF] at g3
  obtain ⟨ss, e4, w4⟩ := trod_fl Try.underlying24 g3
  simp at e0 e1 e2 e3 e4
  subst e0 e1 e2 e3 e4
  exact ⟨_, _, _, _, _, rfl, wf_f64 w0, wf_f64 w1, wf_f64 w2, wf_f64 w3, wf_f64 w4⟩
theorem walk_any (ra_0 : Int) (rb_0 : Int) (r2_0 : Nat) (r3_0 : Nat) (r4_0 : Nat) (r5_0 : Nat) (r6_0 : Nat) (r7_0 : Nat) (r8_0 : Nat) (r9_0 : Nat) (r10_0 : Nat) (r11_0 : Nat) (ro_0 : Int) (r13_0 : Nat) (or2_0 : okK .f64 r2_0) (or3_0 : okK .f64 r3_0) (or4_0 : okK .f64 r4_0) (or5_0 : okK .f64 r5_0) (or6_0 : okK .f64 r6_0) (or7_0 : okK .f64 r7_0) (or8_0 : okK .f64 r8_0) (or9_0 : okK .f64 r9_0) (or10_0 : okK .f64 r10_0) (or11_0 : okK .f64 r11_0) (or13_0 : okK .f64 r13_0) (sm_1 : Nat) (si_1 : Nat) (sx_1 : Nat) (sy_1 : Nat) (ss_1 : Nat) (osm_1 : okK .f64 sm_1) (osi_1 : okK .f64 si_1) (osx_1 : okK .f64 sx_1) (osy_1 : okK .f64 sy_1) (oss_1 : okK .f64 ss_1) (sm_2 : Nat) (si_2 : Nat) (sx_2 : Nat) (sy_2 : Nat) (ss_2 : Nat) (osm_2 : okK .f64 sm_2) (osi_2 : okK .f64 si_2) (osx_2 : okK .f64 sx_2) (osy_2 : okK .f64 sy_2) (oss_2 : okK .f64 ss_2) (i_3 : Int) (w : World) : Calls Try.prog 6 #[.agg #[.int .i64 ra_0, .int .i64 rb_0, .float .f64 r2_0, .float .f64 r3_0, .float .f64 r4_0, .float .f64 r5_0, .float .f64 r6_0, .float .f64 r7_0, .float .f64 r8_0, .float .f64 r9_0, .float .f64 r10_0, .float .f64 r11_0, .int .i64 ro_0, .float .f64 r13_0], .agg #[.float .f64 sm_1, .float .f64 si_1, .float .f64 sx_1, .float .f64 sy_1, .float .f64 ss_1], .agg #[.float .f64 sm_2, .float .f64 si_2, .float .f64 sx_2, .float .f64 sy_2, .float .f64 ss_2], .int .i64 i_3] w fun e w' => e = .returned (.bool true) ∧ Below w.heap.size w w' :=
  (rsc_w ⟨ra_0, rb_0, r2_0, r3_0, r4_0, r5_0, r6_0, r7_0, r8_0, r9_0, r10_0, r11_0, ro_0, r13_0⟩ ⟨sm_1, si_1, sx_1, sy_1, ss_1⟩ ⟨sm_2, si_2, sx_2, sy_2, ss_2⟩ i_3 w ⟨or2_0, or3_0, or4_0, or5_0, or6_0, or7_0, or8_0, or9_0, or10_0, or11_0, or13_0⟩ ⟨osm_1, osi_1, osx_1, osy_1, oss_1⟩ ⟨osm_2, osi_2, osx_2, osy_2, oss_2⟩).mono fun e w' ⟨he, hb⟩ => ⟨he, hb.1⟩

set_option maxRecDepth 100000 in
theorem lifted (os : Os) (started : os.Started) (H : Type) (enc : TypeId × Value → H) :
    ReturnsInHanded {} Try.checked os 6 .any (Rows.rowScaledSpec.pre6 enc Try.prog Try.f6 Rows.rowScaledRow.domain false) (Rows.rowScaledSpec.post enc Try.prog Try.f6 false true false false) := by
  refine returnsInHanded_of_change_sized (C := Try.checked) own started (by kernel_rfl) Try.func6
    (ChangeSpec.witness6 (enc := enc) (C := Try.checked) false ⟨#[], #[.agg #[.int .i64 0, .int .i64 0, .float .f64 0, .float .f64 0, .float .f64 0, .float .f64 0, .float .f64 0, .float .f64 0, .float .f64 0, .float .f64 0, .float .f64 0, .float .f64 0, .int .i64 0, .float .f64 0], .agg #[.float .f64 0, .float .f64 0, .float .f64 0, .float .f64 0, .float .f64 0], .agg #[.float .f64 0, .float .f64 0, .float .f64 0, .float .f64 0, .float .f64 0], .int .i64 0], []⟩ 8 (by kernel_rfl) (by kernel_rfl) (by kernel_rfl) (by kernel_rfl)) ?_
  intro W base args ds gs before hval0 hW hcnd hsz0 _
  have hval : ∀ (j : Nat) t v, Try.f6.params[j]? = some t → args[j]? = some v → Value.okWide Try.prog W .any base t v := hval0
  have hW' := hW
  obtain ⟨p, q, hA0, hV, rfl, hfz, hnd⟩ := hW
  have hA : DataW.TrodAll enc Try.prog W 0 (fun _ => true) true Try.f6.params.toList args.toList ds p := hA0
  rw [Try.params6] at hA hval
  obtain ⟨v0, vs0, d0, ds0, pl0, ql0, hargs, rfl, rfl, h0, r0⟩ := trodAll_cons hA
  obtain ⟨v1, vs1, d1, ds1, pl1, ql1, e1, rfl, rfl, h1, r1⟩ := trodAll_cons r0
  obtain ⟨v2, vs2, d2, ds2, pl2, ql2, e2, rfl, rfl, h2, r2⟩ := trodAll_cons r1
  obtain ⟨v3, vs3, d3, ds3, pl3, ql3, e3, rfl, rfl, h3, r3⟩ := trodAll_cons r2
  obtain ⟨rfl, rfl, rfl⟩ := trodAll_nil r3
  obtain rfl : args = #[v0, v1, v2, v3] := by cases args; simp_all
  obtain ⟨rfl, rfl⟩ := trodVars_none hV
  have k0 := h0
  have lt0 : ∀ x ∈ pl0, x.block < W.heap.size := by obtain ⟨m, hm⟩ := k0; exact DataW.trod_lt m _ _ _ hm
  obtain ⟨cs0, rfl, hsz0⟩ := okWide_struct Try.underlying43 (hval 0 43 v0 rfl rfl)
  obtain ⟨fu0, hf0⟩ := h0
  obtain ⟨ra_0, rb_0, r2_0, r3_0, r4_0, r5_0, r6_0, r7_0, r8_0, r9_0, r10_0, r11_0, ro_0, r13_0, hl0, or2_0, or3_0, or4_0, or5_0, or6_0, or7_0, or8_0, or9_0, or10_0, or11_0, or13_0⟩ := open_row (l := cs0.toList) (by rw [Array.length_toList, hsz0]; exact cellsR) hf0
  obtain rfl : cs0 = #[.int .i64 ra_0, .int .i64 rb_0, .float .f64 r2_0, .float .f64 r3_0, .float .f64 r4_0, .float .f64 r5_0, .float .f64 r6_0, .float .f64 r7_0, .float .f64 r8_0, .float .f64 r9_0, .float .f64 r10_0, .float .f64 r11_0, .int .i64 ro_0, .float .f64 r13_0] := by rw [← Array.toArray_toList (xs := cs0), hl0]
  have k1 := h1
  have lt1 : ∀ x ∈ pl1, x.block < W.heap.size := by obtain ⟨m, hm⟩ := k1; exact DataW.trod_lt m _ _ _ hm
  obtain ⟨cs1, rfl, hsz1⟩ := okWide_struct Try.underlying45 (hval 1 45 v1 rfl rfl)
  obtain ⟨fu1, hf1⟩ := h1
  obtain ⟨sm_1, si_1, sx_1, sy_1, ss_1, hl1, osm_1, osi_1, osx_1, osy_1, oss_1⟩ := open_still (l := cs1.toList) (by rw [Array.length_toList, hsz1]; exact cellsS) hf1
  obtain rfl : cs1 = #[.float .f64 sm_1, .float .f64 si_1, .float .f64 sx_1, .float .f64 sy_1, .float .f64 ss_1] := by rw [← Array.toArray_toList (xs := cs1), hl1]
  have k2 := h2
  have lt2 : ∀ x ∈ pl2, x.block < W.heap.size := by obtain ⟨m, hm⟩ := k2; exact DataW.trod_lt m _ _ _ hm
  obtain ⟨cs2, rfl, hsz2⟩ := okWide_struct Try.underlying45 (hval 2 45 v2 rfl rfl)
  obtain ⟨fu2, hf2⟩ := h2
  obtain ⟨sm_2, si_2, sx_2, sy_2, ss_2, hl2, osm_2, osi_2, osx_2, osy_2, oss_2⟩ := open_still (l := cs2.toList) (by rw [Array.length_toList, hsz2]; exact cellsS) hf2
  obtain rfl : cs2 = #[.float .f64 sm_2, .float .f64 si_2, .float .f64 sx_2, .float .f64 sy_2, .float .f64 ss_2] := by rw [← Array.toArray_toList (xs := cs2), hl2]
  have k3 := h3
  have lt3 : ∀ x ∈ pl3, x.block < W.heap.size := by obtain ⟨m, hm⟩ := k3; exact DataW.trod_lt m _ _ _ hm
  obtain ⟨i_3, rfl, _, _, wi_3⟩ := open_int Try.underlying3 (hval 3 3 v3 rfl rfl) h3
  clear hA0 hval0 hsz0
  refine (walk_any ra_0 rb_0 r2_0 r3_0 r4_0 r5_0 r6_0 r7_0 r8_0 r9_0 r10_0 r11_0 ro_0 r13_0 or2_0 or3_0 or4_0 or5_0 or6_0 or7_0 or8_0 or9_0 or10_0 or11_0 or13_0 sm_1 si_1 sx_1 sy_1 ss_1 osm_1 osi_1 osx_1 osy_1 oss_1 sm_2 si_2 sx_2 sy_2 ss_2 osm_2 osi_2 osx_2 osy_2 oss_2 i_3 W).mono fun e W' ⟨he, bel0⟩ => ?_
  have bel := bel0
  subst he
  exact ⟨_, rfl, _, _, _, [], _, [], hW', trodAll_mk1 (shut_bool Try.underlying4 _), (trodAll_cons_mk (Below.trod laidOut (by kernel_rfl) (of_decide_eq_true (by kernel_rfl)) k0 bel lt0) (trodAll_cons_mk (Below.trod laidOut (by kernel_rfl) (of_decide_eq_true (by kernel_rfl)) k1 bel lt1) (trodAll_cons_mk (Below.trod laidOut (by kernel_rfl) (of_decide_eq_true (by kernel_rfl)) k2 bel lt2) (trodAll_cons_mk (Below.trod laidOut (by kernel_rfl) (of_decide_eq_true (by kernel_rfl)) k3 bel lt3) trodAll_mk0)))), rfl, bel.frame _, fun h => by cases h⟩

theorem over : Rows.rowScaledRow.holds Try.pinned (OpenSpec.ofChange Rows.rowScaledSpec) :=
  OpenClaim.holds_of_wide 6 Try.f6 rfl rfl rfl rfl rfl rfl rfl ⟨rfl, rfl, rfl, rfl, rfl⟩ rfl rfl rfl rfl rfl (by kernel_rfl) Try.func6 (by kernel_rfl)
    (of_decide_eq_true (by kernel_rfl)) (by unfold Func.isWrapper; first | (rw [if_pos (by decide +kernel)]; kernel_rfl) | (rw [if_neg (by decide +kernel)]; exact ⟨rfl, rfl⟩))
    (fun os started H enc _ => lifted os started H enc)

theorem proved : Rows.RowScaledSaid :=
  over
#print axioms proved
end Go.Proofs.Ytfohggiehbplkaa.rowScaled
