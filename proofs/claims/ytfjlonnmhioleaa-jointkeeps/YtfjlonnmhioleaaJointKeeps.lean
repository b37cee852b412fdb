/-
  'tumblelaw08.JointKeeps' is true of every joint and every slice of rows: Keep answers as the document says, and what is handed in stays; no condition.
-/
import Derived.Test.YtfjlonnmhioleaaRows
import Derived.Test.YtfjlonnmhioleaaJn
import Derived.WalkKit
import Derived.ProofKit
import Derived.OpenShut
import Derived.WalkLawsBesides
import Derived.WalkSpells
import Derived.Lib.SmallJoins
import Derived.Laws.Cover2
import Derived.Laws.AppendOwn
import Derived.Laws.OwnMore
import Derived.Laws.AppendOwnNone
import Derived.Deep.RegionHeld3
import Derived.Deep.RegionWith
import Derived.Deep.SlicePairs
import Derived.Deep.Strs
import Derived.SizedLaws
import Derived.Below
import Derived.ChangeArms
import Derived.OpenShut
import Derived.Laws.IdiomArrays
import Derived.Laws.StructEq
namespace Go.Proofs.Ytfjlonnmhioleaa.jointKeeps
open Go.ChangeShapes Go.WideShapes Go.ChangeAt Go.RowKit Go.Joins
set_option linter.unusedVariables false
set_option linter.unusedSimpArgs false

theorem own : ownKnob Try.prog.godebug = none := by kernel_rfl
theorem laidOut : laidOutB Try.prog = true := by kernel_rfl
theorem wf_f64 {x : Nat} (h : (Lit.float .f64 x).wf = true) : okK .f64 x := by
  rw [okK64]; simpa [Lit.wf] using h
section
variable {H : Type} {enc : TypeId × Value → H} {P : Program} {w : World} {base fuel : Nat} {spare : Nat → Bool} {held : Bool} {t : TypeId} {cs : List Value} {x : DataW H × List MemPlace}
theorem trod_fl {k : FloatKind} (ht : P.underlying t = some (.float k)) (h : DataW.trod enc P w base spare held fuel t cs = some x) : ∃ y, cs = [.float k y] ∧ (Lit.float k y).wf = true := by
  cases fuel with
  | zero => simp [DataW.trod] at h
  | succ n =>
    unfold DataW.trod at h
    rw [ht] at h
    split at h <;> simp_all
theorem trod_bo (ht : P.underlying t = some .bool) (h : DataW.trod enc P w base spare held fuel t cs = some x) : ∃ y, cs = [.bool y] := by
  cases fuel with
  | zero => simp [DataW.trod] at h
  | succ n =>
    unfold DataW.trod at h
    rw [ht] at h
    split at h <;> simp_all
theorem trod_in {k : IntKind} (ht : P.underlying t = some (.int k)) (h : DataW.trod enc P w base spare held fuel t cs = some x) : ∃ n, cs = [.int k n] ∧ (Lit.int k n).wf = true := by
  cases fuel with
  | zero => simp [DataW.trod] at h
  | succ n =>
    unfold DataW.trod at h
    rw [ht] at h
    split at h <;> simp_all
end
theorem cellsF : Try.prog.cellsOf 25 = 1 := by kernel_rfl
theorem cellsV : Try.prog.cellsOf 27 = 2 := by kernel_rfl
theorem cellsI : Try.prog.cellsOf 3 = 1 := by kernel_rfl
theorem cellsB : Try.prog.cellsOf 4 = 1 := by kernel_rfl
theorem cellsJ : Try.prog.cellsOf 30 = 22 := by kernel_rfl
theorem cellsH : Try.prog.cellsOf 24 = 2 := by kernel_rfl
theorem cellsA : Try.prog.cellsOf 28 = 3 := by kernel_rfl
theorem cells8 : Try.prog.cellsOf 5 = 1 := by kernel_rfl
theorem cells32 : Try.prog.cellsOf 22 = 1 := by kernel_rfl
theorem list3 {α : Type} {l : List α} (h : l.length = 3) : ∃ c0 c1 c2, l = [c0, c1, c2] := by
  obtain _ | ⟨c0, l⟩ := l
  · simp at h
  obtain _ | ⟨c1, l⟩ := l
  · simp at h
  obtain _ | ⟨c2, l⟩ := l
  · simp at h
  obtain _ | ⟨c, l⟩ := l
  · exact ⟨c0, c1, c2, rfl⟩
  · simp at h
theorem list22 {α : Type} {l : List α} (h : l.length = 22) : ∃ c0 c1 c2 c3 c4 c5 c6 c7 c8 c9 c10 c11 c12 c13 c14 c15 c16 c17 c18 c19 c20 c21, l = [c0, c1, c2, c3, c4, c5, c6, c7, c8, c9, c10, c11, c12, c13, c14, c15, c16, c17, c18, c19, c20, c21] := by
  obtain _ | ⟨c0, l⟩ := l
  · simp at h
  obtain _ | ⟨c1, l⟩ := l
  · simp at h
  obtain _ | ⟨c2, l⟩ := l
  · simp at h
  obtain _ | ⟨c3, l⟩ := l
  · simp at h
  obtain _ | ⟨c4, l⟩ := l
  · simp at h
  obtain _ | ⟨c5, l⟩ := l
  · simp at h
  obtain _ | ⟨c6, l⟩ := l
  · simp at h
  obtain _ | ⟨c7, l⟩ := l
  · simp at h
  obtain _ | ⟨c8, l⟩ := l
  · simp at h
  obtain _ | ⟨c9, l⟩ := l
  · simp at h
  obtain _ | ⟨c10, l⟩ := l
  · simp at h
  obtain _ | ⟨c11, l⟩ := l
  · simp at h
  obtain _ | ⟨c12, l⟩ := l
  · simp at h
  obtain _ | ⟨c13, l⟩ := l
  · simp at h
  obtain _ | ⟨c14, l⟩ := l
  · simp at h
  obtain _ | ⟨c15, l⟩ := l
  · simp at h
  obtain _ | ⟨c16, l⟩ := l
  · simp at h
  obtain _ | ⟨c17, l⟩ := l
  · simp at h
  obtain _ | ⟨c18, l⟩ := l
  · simp at h
  obtain _ | ⟨c19, l⟩ := l
  · simp at h
  obtain _ | ⟨c20, l⟩ := l
  · simp at h
  obtain _ | ⟨c21, l⟩ := l
  · simp at h
  obtain _ | ⟨c, l⟩ := l
  · exact ⟨c0, c1, c2, c3, c4, c5, c6, c7, c8, c9, c10, c11, c12, c13, c14, c15, c16, c17, c18, c19, c20, c21, rfl⟩
  · simp at h
theorem list15 {α : Type} {l : List α} (h : l.length = 15) : ∃ c0 c1 c2 c3 c4 c5 c6 c7 c8 c9 c10 c11 c12 c13 c14, l = [c0, c1, c2, c3, c4, c5, c6, c7, c8, c9, c10, c11, c12, c13, c14] := by
  obtain _ | ⟨c0, l⟩ := l
  · simp at h
  obtain _ | ⟨c1, l⟩ := l
  · simp at h
  obtain _ | ⟨c2, l⟩ := l
  · simp at h
  obtain _ | ⟨c3, l⟩ := l
  · simp at h
  obtain _ | ⟨c4, l⟩ := l
  · simp at h
  obtain _ | ⟨c5, l⟩ := l
  · simp at h
  obtain _ | ⟨c6, l⟩ := l
  · simp at h
  obtain _ | ⟨c7, l⟩ := l
  · simp at h
  obtain _ | ⟨c8, l⟩ := l
  · simp at h
  obtain _ | ⟨c9, l⟩ := l
  · simp at h
  obtain _ | ⟨c10, l⟩ := l
  · simp at h
  obtain _ | ⟨c11, l⟩ := l
  · simp at h
  obtain _ | ⟨c12, l⟩ := l
  · simp at h
  obtain _ | ⟨c13, l⟩ := l
  · simp at h
  obtain _ | ⟨c14, l⟩ := l
  · simp at h
  obtain _ | ⟨c, l⟩ := l
  · exact ⟨c0, c1, c2, c3, c4, c5, c6, c7, c8, c9, c10, c11, c12, c13, c14, rfl⟩
  · simp at h
set_option maxRecDepth 100000 in
set_option maxHeartbeats 2000000 in
theorem open_joint {H : Type} {enc : TypeId × Value → H} {w : World} {base fuel : Nat} {spare : Nat → Bool} {held : Bool} {l : List Value} {x : DataW H × List MemPlace} (hl : l.length = 22) (h : DataW.trod enc Try.prog w base spare held fuel 30 l = some x) :
    ∃ (kq : Int) (sa : Int) (ua : Int) (sb : Int) (ub : Int) (ax : Nat) (ay : Nat) (bx : Nat) (b_y : Nat) (ux : Nat) (uy : Nat) (rs : Nat) (rt : Nat) (mo : Bool) (sp : Nat) (mt : Nat) (li : Bool) (lo : Nat) (hi : Nat) (p0 : Nat) (p1 : Nat) (p2 : Nat), l = [.int .u8 kq, .int .u32 sa, .int .u32 ua, .int .u32 sb, .int .u32 ub, .float .f64 ax, .float .f64 ay, .float .f64 bx, .float .f64 b_y, .float .f64 ux, .float .f64 uy, .float .f64 rs, .float .f64 rt, .bool mo, .float .f64 sp, .float .f64 mt, .bool li, .float .f64 lo, .float .f64 hi, .float .f64 p0, .float .f64 p1, .float .f64 p2] ∧ okK .f64 ax ∧ okK .f64 ay ∧ okK .f64 bx ∧ okK .f64 b_y ∧ okK .f64 ux ∧ okK .f64 uy ∧ okK .f64 rs ∧ okK .f64 rt ∧ okK .f64 sp ∧ okK .f64 mt ∧ okK .f64 lo ∧ okK .f64 hi ∧ okK .f64 p0 ∧ okK .f64 p1 ∧ okK .f64 p2 := by
  obtain ⟨c0, c1, c2, c3, c4, c5, c6, c7, c8, c9, c10, c11, c12, c13, c14, c15, c16, c17, c18, c19, c20, c21, rfl⟩ := list22 hl
  obtain ⟨xs, n', _, _, _, hlx, hfd⟩ := DataW.trod_struct Try.underlying30 h
  obtain ⟨y0, y1, y2, y3, y4, y5, y6, y7, y8, y9, y10, y11, y12, y13, y14, rfl⟩ := list15 hlx
  have g0 := hfd 0 _ rfl
  simp [cells8] at g0
  obtain ⟨kq, e0, _⟩ := trod_in Try.underlying5 g0
  have g1 := hfd 1 _ rfl
  simp [cellsH] at g1
  obtain ⟨_, _, _, _, _, s1, s2⟩ := trod_struct2 Try.underlying24 g1
  simp [cells32] at s1 s2
  obtain ⟨sa, e1, _⟩ := trod_in Try.underlying22 s1
  obtain ⟨ua, e2, _⟩ := trod_in Try.underlying22 s2
  have g2 := hfd 2 _ rfl
  simp [cellsH] at g2
  obtain ⟨_, _, _, _, _, s3, s4⟩ := trod_struct2 Try.underlying24 g2
  simp [cells32] at s3 s4
  obtain ⟨sb, e3, _⟩ := trod_in Try.underlying22 s3
  obtain ⟨ub, e4, _⟩ := trod_in Try.underlying22 s4
  have g3 := hfd 3 _ rfl
  simp [cellsV] at g3
  obtain ⟨_, _, _, _, _, s5, s6⟩ := trod_struct2 Try.underlying27 g3
  simp [cellsF] at s5 s6
  obtain ⟨ax, e5, w5⟩ := trod_fl Try.underlying25 s5
  obtain ⟨ay, e6, w6⟩ := trod_fl Try.underlying25 s6
  have g4 := hfd 4 _ rfl
  simp [cellsV] at g4
  obtain ⟨_, _, _, _, _, s7, s8⟩ := trod_struct2 Try.underlying27 g4
  simp [cellsF] at s7 s8
  obtain ⟨bx, e7, w7⟩ := trod_fl Try.underlying25 s7
  obtain ⟨b_y, e8, w8⟩ := trod_fl Try.underlying25 s8
  have g5 := hfd 5 _ rfl
  simp [cellsV] at g5
  obtain ⟨_, _, _, _, _, s9, s10⟩ := trod_struct2 Try.underlying27 g5
  simp [cellsF] at s9 s10
  obtain ⟨ux, e9, w9⟩ := trod_fl Try.underlying25 s9
  obtain ⟨uy, e10, w10⟩ := trod_fl Try.underlying25 s10
  have g6 := hfd 6 _ rfl
  simp [cellsF] at g6
  obtain ⟨rs, e11, w11⟩ := trod_fl Try.underlying25 g6
  have g7 := hfd 7 _ rfl
  simp [cellsF] at g7
  obtain ⟨rt, e12, w12⟩ := trod_fl Try.underlying25 g7
  have g8 := hfd 8 _ rfl
  simp [cellsB] at g8
  obtain ⟨mo, e13⟩ := trod_bo Try.underlying4 g8
  have g9 := hfd 9 _ rfl
  simp [cellsF] at g9
  obtain ⟨sp, e14, w14⟩ := trod_fl Try.underlying25 g9
  have g10 := hfd 10 _ rfl
  simp [cellsF] at g10
  obtain ⟨mt, e15, w15⟩ := trod_fl Try.underlying25 g10
  have g11 := hfd 11 _ rfl
  simp [cellsB] at g11
  obtain ⟨li, e16⟩ := trod_bo Try.underlying4 g11
  have g12 := hfd 12 _ rfl
  simp [cellsF] at g12
  obtain ⟨lo, e17, w17⟩ := trod_fl Try.underlying25 g12
  have g13 := hfd 13 _ rfl
  simp [cellsF] at g13
  obtain ⟨hi, e18, w18⟩ := trod_fl Try.underlying25 g13
  have g14 := hfd 14 _ rfl
  simp [cellsA] at g14
  obtain ⟨az, n2, _, _, _, hla, hfa⟩ := DataW.trod_array Try.underlying28 g14
  obtain ⟨b0, b1, b2, rfl⟩ := list3 hla
  have s19 := hfa 0 (by decide)
  simp [cellsF] at s19
  obtain ⟨p0, e19, w19⟩ := trod_fl Try.underlying25 s19
  have s20 := hfa 1 (by decide)
  simp [cellsF] at s20
  obtain ⟨p1, e20, w20⟩ := trod_fl Try.underlying25 s20
  have s21 := hfa 2 (by decide)
  simp [cellsF] at s21
  obtain ⟨p2, e21, w21⟩ := trod_fl Try.underlying25 s21
  simp at e0 e1 e2 e3 e4 e5 e6 e7 e8 e9 e10 e11 e12 e13 e14 e15 e16 e17 e18 e19 e20 e21
  subst e0 e1 e2 e3 e4 e5 e6 e7 e8 e9 e10 e11 e12 e13 e14 e15 e16 e17 e18 e19 e20 e21
  exact ⟨_, _, _, _, _, _, _, _, _, _, _, _, _, _, _, _, _, _, _, _, _, _, rfl, wf_f64 w5, wf_f64 w6, wf_f64 w7, wf_f64 w8, wf_f64 w9, wf_f64 w10, wf_f64 w11, wf_f64 w12, wf_f64 w14, wf_f64 w15, wf_f64 w17, wf_f64 w18, wf_f64 w19, wf_f64 w20, wf_f64 w21⟩
theorem cellsR : Try.prog.cellsOf 36 = 14 := by kernel_rfl
theorem list14 {α : Type} {l : List α} (h : l.length = 14) : ∃ c0 c1 c2 c3 c4 c5 c6 c7 c8 c9 c10 c11 c12 c13, l = [c0, c1, c2, c3, c4, c5, c6, c7, c8, c9, c10, c11, c12, c13] := by
  obtain _ | ⟨c0, l⟩ := l
  · simp at h
  obtain _ | ⟨c1, l⟩ := l
  · simp at h
  obtain _ | ⟨c2, l⟩ := l
  · simp at h
  obtain _ | ⟨c3, l⟩ := l
  · simp at h
  obtain _ | ⟨c4, l⟩ := l
  · simp at h
  obtain _ | ⟨c5, l⟩ := l
  · simp at h
  obtain _ | ⟨c6, l⟩ := l
  · simp at h
  obtain _ | ⟨c7, l⟩ := l
  · simp at h
  obtain _ | ⟨c8, l⟩ := l
  · simp at h
  obtain _ | ⟨c9, l⟩ := l
  · simp at h
  obtain _ | ⟨c10, l⟩ := l
  · simp at h
  obtain _ | ⟨c11, l⟩ := l
  · simp at h
  obtain _ | ⟨c12, l⟩ := l
  · simp at h
  obtain _ | ⟨c13, l⟩ := l
  · simp at h
  obtain _ | ⟨c, l⟩ := l
  · exact ⟨c0, c1, c2, c3, c4, c5, c6, c7, c8, c9, c10, c11, c12, c13, rfl⟩
  · simp at h
theorem list12 {α : Type} {l : List α} (h : l.length = 12) : ∃ c0 c1 c2 c3 c4 c5 c6 c7 c8 c9 c10 c11, l = [c0, c1, c2, c3, c4, c5, c6, c7, c8, c9, c10, c11] := by
  obtain _ | ⟨c0, l⟩ := l
  · simp at h
  obtain _ | ⟨c1, l⟩ := l
  · simp at h
  obtain _ | ⟨c2, l⟩ := l
  · simp at h
  obtain _ | ⟨c3, l⟩ := l
  · simp at h
  obtain _ | ⟨c4, l⟩ := l
  · simp at h
  obtain _ | ⟨c5, l⟩ := l
  · simp at h
  obtain _ | ⟨c6, l⟩ := l
  · simp at h
  obtain _ | ⟨c7, l⟩ := l
  · simp at h
  obtain _ | ⟨c8, l⟩ := l
  · simp at h
  obtain _ | ⟨c9, l⟩ := l
  · simp at h
  obtain _ | ⟨c10, l⟩ := l
  · simp at h
  obtain _ | ⟨c11, l⟩ := l
  · simp at h
  obtain _ | ⟨c, l⟩ := l
  · exact ⟨c0, c1, c2, c3, c4, c5, c6, c7, c8, c9, c10, c11, rfl⟩
  · simp at h
set_option maxRecDepth 100000 in
set_option maxHeartbeats 2000000 in
theorem open_row {H : Type} {enc : TypeId × Value → H} {w : World} {base fuel : Nat} {spare : Nat → Bool} {held : Bool} {l : List Value} {x : DataW H × List MemPlace} (hl : l.length = 14) (h : DataW.trod enc Try.prog w base spare held fuel 36 l = some x) :
    ∃ (ra : Int) (rb : Int) (r2 : Nat) (r3 : Nat) (r4 : Nat) (r5 : Nat) (r6 : Nat) (r7 : Nat) (r8 : Nat) (r9 : Nat) (r10 : Nat) (r11 : Nat) (ro : Int) (r13 : Nat), l = [.int .i64 ra, .int .i64 rb, .float .f64 r2, .float .f64 r3, .float .f64 r4, .float .f64 r5, .float .f64 r6, .float .f64 r7, .float .f64 r8, .float .f64 r9, .float .f64 r10, .float .f64 r11, .int .i64 ro, .float .f64 r13] ∧ okK .f64 r2 ∧ okK .f64 r3 ∧ okK .f64 r4 ∧ okK .f64 r5 ∧ okK .f64 r6 ∧ okK .f64 r7 ∧ okK .f64 r8 ∧ okK .f64 r9 ∧ okK .f64 r10 ∧ okK .f64 r11 ∧ okK .f64 r13 := by
  obtain ⟨c0, c1, c2, c3, c4, c5, c6, c7, c8, c9, c10, c11, c12, c13, rfl⟩ := list14 hl
  obtain ⟨xs, n', _, _, _, hlx, hfd⟩ := DataW.trod_struct Try.underlying36 h
  obtain ⟨y0, y1, y2, y3, y4, y5, y6, y7, y8, y9, y10, y11, rfl⟩ := list12 hlx
  have g0 := hfd 0 _ rfl
  simp [cellsI] at g0
  obtain ⟨ra, e0, _⟩ := trod_in Try.underlying3 g0
  have g1 := hfd 1 _ rfl
  simp [cellsI] at g1
  obtain ⟨rb, e1, _⟩ := trod_in Try.underlying3 g1
  have g2 := hfd 2 _ rfl
  simp [cellsV] at g2
  obtain ⟨_, _, _, _, _, s2, s3⟩ := trod_struct2 Try.underlying27 g2
  simp [cellsF] at s2 s3
  obtain ⟨r2, e2, w2⟩ := trod_fl Try.underlying25 s2
  obtain ⟨r3, e3, w3⟩ := trod_fl Try.underlying25 s3
  have g3 := hfd 3 _ rfl
  simp [cellsV] at g3
  obtain ⟨_, _, _, _, _, s4, s5⟩ := trod_struct2 Try.underlying27 g3
  simp [cellsF] at s4 s5
  obtain ⟨r4, e4, w4⟩ := trod_fl Try.underlying25 s4
  obtain ⟨r5, e5, w5⟩ := trod_fl Try.underlying25 s5
  have g4 := hfd 4 _ rfl
  simp [cellsF] at g4
  obtain ⟨r6, e6, w6⟩ := trod_fl Try.underlying25 g4
  have g5 := hfd 5 _ rfl
  simp [cellsF] at g5
  obtain ⟨r7, e7, w7⟩ := trod_fl Try.underlying25 g5
  have g6 := hfd 6 _ rfl
  simp [cellsF] at g6
  obtain ⟨r8, e8, w8⟩ := trod_fl Try.underlying25 g6
  have g7 := hfd 7 _ rfl
  simp [cellsF] at g7
  obtain ⟨r9, e9, w9⟩ := trod_fl Try.underlying25 g7
  have g8 := hfd 8 _ rfl
  simp [cellsF] at g8
  obtain ⟨r10, e10, w10⟩ := trod_fl Try.underlying25 g8
  have g9 := hfd 9 _ rfl
  simp [cellsF] at g9
  obtain ⟨r11, e11, w11⟩ := trod_fl Try.underlying25 g9
  have g10 := hfd 10 _ rfl
  simp [cellsI] at g10
  obtain ⟨ro, e12, _⟩ := trod_in Try.underlying3 g10
  have g11 := hfd 11 _ rfl
  simp [cellsF] at g11
  obtain ⟨r13, e13, w13⟩ := trod_fl Try.underlying25 g11
  simp at e0 e1 e2 e3 e4 e5 e6 e7 e8 e9 e10 e11 e12 e13
  subst e0 e1 e2 e3 e4 e5 e6 e7 e8 e9 e10 e11 e12 e13
  exact ⟨_, _, _, _, _, _, _, _, _, _, _, _, _, _, rfl, wf_f64 w2, wf_f64 w3, wf_f64 w4, wf_f64 w5, wf_f64 w6, wf_f64 w7, wf_f64 w8, wf_f64 w9, wf_f64 w10, wf_f64 w11, wf_f64 w13⟩

def IsR (W : World) (a : Option Addr) (len cap : Nat) : Prop := len ≤ cap ∧ cap ≤ maxLen ∧ (len = 0 ∨ ∃ b off Q, a = some ⟨b, off, none⟩ ∧ Rws W b off len Q ∧ ∀ i, i < len → rok (Q i))
set_option maxRecDepth 100000 in
theorem is_rows {H : Type} {enc : TypeId × Value → H} {W : World} {spare : Nat → Bool} {held : Bool} {a : Option Addr} {len cap : Nat} {d : DataW H} {p : List MemPlace} (h : DataW.Trod enc Try.prog W 0 spare held 34 (.slice a len cap) d p) : IsR W a len cap := by
  obtain ⟨fuel, hf⟩ := h
  rcases Go.Deep.open_slice Try.underlying34 hf with ⟨hcs, _⟩ | ⟨x, l, c, m, n, D, Pl, hcs, _, hl, hm, hmm, hx, hcell⟩
  · simp [Value.cells] at hcs
    obtain ⟨rfl, rfl, rfl⟩ := hcs
    exact ⟨Nat.le_refl _, by decide, .inl rfl⟩
  · simp [Value.cells] at hcs
    obtain ⟨rfl, rfl, rfl⟩ := hcs
    have hlm : len ≤ m := by rw [hmm]; split <;> omega
    refine ⟨hl, hm, ?_⟩
    rcases Nat.eq_zero_or_pos len with h0 | h0
    · exact .inl h0
    right
    have V : ∀ i, ∃ q : RD, i < len → (∀ j v, (rv q)[j]? = some v → W.cell? (x.add (i * 14 + j)) = some v) ∧ rok q := by
      intro i
      by_cases hi : i < len
      · obtain ⟨cs', h1, h2⟩ := hcell i (by omega)
        rw [cellsR] at h1
        obtain ⟨_, hlen, hce⟩ := World.cells?_some h1
        obtain ⟨ra, rb, r2, r3, r4, r5, r6, r7, r8, r9, r10, r11, ro, r13, hL, or2, or3, or4, or5, or6, or7, or8, or9, or10, or11, or13⟩ := open_row (l := cs') hlen h2
        subst hL
        refine ⟨⟨ra, rb, r2, r3, r4, r5, r6, r7, r8, r9, r10, r11, ro, r13⟩, fun _ => ⟨fun j v hj => ?_, or2, or3, or4, or5, or6, or7, or8, or9, or10, or11, or13⟩⟩
        have hj14 : j < 14 := (List.getElem?_eq_some_iff.1 hj).1
        have h3 := hce j hj14
        rw [Go.Deep.add_add] at h3
        rw [h3]
        exact hj
      · exact ⟨⟨0, 0, 0, 0, 0, 0, 0, 0, 0, 0, 0, 0, 0, 0⟩, fun h => absurd h hi⟩
    obtain ⟨f, hf'⟩ := Classical.axiomOfChoice V
    obtain ⟨b, off, spot⟩ := x
    have hspot : spot = none := by
      have h4 := (hf' 0 h0).1 0 _ rfl
      simpa [Addr.add] using World.cell?_spot h4
    subst hspot
    refine ⟨b, off, f, rfl, fun i hi j v hj => ?_, fun i hi => (hf' i hi).2⟩
    have h5 := (hf' i hi).1 j v hj
    rw [add_plain, ← Nat.add_assoc] at h5
    exact h5
set_option maxRecDepth 100000 in
theorem walk_many (kq sa ua sb ub : Int) (ax ay bx b_y ux uy rs rt : Nat) (mo : Bool) (sp mt : Nat) (li : Bool) (lo hi p0 p1 p2 : Nat) (a : Option Addr) (len cap : Nat) (w : World) (h : 1000 < len) : Calls Try.prog 4 #[.agg #[.int .u8 kq, .int .u32 sa, .int .u32 ua, .int .u32 sb, .int .u32 ub, .float .f64 ax, .float .f64 ay, .float .f64 bx, .float .f64 b_y, .float .f64 ux, .float .f64 uy, .float .f64 rs, .float .f64 rt, .bool mo, .float .f64 sp, .float .f64 mt, .bool li, .float .f64 lo, .float .f64 hi, .float .f64 p0, .float .f64 p1, .float .f64 p2], .slice a len cap] w fun e w' => e = .returned (.bool true) ∧ Below w.heap.size w w' := by
  have hI : (1000 : Int) < (len : Int) := by omega
  go_enter Try.func4, Try.ntmps4
  repeat (first | go_values | go_skip | go_guarded | go_step | go_upon | go_back | dsimp only)
  go_ret
  exact ⟨rfl, (bl_alloc (bl_refl w) _ _).1⟩
theorem walk_any (kq sa ua sb ub : Int) (ax ay bx b_y ux uy rs rt : Nat) (mo : Bool) (sp mt : Nat) (li : Bool) (lo hi p0 p1 p2 : Nat) (oax : okK .f64 ax) (oay : okK .f64 ay) (obx : okK .f64 bx) (ob_y : okK .f64 b_y) (oux : okK .f64 ux) (ouy : okK .f64 uy) (ors : okK .f64 rs) (ort : okK .f64 rt) (osp : okK .f64 sp) (omt : okK .f64 mt) (olo : okK .f64 lo) (ohi : okK .f64 hi) (op0 : okK .f64 p0) (op1 : okK .f64 p1) (op2 : okK .f64 p2) (a : Option Addr) (len cap : Nat) (w : World) (h : IsR w a len cap) : Calls Try.prog 4 #[.agg #[.int .u8 kq, .int .u32 sa, .int .u32 ua, .int .u32 sb, .int .u32 ub, .float .f64 ax, .float .f64 ay, .float .f64 bx, .float .f64 b_y, .float .f64 ux, .float .f64 uy, .float .f64 rs, .float .f64 rt, .bool mo, .float .f64 sp, .float .f64 mt, .bool li, .float .f64 lo, .float .f64 hi, .float .f64 p0, .float .f64 p1, .float .f64 p2], .slice a len cap] w fun e w' => e = .returned (.bool true) ∧ Below w.heap.size w w' := by
  obtain ⟨hl, hm, h⟩ := h
  obtain ⟨er, he⟩ : ∃ er, (jE kq sa sb ax ay bx b_y ux uy rs rt sp mt lo hi p0 p1 p2 li) = er := ⟨_, rfl⟩
  rcases h with rfl | ⟨b, off, Q, rfl, hS, hO⟩
  · have hS0 : Rws w 0 0 0 (fun _ => ⟨0, 0, 0, 0, 0, 0, 0, 0, 0, 0, 0, 0, 0, 0⟩) := fun i hi => absurd hi (Nat.not_lt_zero _)
    by_cases h0 : er = 0
    · subst h0
      exact kw0_ok kq sa ua sb ub ax ay bx b_y ux uy rs rt mo sp mt li lo hi p0 p1 p2 oax oay obx ob_y oux ouy ors ort osp omt olo ohi op0 op1 op2 a 0 0 cap _ w hl hm hS0 (fun i hi => absurd hi (Nat.not_lt_zero _)) he (by decide)
    · exact kw0_bad kq sa ua sb ub ax ay bx b_y ux uy rs rt mo sp mt li lo hi p0 p1 p2 oax oay obx ob_y oux ouy ors ort osp omt olo ohi op0 op1 op2 a 0 0 cap _ w hl hm hS0 (fun i hi => absurd hi (Nat.not_lt_zero _)) er he h0
  · by_cases hk : 1000 < len
    · exact walk_many kq sa ua sb ub ax ay bx b_y ux uy rs rt mo sp mt li lo hi p0 p1 p2 _ len cap w hk
    rcases Nat.eq_zero_or_pos len with rfl | hp
    · by_cases h0 : er = 0
      · subst h0
        exact kw0_ok kq sa ua sb ub ax ay bx b_y ux uy rs rt mo sp mt li lo hi p0 p1 p2 oax oay obx ob_y oux ouy ors ort osp omt olo ohi op0 op1 op2 _ b off cap Q w hl hm hS hO he (by decide)
      · exact kw0_bad kq sa ua sb ub ax ay bx b_y ux uy rs rt mo sp mt li lo hi p0 p1 p2 oax oay obx ob_y oux ouy ors ort osp omt olo ohi op0 op1 op2 _ b off cap Q w hl hm hS hO er he h0
    by_cases h0 : er = 0
    · subst h0
      by_cases h3 : 3 < len
      · exact kw_many kq sa ua sb ub ax ay bx b_y ux uy rs rt mo sp mt li lo hi p0 p1 p2 oax oay obx ob_y oux ouy ors ort osp omt olo ohi op0 op1 op2 b off len cap Q w hp hl hm (by omega) hS hO he h3
      · exact kw_ok kq sa ua sb ub ax ay bx b_y ux uy rs rt mo sp mt li lo hi p0 p1 p2 oax oay obx ob_y oux ouy ors ort osp omt olo ohi op0 op1 op2 b off len cap Q w hp hl hm (by omega) hS hO he (by omega)
    · exact kw_bad kq sa ua sb ub ax ay bx b_y ux uy rs rt mo sp mt li lo hi p0 p1 p2 oax oay obx ob_y oux ouy ors ort osp omt olo ohi op0 op1 op2 b off len cap Q w hp hl hm (by omega) hS hO er he h0

set_option maxRecDepth 100000 in
theorem lifted (os : Os) (started : os.Started) (H : Type) (enc : TypeId × Value → H) :
    ReturnsInHanded {} Try.checked os 4 .any (Rows.jointKeepsSpec.pre6 enc Try.prog Try.f4 Rows.jointKeepsRow.domain false) (Rows.jointKeepsSpec.post enc Try.prog Try.f4 false true false false) := by
  refine returnsInHanded_of_change_sized (C := Try.checked) own started (by kernel_rfl) Try.func4
    (ChangeSpec.witness6 (enc := enc) (C := Try.checked) false ⟨#[], #[.agg #[.int .u8 0, .int .u32 0, .int .u32 0, .int .u32 0, .int .u32 0, .float .f64 0, .float .f64 0, .float .f64 0, .float .f64 0, .float .f64 0, .float .f64 0, .float .f64 0, .float .f64 0, .bool false, .float .f64 0, .float .f64 0, .bool false, .float .f64 0, .float .f64 0, .float .f64 0, .float .f64 0, .float .f64 0], .slice none 0 0], []⟩ 8 (by kernel_rfl) (by kernel_rfl) (by kernel_rfl) (by kernel_rfl)) ?_
  intro W base args ds gs before hval0 hW hcnd hsz0 _
  have hval : ∀ (j : Nat) t v, Try.f4.params[j]? = some t → args[j]? = some v → Value.okWide Try.prog W .any base t v := hval0
  have hW' := hW
  obtain ⟨p, q, hA0, hV, rfl, hfz, hnd⟩ := hW
  have hA : DataW.TrodAll enc Try.prog W 0 (fun _ => true) true Try.f4.params.toList args.toList ds p := hA0
  rw [Try.params4] at hA hval
  obtain ⟨v0, vs0, d0, ds0, pl0, ql0, hargs, rfl, rfl, h0, r0⟩ := trodAll_cons hA
  obtain ⟨v1, vs1, d1, ds1, pl1, ql1, e1, rfl, rfl, h1, r1⟩ := trodAll_cons r0
  obtain ⟨rfl, rfl, rfl⟩ := trodAll_nil r1
  obtain rfl : args = #[v0, v1] := by cases args; simp_all
  obtain ⟨rfl, rfl⟩ := trodVars_none hV
  have k0 := h0
  have lt0 : ∀ x ∈ pl0, x.block < W.heap.size := by obtain ⟨m, hm⟩ := k0; exact DataW.trod_lt m _ _ _ hm
  obtain ⟨cs0, rfl, hsz0⟩ := okWide_struct Try.underlying30 (hval 0 30 v0 rfl rfl)
  obtain ⟨fu0, hf0⟩ := h0
  obtain ⟨kq, sa, ua, sb, ub, ax, ay, bx, b_y, ux, uy, rs, rt, mo, sp, mt, li, lo, hi, p0, p1, p2, hl0, oax, oay, obx, ob_y, oux, ouy, ors, ort, osp, omt, olo, ohi, op0, op1, op2⟩ := open_joint (l := cs0.toList) (by rw [Array.length_toList, hsz0]; exact cellsJ) hf0
  obtain rfl : cs0 = #[.int .u8 kq, .int .u32 sa, .int .u32 ua, .int .u32 sb, .int .u32 ub, .float .f64 ax, .float .f64 ay, .float .f64 bx, .float .f64 b_y, .float .f64 ux, .float .f64 uy, .float .f64 rs, .float .f64 rt, .bool mo, .float .f64 sp, .float .f64 mt, .bool li, .float .f64 lo, .float .f64 hi, .float .f64 p0, .float .f64 p1, .float .f64 p2] := by rw [← Array.toArray_toList (xs := cs0), hl0]
  have k1 := h1
  have lt1 : ∀ x ∈ pl1, x.block < W.heap.size := by obtain ⟨m, hm⟩ := k1; exact DataW.trod_lt m _ _ _ hm
  obtain ⟨a1, len1, cap1, rfl⟩ := okWide_slice Try.underlying34 (hval 1 34 v1 rfl rfl)
  have w1 := is_rows h1
  clear hA0 hval0 hsz0
  refine (walk_any kq sa ua sb ub ax ay bx b_y ux uy rs rt mo sp mt li lo hi p0 p1 p2 oax oay obx ob_y oux ouy ors ort osp omt olo ohi op0 op1 op2 a1 len1 cap1 W w1).mono fun e W' ⟨he, bel0⟩ => ?_
  have bel := bel0
  subst he
  exact ⟨_, rfl, _, _, _, [], _, [], hW', trodAll_mk1 (shut_bool Try.underlying4 _), (trodAll_cons_mk (Below.trod laidOut (by kernel_rfl) (of_decide_eq_true (by kernel_rfl)) k0 bel lt0) (trodAll_cons_mk (Below.trod laidOut (by kernel_rfl) (of_decide_eq_true (by kernel_rfl)) k1 bel lt1) trodAll_mk0)), rfl, bel.frame _, fun h => by cases h⟩

theorem over : Rows.jointKeepsRow.holds Try.pinned (OpenSpec.ofChange Rows.jointKeepsSpec) :=
  OpenClaim.holds_of_wide 4 Try.f4 rfl rfl rfl rfl rfl rfl rfl ⟨rfl, rfl, rfl, rfl, rfl⟩ rfl rfl rfl rfl rfl (by kernel_rfl) Try.func4 (by kernel_rfl)
    (of_decide_eq_true (by kernel_rfl)) (by unfold Func.isWrapper; first | (rw [if_pos (by decide +kernel)]; kernel_rfl) | (rw [if_neg (by decide +kernel)]; exact ⟨rfl, rfl⟩))
    (fun os started H enc _ => lifted os started H enc)

theorem proved : Rows.JointKeepsSaid :=
  over
#print axioms proved
end Go.Proofs.Ytfjlonnmhioleaa.jointKeeps
