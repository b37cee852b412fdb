/-
  RowKeeps: for every touch (at most 70 points) and every slice of rows (at most 200) Keep answers what the reference answers, and what was handed in stays; no condition.
-/
import Derived.Test.YtfohggiehbplkaaRows
import Derived.Test.YtfohggiehbplkaaKm
import Derived.Test.YtfohggiehbplkaaKn
import Derived.Test.YtfohggiehbplkaaKo
import Derived.Test.YtfohggiehbplkaaWh
import Derived.WalkKit
import Derived.ProofKit
import Derived.OpenShut
import Derived.WalkLawsBesides
import Derived.WalkSpells
import Derived.Lib.SmallJoins
import Derived.Laws.Cover2
import Derived.Laws.AppendOwn
import Derived.Laws.IdiomArrays
import Derived.Deep.SlicePairs
import Derived.SizedLaws
import Derived.Below
import Derived.ChangeArms
namespace Go.Proofs.Ytfohggiehbplkaa.rowKeeps
open Go.ChangeShapes Go.WideShapes Go.ChangeAt Go.RowKit Go.Joins
set_option linter.unusedVariables false
set_option linter.unusedSimpArgs false
theorem own : ownKnob Try.prog.godebug = none := by kernel_rfl
theorem laidOut : laidOutB Try.prog = true := by kernel_rfl
theorem wf_f64 {x : Nat} (h : (Lit.float .f64 x).wf = true) : okK .f64 x := by
  rw [okK64]; simpa [Lit.wf] using h
section
variable {H : Type} {enc : TypeId × Value → H} {P : Program} {w : World} {base fuel : Nat} {spare : Nat → Bool} {held : Bool} {t : TypeId} {cs : List Value} {x : DataW H × List MemPlace}
theorem trod_fl {k : FloatKind} (ht : P.underlying t = some (.float k)) (h : DataW.trod enc P w base spare held fuel t cs = some x) : ∃ y, cs = [.float k y] ∧ (Lit.float k y).wf = true := by
  cases fuel with
  | zero => simp [DataW.trod] at h
  | succ n =>
    unfold DataW.trod at h
    rw [ht] at h
    split at h <;> simp_all
theorem trod_bo (ht : P.underlying t = some .bool) (h : DataW.trod enc P w base spare held fuel t cs = some x) : ∃ y, cs = [.bool y] := by
  cases fuel with
  | zero => simp [DataW.trod] at h
  | succ n =>
    unfold DataW.trod at h
    rw [ht] at h
    split at h <;> simp_all
theorem trod_in {k : IntKind} (ht : P.underlying t = some (.int k)) (h : DataW.trod enc P w base spare held fuel t cs = some x) : ∃ n, cs = [.int k n] ∧ (Lit.int k n).wf = true := by
  cases fuel with
  | zero => simp [DataW.trod] at h
  | succ n =>
    unfold DataW.trod at h
    rw [ht] at h
    split at h <;> simp_all
end
theorem cellsF : Try.prog.cellsOf 24 = 1 := by kernel_rfl
theorem cellsV : Try.prog.cellsOf 26 = 2 := by kernel_rfl
theorem cellsI : Try.prog.cellsOf 3 = 1 := by kernel_rfl
theorem cellsR : Try.prog.cellsOf 43 = 14 := by kernel_rfl
theorem cellsB : Try.prog.cellsOf 4 = 1 := by kernel_rfl
theorem cells32 : Try.prog.cellsOf 37 = 1 := by kernel_rfl
theorem cellsP4 : Try.prog.cellsOf 23 = 4 := by kernel_rfl
theorem cellsT8 : Try.prog.cellsOf 29 = 8 := by kernel_rfl
theorem cellsPT : Try.prog.cellsOf 39 = 6 := by kernel_rfl
theorem cellsPS : Try.prog.cellsOf 27 = 1 := by kernel_rfl
theorem list14 {α : Type} {l : List α} (h : l.length = 14) : ∃ c0 c1 c2 c3 c4 c5 c6 c7 c8 c9 c10 c11 c12 c13, l = [c0, c1, c2, c3, c4, c5, c6, c7, c8, c9, c10, c11, c12, c13] := by
  obtain _ | ⟨c0, l⟩ := l
  · simp at h
  obtain _ | ⟨c1, l⟩ := l
  · simp at h
  obtain _ | ⟨c2, l⟩ := l
  · simp at h
  obtain _ | ⟨c3, l⟩ := l
  · simp at h
  obtain _ | ⟨c4, l⟩ := l
  · simp at h
  obtain _ | ⟨c5, l⟩ := l
  · simp at h
  obtain _ | ⟨c6, l⟩ := l
  · simp at h
  obtain _ | ⟨c7, l⟩ := l
  · simp at h
  obtain _ | ⟨c8, l⟩ := l
  · simp at h
  obtain _ | ⟨c9, l⟩ := l
  · simp at h
  obtain _ | ⟨c10, l⟩ := l
  · simp at h
  obtain _ | ⟨c11, l⟩ := l
  · simp at h
  obtain _ | ⟨c12, l⟩ := l
  · simp at h
  obtain _ | ⟨c13, l⟩ := l
  · simp at h
  obtain _ | ⟨c, l⟩ := l
  · exact ⟨c0, c1, c2, c3, c4, c5, c6, c7, c8, c9, c10, c11, c12, c13, rfl⟩
  · simp at h
theorem list12 {α : Type} {l : List α} (h : l.length = 12) : ∃ c0 c1 c2 c3 c4 c5 c6 c7 c8 c9 c10 c11, l = [c0, c1, c2, c3, c4, c5, c6, c7, c8, c9, c10, c11] := by
  obtain _ | ⟨c0, l⟩ := l
  · simp at h
  obtain _ | ⟨c1, l⟩ := l
  · simp at h
  obtain _ | ⟨c2, l⟩ := l
  · simp at h
  obtain _ | ⟨c3, l⟩ := l
  · simp at h
  obtain _ | ⟨c4, l⟩ := l
  · simp at h
  obtain _ | ⟨c5, l⟩ := l
  · simp at h
  obtain _ | ⟨c6, l⟩ := l
  · simp at h
  obtain _ | ⟨c7, l⟩ := l
  · simp at h
  obtain _ | ⟨c8, l⟩ := l
  · simp at h
  obtain _ | ⟨c9, l⟩ := l
  · simp at h
  obtain _ | ⟨c10, l⟩ := l
  · simp at h
  obtain _ | ⟨c11, l⟩ := l
  · simp at h
  obtain _ | ⟨c, l⟩ := l
  · exact ⟨c0, c1, c2, c3, c4, c5, c6, c7, c8, c9, c10, c11, rfl⟩
  · simp at h
set_option maxRecDepth 100000 in
set_option maxHeartbeats 2000000 in
theorem open_row {H : Type} {enc : TypeId × Value → H} {w : World} {base fuel : Nat} {spare : Nat → Bool} {held : Bool} {l : List Value} {x : DataW H × List MemPlace} (hl : l.length = 14) (h : DataW.trod enc Try.prog w base spare held fuel 43 l = some x) :
    ∃ (ra : Int) (rb : Int) (r2 : Nat) (r3 : Nat) (r4 : Nat) (r5 : Nat) (r6 : Nat) (r7 : Nat) (r8 : Nat) (r9 : Nat) (r10 : Nat) (r11 : Nat) (ro : Int) (r13 : Nat), l = [.int .i64 ra, .int .i64 rb, .float .f64 r2, .float .f64 r3, .float .f64 r4, .float .f64 r5, .float .f64 r6, .float .f64 r7, .float .f64 r8, .float .f64 r9, .float .f64 r10, .float .f64 r11, .int .i64 ro, .float .f64 r13] ∧ okK .f64 r2 ∧ okK .f64 r3 ∧ okK .f64 r4 ∧ okK .f64 r5 ∧ okK .f64 r6 ∧ okK .f64 r7 ∧ okK .f64 r8 ∧ okK .f64 r9 ∧ okK .f64 r10 ∧ okK .f64 r11 ∧ okK .f64 r13 := by
  obtain ⟨c0, c1, c2, c3, c4, c5, c6, c7, c8, c9, c10, c11, c12, c13, rfl⟩ := list14 hl
  obtain ⟨xs, n', _, _, _, hlx, hfd⟩ := DataW.trod_struct Try.underlying43 h
  obtain ⟨y0, y1, y2, y3, y4, y5, y6, y7, y8, y9, y10, y11, rfl⟩ := list12 hlx
  have g0 := hfd 0 _ rfl
  simp [cellsI] at g0
  obtain ⟨ra, e0, _⟩ := trod_in Try.underlying3 g0
  have g1 := hfd 1 _ rfl
  simp [cellsI] at g1
  obtain ⟨rb, e1, _⟩ := trod_in Try.underlying3 g1
  have g2 := hfd 2 _ rfl
  simp [cellsV] at g2
  obtain ⟨_, _, _, _, _, s2, s3⟩ := trod_struct2 Try.underlying26 g2
  simp [cellsF] at s2 s3
  obtain ⟨r2, e2, w2⟩ := trod_fl Try.underlying24 s2
  obtain ⟨r3, e3, w3⟩ := trod_fl Try.underlying24 s3
  have g3 := hfd 3 _ rfl
  simp [cellsV] at g3
  obtain ⟨_, _, _, _, _, s4, s5⟩ := trod_struct2 Try.underlying26 g3
  simp [cellsF] at s4 s5
  obtain ⟨r4, e4, w4⟩ := trod_fl Try.underlying24 s4
  obtain ⟨r5, e5, w5⟩ := trod_fl Try.underlying24 s5
  have g4 := hfd 4 _ rfl
  simp [cellsF] at g4
  obtain ⟨r6, e6, w6⟩ := trod_fl Try.underlying24 g4
  have g5 := hfd 5 _ rfl
  simp [cellsF] at g5
  obtain ⟨r7, e7, w7⟩ := trod_fl Try.underlying24 g5
  have g6 := hfd 6 _ rfl
  simp [cellsF] at g6
  obtain ⟨r8, e8, w8⟩ := trod_fl Try.underlying24 g6
  have g7 := hfd 7 _ rfl
  simp [cellsF] at g7
  obtain ⟨r9, e9, w9⟩ := trod_fl Try.underlying24 g7
  have g8 := hfd 8 _ rfl
  simp [cellsF] at g8
  obtain ⟨r10, e10, w10⟩ := trod_fl Try.underlying24 g8
  have g9 := hfd 9 _ rfl
  simp [cellsF] at g9
  obtain ⟨r11, e11, w11⟩ := trod_fl Try.underlying24 g9
  have g10 := hfd 10 _ rfl
  simp [cellsI] at g10
  obtain ⟨ro, e12, _⟩ := trod_in Try.underlying3 g10
  have g11 := hfd 11 _ rfl
  simp [cellsF] at g11
  obtain ⟨r13, e13, w13⟩ := trod_fl Try.underlying24 g11
  simp at e0 e1 e2 e3 e4 e5 e6 e7 e8 e9 e10 e11 e12 e13
  subst e0 e1 e2 e3 e4 e5 e6 e7 e8 e9 e10 e11 e12 e13
  exact ⟨_, _, _, _, _, _, _, _, _, _, _, _, _, _, rfl, wf_f64 w2, wf_f64 w3, wf_f64 w4, wf_f64 w5, wf_f64 w6, wf_f64 w7, wf_f64 w8, wf_f64 w9, wf_f64 w10, wf_f64 w11, wf_f64 w13⟩
theorem list6 {α : Type} {l : List α} (h : l.length = 6) : ∃ c0 c1 c2 c3 c4 c5, l = [c0, c1, c2, c3, c4, c5] := by
  obtain _ | ⟨c0, l⟩ := l
  · simp at h
  obtain _ | ⟨c1, l⟩ := l
  · simp at h
  obtain _ | ⟨c2, l⟩ := l
  · simp at h
  obtain _ | ⟨c3, l⟩ := l
  · simp at h
  obtain _ | ⟨c4, l⟩ := l
  · simp at h
  obtain _ | ⟨c5, l⟩ := l
  · simp at h
  obtain _ | ⟨c, l⟩ := l
  · exact ⟨c0, c1, c2, c3, c4, c5, rfl⟩
  · simp at h
theorem list5 {α : Type} {l : List α} (h : l.length = 5) : ∃ c0 c1 c2 c3 c4, l = [c0, c1, c2, c3, c4] := by
  obtain _ | ⟨c0, l⟩ := l
  · simp at h
  obtain _ | ⟨c1, l⟩ := l
  · simp at h
  obtain _ | ⟨c2, l⟩ := l
  · simp at h
  obtain _ | ⟨c3, l⟩ := l
  · simp at h
  obtain _ | ⟨c4, l⟩ := l
  · simp at h
  obtain _ | ⟨c, l⟩ := l
  · exact ⟨c0, c1, c2, c3, c4, rfl⟩
  · simp at h
set_option maxRecDepth 100000 in
set_option maxHeartbeats 2000000 in
theorem open_point {H : Type} {enc : TypeId × Value → H} {w : World} {base fuel : Nat} {spare : Nat → Bool} {held : Bool} {l : List Value} {x : DataW H × List MemPlace} (hl : l.length = 6) (h : DataW.trod enc Try.prog w base spare held fuel 39 l = some x) :
    ∃ (x : Nat) (y : Nat) (dp : Nat) (id : Int) (pu : Nat) (dr : Nat), l = [.float .f64 x, .float .f64 y, .float .f64 dp, .int .u32 id, .float .f64 pu, .float .f64 dr] ∧ okK .f64 x ∧ okK .f64 y ∧ okK .f64 dp ∧ okK .f64 pu ∧ okK .f64 dr := by
  obtain ⟨c0, c1, c2, c3, c4, c5, rfl⟩ := list6 hl
  obtain ⟨xs, n', _, _, _, hlx, hfd⟩ := DataW.trod_struct Try.underlying39 h
  obtain ⟨y0, y1, y2, y3, y4, rfl⟩ := list5 hlx
  have g0 := hfd 0 _ rfl
  simp [cellsV] at g0
  obtain ⟨_, _, _, _, _, s0, s1⟩ := trod_struct2 Try.underlying26 g0
  simp [cellsF] at s0 s1
  obtain ⟨x, e0, w0⟩ := trod_fl Try.underlying24 s0
  obtain ⟨y, e1, w1⟩ := trod_fl Try.underlying24 s1
  have g1 := hfd 1 _ rfl
  simp [cellsF] at g1
  obtain ⟨dp, e2, w2⟩ := trod_fl Try.underlying24 g1
  have g2 := hfd 2 _ rfl
  simp [cells32] at g2
  obtain ⟨id, e3, _⟩ := trod_in Try.underlying37 g2
  have g3 := hfd 3 _ rfl
  simp [cellsF] at g3
  obtain ⟨pu, e4, w4⟩ := trod_fl Try.underlying24 g3
  have g4 := hfd 4 _ rfl
  simp [cellsF] at g4
  obtain ⟨dr, e5, w5⟩ := trod_fl Try.underlying24 g4
  simp at e0 e1 e2 e3 e4 e5
  subst e0 e1 e2 e3 e4 e5
  exact ⟨_, _, _, _, _, _, rfl, wf_f64 w0, wf_f64 w1, wf_f64 w2, wf_f64 w4, wf_f64 w5⟩

def IsR (W : World) (a : Option Addr) (len cap : Nat) : Prop := len ≤ cap ∧ cap ≤ maxLen ∧ (len = 0 ∨ ∃ b off Q, a = some ⟨b, off, none⟩ ∧ Rws W b off len Q ∧ ∀ i, i < len → rok (Q i))
set_option maxRecDepth 100000 in
theorem IsR_of {H : Type} {enc : TypeId × Value → H} {W : World} {spare : Nat → Bool} {held : Bool} {a : Option Addr} {len cap : Nat} {d : DataW H} {p : List MemPlace} (h : DataW.Trod enc Try.prog W 0 spare held 30 (.slice a len cap) d p) : IsR W a len cap := by
  obtain ⟨fuel, hf⟩ := h
  rcases Go.Deep.open_slice Try.underlying30 hf with ⟨hcs, _⟩ | ⟨x, l, c, m, n, D, Pl, hcs, _, hl, hm, hmm, hx, hcell⟩
  · simp [Value.cells] at hcs
    obtain ⟨rfl, rfl, rfl⟩ := hcs
    exact ⟨Nat.le_refl _, by decide, .inl rfl⟩
  · simp [Value.cells] at hcs
    obtain ⟨rfl, rfl, rfl⟩ := hcs
    have hlm : len ≤ m := by rw [hmm]; split <;> omega
    refine ⟨hl, hm, ?_⟩
    rcases Nat.eq_zero_or_pos len with h0 | h0
    · exact .inl h0
    right
    have V : ∀ i, ∃ q : RD, i < len → (∀ j v, (rc q)[j]? = some v → W.cell? (x.add (i * 14 + j)) = some v) ∧ rok q := by
      intro i
      by_cases hi : i < len
      · obtain ⟨cs', h1, h2⟩ := hcell i (by omega)
        rw [cellsR] at h1
        obtain ⟨_, hlen, hce⟩ := World.cells?_some h1
        obtain ⟨ra, rb, r2, r3, r4, r5, r6, r7, r8, r9, r10, r11, ro, r13, hL, or2, or3, or4, or5, or6, or7, or8, or9, or10, or11, or13⟩ := open_row (l := cs') hlen h2
        subst hL
        refine ⟨⟨ra, rb, r2, r3, r4, r5, r6, r7, r8, r9, r10, r11, ro, r13⟩, fun _ => ⟨fun j v hj => ?_, or2, or3, or4, or5, or6, or7, or8, or9, or10, or11, or13⟩⟩
        have hj14 : j < 14 := (List.getElem?_eq_some_iff.1 hj).1
        have h3 := hce j hj14
        rw [Go.Deep.add_add] at h3
        rw [h3]
        exact hj
      · exact ⟨⟨0, 0, 0, 0, 0, 0, 0, 0, 0, 0, 0, 0, 0, 0⟩, fun h => absurd h hi⟩
    obtain ⟨f, hf'⟩ := Classical.axiomOfChoice V
    obtain ⟨b, off, spot⟩ := x
    have hspot : spot = none := by
      have h4 := (hf' 0 h0).1 0 _ rfl
      simpa [Addr.add] using World.cell?_spot h4
    subst hspot
    refine ⟨b, off, f, rfl, fun i hi j v hj => ?_, fun i hi => (hf' i hi).2⟩
    have h5 := (hf' i hi).1 j v hj
    rw [add_plain, ← Nat.add_assoc] at h5
    exact h5

def IsP (W : World) (a : Option Addr) (len cap : Nat) : Prop := len ≤ cap ∧ cap ≤ maxLen ∧ (len = 0 ∨ ∃ b off Q, a = some ⟨b, off, none⟩ ∧ Pts W b off len Q ∧ ∀ i, i < len → pok (Q i))
set_option maxRecDepth 100000 in
theorem IsP_of {H : Type} {enc : TypeId × Value → H} {W : World} {spare : Nat → Bool} {held : Bool} {sl : Value} {fuel : Nat} {d : DataW H × List MemPlace} (hf : DataW.trod enc Try.prog W 0 spare held fuel 27 [sl] = some d) : ∃ a len cap, sl = .slice a len cap ∧ IsP W a len cap := by
  rcases Go.Deep.open_slice Try.underlying27 hf with ⟨hcs, _⟩ | ⟨x, l, c, m, n, D, Pl, hcs, _, hl, hm, hmm, hx, hcell⟩
  · simp at hcs
    exact ⟨_, _, _, hcs, Nat.le_refl _, by decide, .inl rfl⟩
  · simp at hcs
    refine ⟨_, _, _, hcs, ?_⟩
    obtain ⟨len, rfl⟩ : ∃ len, len = l := ⟨l, rfl⟩
    have hlm : len ≤ m := by rw [hmm]; split <;> omega
    refine ⟨hl, hm, ?_⟩
    rcases Nat.eq_zero_or_pos len with h0 | h0
    · exact .inl h0
    right
    have V : ∀ i, ∃ q : PD, i < len → (∀ j v, (pc q)[j]? = some v → W.cell? (x.add (i * 6 + j)) = some v) ∧ pok q := by
      intro i
      by_cases hi : i < len
      · obtain ⟨cs', h1, h2⟩ := hcell i (by omega)
        rw [cellsPT] at h1
        obtain ⟨_, hlen, hce⟩ := World.cells?_some h1
        obtain ⟨x, y, dp, id, pu, dr, hL, ox, oy, odp, opu, odr⟩ := open_point (l := cs') hlen h2
        subst hL
        refine ⟨⟨x, y, dp, id, pu, dr⟩, fun _ => ⟨fun j v hj => ?_, ox, oy, odp, opu, odr⟩⟩
        have hj14 : j < 6 := (List.getElem?_eq_some_iff.1 hj).1
        have h3 := hce j hj14
        rw [Go.Deep.add_add] at h3
        rw [h3]
        exact hj
      · exact ⟨⟨0, 0, 0, 0, 0, 0⟩, fun h => absurd h hi⟩
    obtain ⟨f, hf'⟩ := Classical.axiomOfChoice V
    obtain ⟨b, off, spot⟩ := x
    have hspot : spot = none := by
      have h4 := (hf' 0 h0).1 0 _ rfl
      simpa [Addr.add] using World.cell?_spot h4
    subst hspot
    refine ⟨b, off, f, rfl, fun i hi j v hj => ?_, fun i hi => (hf' i hi).2⟩
    have h5 := (hf' i hi).1 j v hj
    rw [add_plain, ← Nat.add_assoc] at h5
    exact h5
theorem list8 {α : Type} {l : List α} (h : l.length = 8) : ∃ c0 c1 c2 c3 c4 c5 c6 c7, l = [c0, c1, c2, c3, c4, c5, c6, c7] := by
  obtain _ | ⟨c0, l⟩ := l
  · simp at h
  obtain _ | ⟨c1, l⟩ := l
  · simp at h
  obtain _ | ⟨c2, l⟩ := l
  · simp at h
  obtain _ | ⟨c3, l⟩ := l
  · simp at h
  obtain _ | ⟨c4, l⟩ := l
  · simp at h
  obtain _ | ⟨c5, l⟩ := l
  · simp at h
  obtain _ | ⟨c6, l⟩ := l
  · simp at h
  obtain _ | ⟨c7, l⟩ := l
  · simp at h
  obtain _ | ⟨c, l⟩ := l
  · exact ⟨c0, c1, c2, c3, c4, c5, c6, c7, rfl⟩
  · simp at h
theorem list4 {α : Type} {l : List α} (h : l.length = 4) : ∃ c0 c1 c2 c3, l = [c0, c1, c2, c3] := by
  obtain _ | ⟨c0, l⟩ := l
  · simp at h
  obtain _ | ⟨c1, l⟩ := l
  · simp at h
  obtain _ | ⟨c2, l⟩ := l
  · simp at h
  obtain _ | ⟨c3, l⟩ := l
  · simp at h
  obtain _ | ⟨c, l⟩ := l
  · exact ⟨c0, c1, c2, c3, rfl⟩
  · simp at h
set_option maxRecDepth 100000 in
set_option maxHeartbeats 2000000 in
theorem open_touch {H : Type} {enc : TypeId × Value → H} {w : World} {spare : Nat → Bool} {fuel : Nat} {held : Bool} {l : List Value} {x : DataW H × List MemPlace} (hl : l.length = 8) (h : DataW.trod enc Try.prog w 0 spare held fuel 29 l = some x) :
    ∃ (T : TD) (a : Option Addr) (len cap : Nat), l = [.int .i64 T.ta, .int .i64 T.tp, .int .i64 T.tb, .int .i64 T.tq, .bool T.ts, .float .f64 T.tx, .float .f64 T.ty, .slice a len cap] ∧ (okK .f64 T.tx ∧ okK .f64 T.ty) ∧ IsP w a len cap := by
  obtain ⟨c0, c1, c2, c3, c4, c5, c6, c7, rfl⟩ := list8 hl
  obtain ⟨xs, n', _, _, _, hlx, hfd⟩ := DataW.trod_struct Try.underlying29 h
  obtain ⟨y0, y1, y2, y3, rfl⟩ := list4 hlx
  have g0 := hfd 0 _ rfl
  simp [cellsP4] at g0
  have g1 := hfd 1 _ rfl
  simp [cellsB] at g1
  have g2 := hfd 2 _ rfl
  simp [cellsV] at g2
  have g3 := hfd 3 _ rfl
  simp [cellsPS] at g3
  obtain ⟨zs, m', _, _, _, hlz, hfp⟩ := DataW.trod_struct Try.underlying23 g0
  obtain ⟨z0, z1, z2, z3, rfl⟩ := list4 hlz
  have q0 := hfp 0 _ rfl
  simp [cellsI] at q0
  obtain ⟨ta, e0, _⟩ := trod_in Try.underlying3 q0
  have q1 := hfp 1 _ rfl
  simp [cellsI] at q1
  obtain ⟨tp, e1, _⟩ := trod_in Try.underlying3 q1
  have q2 := hfp 2 _ rfl
  simp [cellsI] at q2
  obtain ⟨tb, e2, _⟩ := trod_in Try.underlying3 q2
  have q3 := hfp 3 _ rfl
  simp [cellsI] at q3
  obtain ⟨tq, e3, _⟩ := trod_in Try.underlying3 q3
  obtain ⟨ts, e4⟩ := trod_bo Try.underlying4 g1
  obtain ⟨_, _, _, _, _, s5, s6⟩ := trod_struct2 Try.underlying26 g2
  simp [cellsF] at s5 s6
  obtain ⟨tx, e5, w5⟩ := trod_fl Try.underlying24 s5
  obtain ⟨ty, e6, w6⟩ := trod_fl Try.underlying24 s6
  simp at e0 e1 e2 e3 e4 e5 e6
  subst e0 e1 e2 e3 e4 e5 e6
  obtain ⟨a, len, cap, rfl, hP⟩ := IsP_of g3
  exact ⟨⟨ta, tp, tb, tq, ts, tx, ty⟩, a, len, cap, rfl, ⟨wf_f64 w5, wf_f64 w6⟩, hP⟩

theorem walk_any (T : TD) (oT : okK .f64 T.tx ∧ okK .f64 T.ty) (a : Option Addr) (len cap : Nat) (a1 : Option Addr) (len1 cap1 : Nat) (w : World) (wP : IsP w a len cap) (wR : IsR w a1 len1 cap1) : Calls Try.prog 3 #[.agg #[.int .i64 T.ta, .int .i64 T.tp, .int .i64 T.tb, .int .i64 T.tq, .bool T.ts, .float .f64 T.tx, .float .f64 T.ty, .slice a len cap], .slice a1 len1 cap1] w fun e w' => e = .returned (.bool true) ∧ Below w.heap.size w w' := by
  obtain ⟨hpc, hpm, hP⟩ := wP
  obtain ⟨hrc, hrm, hR⟩ := wR
  obtain ⟨pb, po, P, hps, hp, op⟩ : ∃ pb po P, (len = 0 ∨ a = some ⟨pb, po, none⟩) ∧ Pts w pb po len P ∧ ∀ i, i < len → pok (P i) := by
    rcases hP with rfl | ⟨b, off, P, rfl, h1, h2⟩
    · exact ⟨0, 0, fun _ => ⟨0, 0, 0, 0, 0, 0⟩, .inl rfl, pts_nil _ _ _ _, fun i hi => absurd hi (Nat.not_lt_zero _)⟩
    · exact ⟨b, off, P, .inr rfl, h1, h2⟩
  obtain ⟨rb, ro, Q, hrs, hr⟩ : ∃ rb ro Q, (len1 = 0 ∨ a1 = some ⟨rb, ro, none⟩) ∧ Rws w rb ro len1 Q := by
    rcases hR with rfl | ⟨b, off, Q, rfl, h1, h2⟩
    · exact ⟨0, 0, fun _ => ⟨0, 0, 0, 0, 0, 0, 0, 0, 0, 0, 0, 0, 0, 0⟩, .inl rfl, fun i hi => absurd hi (Nat.not_lt_zero _)⟩
    · exact ⟨b, off, Q, .inr rfl, h1⟩
  by_cases hbig : 70 < len ∨ 200 < len1
  · exact rk_big T pb po len cap a P a1 len1 cap1 w hbig
  have h70 : len ≤ 70 := by omega
  have h200 : len1 ≤ 200 := by omega
  rcases ck_or T len P with he | he
  · by_cases hne : len1 = rwN T len
    · exact rk_ok T pb po len cap a P rb ro len1 cap1 a1 Q w hps hpc hpm hp op oT hrs hrc hrm hr h70 h200 he (hide hne)
    · exact rk_cnt T pb po len cap a P rb ro len1 cap1 a1 Q w hps hpc hpm hp op oT hrs hrc hrm hr h70 h200 he hne
  · exact rk_bad T pb po len cap a P rb ro len1 cap1 a1 Q w hps hpc hpm hp op oT hrs hrc hrm hr h70 h200 he

set_option maxRecDepth 100000 in
theorem lifted (os : Os) (started : os.Started) (H : Type) (enc : TypeId × Value → H) :
    ReturnsInHanded {} Try.checked os 3 .any (Rows.rowKeepsSpec.pre6 enc Try.prog Try.f3 Rows.rowKeepsRow.domain false) (Rows.rowKeepsSpec.post enc Try.prog Try.f3 false true false false) := by
  refine returnsInHanded_of_change_sized (C := Try.checked) own started (by kernel_rfl) Try.func3
    (ChangeSpec.witness6 (enc := enc) (C := Try.checked) false ⟨#[], #[.agg #[.int .i64 0, .int .i64 0, .int .i64 0, .int .i64 0, .bool false, .float .f64 0, .float .f64 0, .slice none 0 0], .slice none 0 0], []⟩ 8 (by kernel_rfl) (by kernel_rfl) (by kernel_rfl) (by kernel_rfl)) ?_
  intro W base args ds gs before hval0 hW hcnd hsz0 _
  have hval : ∀ (j : Nat) t v, Try.f3.params[j]? = some t → args[j]? = some v → Value.okWide Try.prog W .any base t v := hval0
  have hW' := hW
  obtain ⟨p, q, hA0, hV, rfl, hfz, hnd⟩ := hW
  have hA : DataW.TrodAll enc Try.prog W 0 (fun _ => true) true Try.f3.params.toList args.toList ds p := hA0
  rw [Try.params3] at hA hval
  obtain ⟨v0, vs0, d0, ds0, pl0, ql0, hargs, rfl, rfl, h0, r0⟩ := trodAll_cons hA
  obtain ⟨v1, vs1, d1, ds1, pl1, ql1, e1, rfl, rfl, h1, r1⟩ := trodAll_cons r0
  obtain ⟨rfl, rfl, rfl⟩ := trodAll_nil r1
  obtain rfl : args = #[v0, v1] := by cases args; simp_all
  obtain ⟨rfl, rfl⟩ := trodVars_none hV
  have k0 := h0
  have lt0 : ∀ x ∈ pl0, x.block < W.heap.size := by obtain ⟨m, hm⟩ := k0; exact DataW.trod_lt m _ _ _ hm
  obtain ⟨cs0, rfl, hsz0'⟩ := okWide_struct Try.underlying29 (hval 0 29 v0 rfl rfl)
  obtain ⟨fu0, hf0⟩ := h0
  obtain ⟨T, a, len, cap, hl0, oT, wP⟩ := open_touch (l := cs0.toList) (by rw [Array.length_toList, hsz0']; exact cellsT8) hf0
  obtain rfl : cs0 = #[.int .i64 T.ta, .int .i64 T.tp, .int .i64 T.tb, .int .i64 T.tq, .bool T.ts, .float .f64 T.tx, .float .f64 T.ty, .slice a len cap] := by rw [← Array.toArray_toList (xs := cs0), hl0]
  have k1 := h1
  have lt1 : ∀ x ∈ pl1, x.block < W.heap.size := by obtain ⟨m, hm⟩ := k1; exact DataW.trod_lt m _ _ _ hm
  obtain ⟨a1, len1, cap1, rfl⟩ := okWide_slice Try.underlying30 (hval 1 30 v1 rfl rfl)
  have w1 := IsR_of h1
  clear hA0 hval0 hsz0
  refine (walk_any T oT a len cap a1 len1 cap1 W wP w1).mono fun e W' ⟨he, bel0⟩ => ?_
  have bel := bel0
  subst he
  exact ⟨_, rfl, _, _, _, [], _, [], hW', trodAll_mk1 (shut_bool Try.underlying4 _), (trodAll_cons_mk (Below.trod laidOut (by kernel_rfl) (of_decide_eq_true (by kernel_rfl)) k0 bel lt0) (trodAll_cons_mk (Below.trod laidOut (by kernel_rfl) (of_decide_eq_true (by kernel_rfl)) k1 bel lt1) trodAll_mk0)), rfl, bel.frame _, fun h => by cases h⟩

theorem over : Rows.rowKeepsRow.holds Try.pinned (OpenSpec.ofChange Rows.rowKeepsSpec) :=
  OpenClaim.holds_of_wide 3 Try.f3 rfl rfl rfl rfl rfl rfl rfl ⟨rfl, rfl, rfl, rfl, rfl⟩ rfl rfl rfl rfl rfl (by kernel_rfl) Try.func3 (by kernel_rfl)
    (of_decide_eq_true (by kernel_rfl)) (by unfold Func.isWrapper; first | (rw [if_pos (by decide +kernel)]; kernel_rfl) | (rw [if_neg (by decide +kernel)]; exact ⟨rfl, rfl⟩))
    (fun os started H enc _ => lifted os started H enc)

theorem proved : Rows.RowKeepsSaid :=
  over
#print axioms proved
end Go.Proofs.Ytfohggiehbplkaa.rowKeeps
