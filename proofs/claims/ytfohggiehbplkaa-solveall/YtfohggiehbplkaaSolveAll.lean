/-
  SolveAll: All answers, for any rows, stills and rounds (but for lists that are large), what the document answers, bit by bit, twice, and Left likewise; no condition.
-/
import Derived.Test.YtfohggiehbplkaaRows
import Derived.Test.YtfohggiehbplkaaXzr
import Derived.WalkKit
import Derived.ProofKit
import Derived.OpenShut
import Derived.WalkLawsBesides
import Derived.WalkSpells
import Derived.Lib.SmallJoins
import Derived.Laws.Cover2
import Derived.Laws.AppendOwn
import Derived.Laws.IdiomArrays
import Derived.Deep.SlicePairs
import Derived.SizedLaws
import Derived.Below
import Derived.ChangeArms
namespace Go.Proofs.Ytfohggiehbplkaa.solveAll
open Go.ChangeShapes Go.WideShapes Go.ChangeAt Go.RowKit Go.Joins
set_option linter.unusedVariables false
set_option linter.unusedSimpArgs false
theorem own : ownKnob Try.prog.godebug = none := by kernel_rfl
theorem laidOut : laidOutB Try.prog = true := by kernel_rfl
theorem wf_f64 {x : Nat} (h : (Lit.float .f64 x).wf = true) : okK .f64 x := by
 rw [okK64]; simpa [Lit.wf] using h
section
variable {H : Type} {enc : TypeId × Value → H} {P : Program} {w : World} {base fuel : Nat} {spare : Nat → Bool} {held : Bool} {t : TypeId} {cs : List Value} {x : DataW H × List MemPlace}
theorem trod_fl {k : FloatKind} (ht : P.underlying t = some (.float k)) (h : DataW.trod enc P w base spare held fuel t cs = some x) : ∃ y, cs = [.float k y] ∧ (Lit.float k y).wf = true := by
 cases fuel with
 | zero => simp [DataW.trod] at h
 | succ n =>
  unfold DataW.trod at h
  rw [ht] at h
  split at h <;> simp_all
theorem trod_bo (ht : P.underlying t = some .bool) (h : DataW.trod enc P w base spare held fuel t cs = some x) : ∃ y, cs = [.bool y] := by
 cases fuel with
 | zero => simp [DataW.trod] at h
 | succ n =>
  unfold DataW.trod at h
  rw [ht] at h
  split at h <;> simp_all
theorem trod_in {k : IntKind} (ht : P.underlying t = some (.int k)) (h : DataW.trod enc P w base spare held fuel t cs = some x) : ∃ n, cs = [.int k n] ∧ (Lit.int k n).wf = true := by
 cases fuel with
 | zero => simp [DataW.trod] at h
 | succ n =>
  unfold DataW.trod at h
  rw [ht] at h
  split at h <;> simp_all
end
theorem cellsF : Try.prog.cellsOf 24 = 1 := by kernel_rfl
theorem cellsV : Try.prog.cellsOf 26 = 2 := by kernel_rfl
theorem cellsI : Try.prog.cellsOf 3 = 1 := by kernel_rfl
theorem cellsR : Try.prog.cellsOf 43 = 14 := by kernel_rfl
theorem cellsS : Try.prog.cellsOf 45 = 5 := by kernel_rfl
theorem list14 {α : Type} {l : List α} (h : l.length = 14) : ∃ c0 c1 c2 c3 c4 c5 c6 c7 c8 c9 c10 c11 c12 c13, l = [c0, c1, c2, c3, c4, c5, c6, c7, c8, c9, c10, c11, c12, c13] := by
 obtain _ | ⟨c0, l⟩ := l
 ·simp at h
 obtain _ | ⟨c1, l⟩ := l
 ·simp at h
 obtain _ | ⟨c2, l⟩ := l
 ·simp at h
 obtain _ | ⟨c3, l⟩ := l
 ·simp at h
 obtain _ | ⟨c4, l⟩ := l
 ·simp at h
 obtain _ | ⟨c5, l⟩ := l
 ·simp at h
 obtain _ | ⟨c6, l⟩ := l
 ·simp at h
 obtain _ | ⟨c7, l⟩ := l
 ·simp at h
 obtain _ | ⟨c8, l⟩ := l
 ·simp at h
 obtain _ | ⟨c9, l⟩ := l
 ·simp at h
 obtain _ | ⟨c10, l⟩ := l
 ·simp at h
 obtain _ | ⟨c11, l⟩ := l
 ·simp at h
 obtain _ | ⟨c12, l⟩ := l
 ·simp at h
 obtain _ | ⟨c13, l⟩ := l
 ·simp at h
 obtain _ | ⟨c, l⟩ := l
 ·exact ⟨c0, c1, c2, c3, c4, c5, c6, c7, c8, c9, c10, c11, c12, c13, rfl⟩
 ·simp at h
theorem list12 {α : Type} {l : List α} (h : l.length = 12) : ∃ c0 c1 c2 c3 c4 c5 c6 c7 c8 c9 c10 c11, l = [c0, c1, c2, c3, c4, c5, c6, c7, c8, c9, c10, c11] := by
 obtain _ | ⟨c0, l⟩ := l
 ·simp at h
 obtain _ | ⟨c1, l⟩ := l
 ·simp at h
 obtain _ | ⟨c2, l⟩ := l
 ·simp at h
 obtain _ | ⟨c3, l⟩ := l
 ·simp at h
 obtain _ | ⟨c4, l⟩ := l
 ·simp at h
 obtain _ | ⟨c5, l⟩ := l
 ·simp at h
 obtain _ | ⟨c6, l⟩ := l
 ·simp at h
 obtain _ | ⟨c7, l⟩ := l
 ·simp at h
 obtain _ | ⟨c8, l⟩ := l
 ·simp at h
 obtain _ | ⟨c9, l⟩ := l
 ·simp at h
 obtain _ | ⟨c10, l⟩ := l
 ·simp at h
 obtain _ | ⟨c11, l⟩ := l
 ·simp at h
 obtain _ | ⟨c, l⟩ := l
 ·exact ⟨c0, c1, c2, c3, c4, c5, c6, c7, c8, c9, c10, c11, rfl⟩
 ·simp at h
set_option maxRecDepth 100000 in
set_option maxHeartbeats 2000000 in
theorem open_row {H : Type} {enc : TypeId × Value → H} {w : World} {base fuel : Nat} {spare : Nat → Bool} {held : Bool} {l : List Value} {x : DataW H × List MemPlace} (hl : l.length = 14) (h : DataW.trod enc Try.prog w base spare held fuel 43 l = some x) :
  ∃ (ra : Int) (rb : Int) (r2 : Nat) (r3 : Nat) (r4 : Nat) (r5 : Nat) (r6 : Nat) (r7 : Nat) (r8 : Nat) (r9 : Nat) (r10 : Nat) (r11 : Nat) (ro : Int) (r13 : Nat), l = [.int .i64 ra, .int .i64 rb, .float .f64 r2, .float .f64 r3, .float .f64 r4, .float .f64 r5, .float .f64 r6, .float .f64 r7, .float .f64 r8, .float .f64 r9, .float .f64 r10, .float .f64 r11, .int .i64 ro, .float .f64 r13] ∧ okK .f64 r2 ∧ okK .f64 r3 ∧ okK .f64 r4 ∧ okK .f64 r5 ∧ okK .f64 r6 ∧ okK .f64 r7 ∧ okK .f64 r8 ∧ okK .f64 r9 ∧ okK .f64 r10 ∧ okK .f64 r11 ∧ okK .f64 r13 := by
 obtain ⟨c0, c1, c2, c3, c4, c5, c6, c7, c8, c9, c10, c11, c12, c13, rfl⟩ := list14 hl
 obtain ⟨xs, n', _, _, _, hlx, hfd⟩ := DataW.trod_struct Try.underlying43 h
 obtain ⟨y0, y1, y2, y3, y4, y5, y6, y7, y8, y9, y10, y11, rfl⟩ := list12 hlx
 have g0 := hfd 0 _ rfl
 simp [cellsI] at g0
 obtain ⟨ra, e0, _⟩ := trod_in Try.underlying3 g0
 have g1 := hfd 1 _ rfl
 simp [cellsI] at g1
 obtain ⟨rb, e1, _⟩ := trod_in Try.underlying3 g1
 have g2 := hfd 2 _ rfl
 simp [cellsV] at g2
 obtain ⟨_, _, _, _, _, s2, s3⟩ := trod_struct2 Try.underlying26 g2
 simp [cellsF] at s2 s3
 obtain ⟨r2, e2, w2⟩ := trod_fl Try.underlying24 s2
 obtain ⟨r3, e3, w3⟩ := trod_fl Try.underlying24 s3
 have g3 := hfd 3 _ rfl
 simp [cellsV] at g3
 obtain ⟨_, _, _, _, _, s4, s5⟩ := trod_struct2 Try.underlying26 g3
 simp [cellsF] at s4 s5
 obtain ⟨r4, e4, w4⟩ := trod_fl Try.underlying24 s4
 obtain ⟨r5, e5, w5⟩ := trod_fl Try.underlying24 s5
 have g4 := hfd 4 _ rfl
 simp [cellsF] at g4
 obtain ⟨r6, e6, w6⟩ := trod_fl Try.underlying24 g4
 have g5 := hfd 5 _ rfl
 simp [cellsF] at g5
 obtain ⟨r7, e7, w7⟩ := trod_fl Try.underlying24 g5
 have g6 := hfd 6 _ rfl
 simp [cellsF] at g6
 obtain ⟨r8, e8, w8⟩ := trod_fl Try.underlying24 g6
 have g7 := hfd 7 _ rfl
 simp [cellsF] at g7
 obtain ⟨r9, e9, w9⟩ := trod_fl Try.underlying24 g7
 have g8 := hfd 8 _ rfl
 simp [cellsF] at g8
 obtain ⟨r10, e10, w10⟩ := trod_fl Try.underlying24 g8
 have g9 := hfd 9 _ rfl
 simp [cellsF] at g9
 obtain ⟨r11, e11, w11⟩ := trod_fl Try.underlying24 g9
 have g10 := hfd 10 _ rfl
 simp [cellsI] at g10
 obtain ⟨ro, e12, _⟩ := trod_in Try.underlying3 g10
 have g11 := hfd 11 _ rfl
 simp [cellsF] at g11
 obtain ⟨r13, e13, w13⟩ := trod_fl Try.underlying24 g11
 simp at e0 e1 e2 e3 e4 e5 e6 e7 e8 e9 e10 e11 e12 e13
 subst e0 e1 e2 e3 e4 e5 e6 e7 e8 e9 e10 e11 e12 e13
 exact ⟨_, _, _, _, _, _, _, _, _, _, _, _, _, _, rfl, wf_f64 w2, wf_f64 w3, wf_f64 w4, wf_f64 w5, wf_f64 w6, wf_f64 w7, wf_f64 w8, wf_f64 w9, wf_f64 w10, wf_f64 w11, wf_f64 w13⟩
theorem list5 {α : Type} {l : List α} (h : l.length = 5) : ∃ c0 c1 c2 c3 c4, l = [c0, c1, c2, c3, c4] := by
 obtain _ | ⟨c0, l⟩ := l
 ·simp at h
 obtain _ | ⟨c1, l⟩ := l
 ·simp at h
 obtain _ | ⟨c2, l⟩ := l
 ·simp at h
 obtain _ | ⟨c3, l⟩ := l
 ·simp at h
 obtain _ | ⟨c4, l⟩ := l
 ·simp at h
 obtain _ | ⟨c, l⟩ := l
 ·exact ⟨c0, c1, c2, c3, c4, rfl⟩
 ·simp at h
theorem list4 {α : Type} {l : List α} (h : l.length = 4) : ∃ c0 c1 c2 c3, l = [c0, c1, c2, c3] := by
 obtain _ | ⟨c0, l⟩ := l
 ·simp at h
 obtain _ | ⟨c1, l⟩ := l
 ·simp at h
 obtain _ | ⟨c2, l⟩ := l
 ·simp at h
 obtain _ | ⟨c3, l⟩ := l
 ·simp at h
 obtain _ | ⟨c, l⟩ := l
 ·exact ⟨c0, c1, c2, c3, rfl⟩
 ·simp at h
set_option maxRecDepth 100000 in
set_option maxHeartbeats 2000000 in
theorem open_still {H : Type} {enc : TypeId × Value → H} {w : World} {base fuel : Nat} {spare : Nat → Bool} {held : Bool} {l : List Value} {x : DataW H × List MemPlace} (hl : l.length = 5) (h : DataW.trod enc Try.prog w base spare held fuel 45 l = some x) :
  ∃ (sm : Nat) (si : Nat) (sx : Nat) (sy : Nat) (ss : Nat), l = [.float .f64 sm, .float .f64 si, .float .f64 sx, .float .f64 sy, .float .f64 ss] ∧ okK .f64 sm ∧ okK .f64 si ∧ okK .f64 sx ∧ okK .f64 sy ∧ okK .f64 ss := by
 obtain ⟨c0, c1, c2, c3, c4, rfl⟩ := list5 hl
 obtain ⟨xs, n', _, _, _, hlx, hfd⟩ := DataW.trod_struct Try.underlying45 h
 obtain ⟨y0, y1, y2, y3, rfl⟩ := list4 hlx
 have g0 := hfd 0 _ rfl
 simp [cellsF] at g0
 obtain ⟨sm, e0, w0⟩ := trod_fl Try.underlying24 g0
 have g1 := hfd 1 _ rfl
 simp [cellsF] at g1
 obtain ⟨si, e1, w1⟩ := trod_fl Try.underlying24 g1
 have g2 := hfd 2 _ rfl
 simp [cellsV] at g2
 obtain ⟨_, _, _, _, _, s2, s3⟩ := trod_struct2 Try.underlying26 g2
 simp [cellsF] at s2 s3
 obtain ⟨sx, e2, w2⟩ := trod_fl Try.underlying24 s2
 obtain ⟨sy, e3, w3⟩ := trod_fl Try.underlying24 s3
 have g3 := hfd 3 _ rfl
 simp [cellsF] at g3
 obtain ⟨ss, e4, w4⟩ := trod_fl Try.underlying24 g3
 simp at e0 e1 e2 e3 e4
 subst e0 e1 e2 e3 e4
 exact ⟨_, _, _, _, _, rfl, wf_f64 w0, wf_f64 w1, wf_f64 w2, wf_f64 w3, wf_f64 w4⟩

def IsR (W : World) (a : Option Addr) (len cap : Nat) : Prop := len ≤ cap ∧ cap ≤ maxLen ∧ (len = 0 ∨ ∃ b off Q, a = some ⟨b, off, none⟩ ∧ Rws W b off len Q ∧ ∀ i, i < len → rok (Q i))
set_option maxRecDepth 100000 in
theorem IsR_of {H : Type} {enc : TypeId × Value → H} {W : World} {spare : Nat → Bool} {held : Bool} {a : Option Addr} {len cap : Nat} {d : DataW H} {p : List MemPlace} (h : DataW.Trod enc Try.prog W 0 spare held 30 (.slice a len cap) d p) : IsR W a len cap := by
 obtain ⟨fuel, hf⟩ := h
 rcases Go.Deep.open_slice Try.underlying30 hf with ⟨hcs, _⟩ | ⟨x, l, c, m, n, D, Pl, hcs, _, hl, hm, hmm, hx, hcell⟩
 ·simp [Value.cells] at hcs
  obtain ⟨rfl, rfl, rfl⟩ := hcs
  exact ⟨Nat.le_refl _, by decide, .inl rfl⟩
 ·simp [Value.cells] at hcs
  obtain ⟨rfl, rfl, rfl⟩ := hcs
  have hlm : len ≤ m := by rw [hmm]; split <;> omega
  refine ⟨hl, hm, ?_⟩
  rcases Nat.eq_zero_or_pos len with h0 | h0
  ·exact .inl h0
  right
  have V : ∀ i, ∃ q : RD, i < len → (∀ j v, (rc q)[j]? = some v → W.cell? (x.add (i * 14 + j)) = some v) ∧ rok q := by
   intro i
   by_cases hi : i < len
   ·obtain ⟨cs', h1, h2⟩ := hcell i (by omega)
    rw [cellsR] at h1
    obtain ⟨_, hlen, hce⟩ := World.cells?_some h1
    obtain ⟨ra, rb, r2, r3, r4, r5, r6, r7, r8, r9, r10, r11, ro, r13, hL, or2, or3, or4, or5, or6, or7, or8, or9, or10, or11, or13⟩ := open_row (l := cs') hlen h2
    subst hL
    refine ⟨⟨ra, rb, r2, r3, r4, r5, r6, r7, r8, r9, r10, r11, ro, r13⟩, fun _ => ⟨fun j v hj => ?_, or2, or3, or4, or5, or6, or7, or8, or9, or10, or11, or13⟩⟩
    have hj14 : j < 14 := (List.getElem?_eq_some_iff.1 hj).1
    have h3 := hce j hj14
    rw [Go.Deep.add_add] at h3
    rw [h3]
    exact hj
   ·exact ⟨⟨0, 0, 0, 0, 0, 0, 0, 0, 0, 0, 0, 0, 0, 0⟩, fun h => absurd h hi⟩
  obtain ⟨f, hf'⟩ := Classical.axiomOfChoice V
  obtain ⟨b, off, spot⟩ := x
  have hspot : spot = none := by
   have h4 := (hf' 0 h0).1 0 _ rfl
   simpa [Addr.add] using World.cell?_spot h4
  subst hspot
  refine ⟨b, off, f, rfl, fun i hi j v hj => ?_, fun i hi => (hf' i hi).2⟩
  have h5 := (hf' i hi).1 j v hj
  rw [add_plain, ← Nat.add_assoc] at h5
  exact h5

def IsT (W : World) (a : Option Addr) (len cap : Nat) : Prop := len ≤ cap ∧ cap ≤ maxLen ∧ (len = 0 ∨ ∃ b off Q, a = some ⟨b, off, none⟩ ∧ Sts W b off len Q ∧ ∀ i, i < len → sok (Q i))
set_option maxRecDepth 100000 in
theorem IsT_of {H : Type} {enc : TypeId × Value → H} {W : World} {spare : Nat → Bool} {held : Bool} {a : Option Addr} {len cap : Nat} {d : DataW H} {p : List MemPlace} (h : DataW.Trod enc Try.prog W 0 spare held 61 (.slice a len cap) d p) : IsT W a len cap := by
 obtain ⟨fuel, hf⟩ := h
 rcases Go.Deep.open_slice Try.underlying61 hf with ⟨hcs, _⟩ | ⟨x, l, c, m, n, D, Pl, hcs, _, hl, hm, hmm, hx, hcell⟩
 ·simp [Value.cells] at hcs
  obtain ⟨rfl, rfl, rfl⟩ := hcs
  exact ⟨Nat.le_refl _, by decide, .inl rfl⟩
 ·simp [Value.cells] at hcs
  obtain ⟨rfl, rfl, rfl⟩ := hcs
  have hlm : len ≤ m := by rw [hmm]; split <;> omega
  refine ⟨hl, hm, ?_⟩
  rcases Nat.eq_zero_or_pos len with h0 | h0
  ·exact .inl h0
  right
  have V : ∀ i, ∃ q : SD, i < len → (∀ j v, (sc q)[j]? = some v → W.cell? (x.add (i * 5 + j)) = some v) ∧ sok q := by
   intro i
   by_cases hi : i < len
   ·obtain ⟨cs', h1, h2⟩ := hcell i (by omega)
    rw [cellsS] at h1
    obtain ⟨_, hlen, hce⟩ := World.cells?_some h1
    obtain ⟨sm, si, sx, sy, ss, hL, osm, osi, osx, osy, oss⟩ := open_still (l := cs') hlen h2
    subst hL
    refine ⟨⟨sm, si, sx, sy, ss⟩, fun _ => ⟨fun j v hj => ?_, osm, osi, osx, osy, oss⟩⟩
    have hj14 : j < 5 := (List.getElem?_eq_some_iff.1 hj).1
    have h3 := hce j hj14
    rw [Go.Deep.add_add] at h3
    rw [h3]
    exact hj
   ·exact ⟨⟨0, 0, 0, 0, 0⟩, fun h => absurd h hi⟩
  obtain ⟨f, hf'⟩ := Classical.axiomOfChoice V
  obtain ⟨b, off, spot⟩ := x
  have hspot : spot = none := by
   have h4 := (hf' 0 h0).1 0 _ rfl
   simpa [Addr.add] using World.cell?_spot h4
  subst hspot
  refine ⟨b, off, f, rfl, fun i hi j v hj => ?_, fun i hi => (hf' i hi).2⟩
  have h5 := (hf' i hi).1 j v hj
  rw [add_plain, ← Nat.add_assoc] at h5
  exact h5
theorem rows_at {w : World} {a : Option Addr} {len cap : Nat} (h : IsR w a len cap) : ∃ b off Q, (len = 0 ∨ a = some ⟨b, off, none⟩) ∧ len ≤ cap ∧ cap ≤ maxLen ∧ Rws w b off len Q ∧ ∀ i, i < len → rok (Q i) := by
 obtain ⟨h1, h2, h⟩ := h
 rcases h with rfl | ⟨b, off, Q, rfl, h3, h4⟩
 ·exact ⟨0, 0, fun _ => ⟨0, 0, 0, 0, 0, 0, 0, 0, 0, 0, 0, 0, 0, 0⟩, .inl rfl, h1, h2, fun i hi => by omega, fun i hi => by omega⟩
 ·exact ⟨b, off, Q, .inr rfl, h1, h2, h3, h4⟩
theorem stills_at {w : World} {a : Option Addr} {len cap : Nat} (h : IsT w a len cap) : ∃ b off S, (len = 0 ∨ a = some ⟨b, off, none⟩) ∧ len ≤ cap ∧ cap ≤ maxLen ∧ Sts w b off len S ∧ ∀ i, i < len → sok (S i) := by
 obtain ⟨h1, h2, h⟩ := h
 rcases h with rfl | ⟨b, off, S, rfl, h3, h4⟩
 ·exact ⟨0, 0, fun _ => ⟨0, 0, 0, 0, 0⟩, .inl rfl, h1, h2, fun i hi => by omega, fun i hi => by omega⟩
 ·exact ⟨b, off, S, .inr rfl, h1, h2, h3, h4⟩
theorem walk_any (a0 : Option Addr) (len0 cap0 : Nat) (a1 : Option Addr) (len1 cap1 : Nat) (i2 : Int) (w : World) (h0 : IsR w a0 len0 cap0) (h1 : IsT w a1 len1 cap1) (b0 : len0 * 112 ≤ 140737488351232) (b1 : len1 * 40 ≤ 140737488351232) : Calls Try.prog 7 #[.slice a0 len0 cap0, .slice a1 len1 cap1, .int .i64 i2] w fun e w' => e = .returned (.bool true) ∧ Below w.heap.size w w' := by
 obtain ⟨rb, ro, Q, p1, p2, p3, p4, p5⟩ := rows_at h0
 obtain ⟨sb, so, S, s1, s2, s3, s4, s5⟩ := stills_at h1
 cases hg : lgB len0 len1
 ·exact (sa9_ok rb ro len0 cap0 a0 Q sb so len1 cap1 a1 S i2 w p1 p2 p3 p4 p5 s1 s2 s3 s4 s5 b0 b1 hg).mono fun e w' ⟨he, hb⟩ => ⟨he, hb.1⟩
 ·exact (sa9_large rb ro len0 cap0 a0 Q sb so len1 cap1 a1 S i2 w hg).mono fun e w' ⟨he, hb⟩ => ⟨he, hb.1⟩

set_option maxRecDepth 100000 in
theorem lifted (os : Os) (started : os.Started) (H : Type) (enc : TypeId × Value → H) :
  ReturnsInHanded {} Try.checked os 7 .any (Rows.solveAllSpec.pre6 enc Try.prog Try.f7 Rows.solveAllRow.domain false) (Rows.solveAllSpec.post enc Try.prog Try.f7 false true false false) := by
 refine returnsInHanded_of_change_sized (C := Try.checked) own started (by kernel_rfl) Try.func7
  (ChangeSpec.witness6 (enc := enc) (C := Try.checked) false ⟨#[], #[.slice none 0 0, .slice none 0 0, .int .i64 0], []⟩ 8 (by kernel_rfl) (by kernel_rfl) (by kernel_rfl) (by kernel_rfl)) ?_
 intro W base args ds gs before hval0 hW hcnd hsz0 _
 have hval : ∀ (j : Nat) t v, Try.f7.params[j]? = some t → args[j]? = some v → Value.okWide Try.prog W .any base t v := hval0
 have hW' := hW
 obtain ⟨p, q, hA0, hV, rfl, hfz, hnd⟩ := hW
 have hA : DataW.TrodAll enc Try.prog W 0 (fun _ => true) true Try.f7.params.toList args.toList ds p := hA0
 have hsz : (DataW.weightsEach Try.prog (Try.f7.params.toList ++ Rows.solveAllSpec.plain.varTypes Try.prog) (ds ++ gs)).all (· ≤ reachBytes) = true := hsz0
 rw [Try.params7] at hA hval hsz
 obtain ⟨v0, vs0, d0, ds0, pl0, ql0, hargs, rfl, rfl, h0, r0⟩ := trodAll_cons hA
 obtain ⟨v1, vs1, d1, ds1, pl1, ql1, e1, rfl, rfl, h1, r1⟩ := trodAll_cons r0
 obtain ⟨v2, vs2, d2, ds2, pl2, ql2, e2, rfl, rfl, h2, r2⟩ := trodAll_cons r1
 obtain ⟨rfl, rfl, rfl⟩ := trodAll_nil r2
 obtain rfl : args = #[v0, v1, v2] := by cases args; simp_all
 obtain ⟨rfl, rfl⟩ := trodVars_none hV
 have k0 := h0
 have lt0 : ∀ x ∈ pl0, x.block < W.heap.size := by obtain ⟨m, hm⟩ := k0; exact DataW.trod_lt m _ _ _ hm
 obtain ⟨a0, len0, cap0, rfl⟩ := okWide_slice Try.underlying30 (hval 0 30 v0 rfl rfl)
 have w0 := IsR_of h0
 have b0 : len0 * 112 ≤ 140737488351232 := by
  obtain ⟨fuel, hf⟩ := k0
  rcases Go.Deep.open_slice Try.underlying30 hf with ⟨hcs, _⟩ | ⟨x, l, c, m, n, D, Pl, hcs, _, hl, hm, hmm, hx, hcell⟩
  ·simp [Value.cells] at hcs
   omega
  ·simp [Value.cells] at hcs
   obtain ⟨rfl, rfl, rfl⟩ := hcs
   simp only [Prod.mk.injEq] at hx
   obtain ⟨rfl, rfl⟩ := hx
   have hr := sized_slice hsz (j := 0) (t := 30) (e := 43) rfl rfl Try.underlying30
   rw [show Try.prog.bytesOf 43 = 112 by kernel_rfl] at hr
   simp only [List.length_map, List.length_range, reachBytes] at hr
   have hlm : len0 ≤ m := by rw [hmm]; split <;> omega
   omega
 have k1 := h1
 have lt1 : ∀ x ∈ pl1, x.block < W.heap.size := by obtain ⟨m, hm⟩ := k1; exact DataW.trod_lt m _ _ _ hm
 obtain ⟨a1, len1, cap1, rfl⟩ := okWide_slice Try.underlying61 (hval 1 61 v1 rfl rfl)
 have w1 := IsT_of h1
 have b1 : len1 * 40 ≤ 140737488351232 := by
  obtain ⟨fuel, hf⟩ := k1
  rcases Go.Deep.open_slice Try.underlying61 hf with ⟨hcs, _⟩ | ⟨x, l, c, m, n, D, Pl, hcs, _, hl, hm, hmm, hx, hcell⟩
  ·simp [Value.cells] at hcs
   omega
  ·simp [Value.cells] at hcs
   obtain ⟨rfl, rfl, rfl⟩ := hcs
   simp only [Prod.mk.injEq] at hx
   obtain ⟨rfl, rfl⟩ := hx
   have hr := sized_slice hsz (j := 1) (t := 61) (e := 45) rfl rfl Try.underlying61
   rw [show Try.prog.bytesOf 45 = 40 by kernel_rfl] at hr
   simp only [List.length_map, List.length_range, reachBytes] at hr
   have hlm : len1 ≤ m := by rw [hmm]; split <;> omega
   omega
 have k2 := h2
 have lt2 : ∀ x ∈ pl2, x.block < W.heap.size := by obtain ⟨m, hm⟩ := k2; exact DataW.trod_lt m _ _ _ hm
 obtain ⟨i2, rfl, _, _, wi2⟩ := open_int Try.underlying3 (hval 2 3 v2 rfl rfl) h2
 clear hA0 hval0 hsz0 hsz
 refine (walk_any a0 len0 cap0 a1 len1 cap1 i2 W w0 w1 b0 b1).mono fun e W' ⟨he, bel0⟩ => ?_
 have bel := bel0
 subst he
 exact ⟨_, rfl, _, _, _, [], _, [], hW', trodAll_mk1 (shut_bool Try.underlying4 _), (trodAll_cons_mk (Below.trod laidOut (by kernel_rfl) (of_decide_eq_true (by kernel_rfl)) k0 bel lt0) (trodAll_cons_mk (Below.trod laidOut (by kernel_rfl) (of_decide_eq_true (by kernel_rfl)) k1 bel lt1) (trodAll_cons_mk (Below.trod laidOut (by kernel_rfl) (of_decide_eq_true (by kernel_rfl)) k2 bel lt2) trodAll_mk0))), rfl, bel.frame _, fun h => by cases h⟩

theorem over : Rows.solveAllRow.holds Try.pinned (OpenSpec.ofChange Rows.solveAllSpec) :=
 OpenClaim.holds_of_wide 7 Try.f7 rfl rfl rfl rfl rfl rfl rfl ⟨rfl, rfl, rfl, rfl, rfl⟩ rfl rfl rfl rfl rfl (by kernel_rfl) Try.func7 (by kernel_rfl)
  (of_decide_eq_true (by kernel_rfl)) (by unfold Func.isWrapper; first | (rw [if_pos (by decide +kernel)]; kernel_rfl) | (rw [if_neg (by decide +kernel)]; exact ⟨rfl, rfl⟩))
  (fun os started H enc _ => lifted os started H enc)

theorem proved : Rows.SolveAllSaid :=
 over
#print axioms proved
end Go.Proofs.Ytfohggiehbplkaa.solveAll
