/-
  'tumblelaw08.MassParts' is true of every row of parts, whatever their floats and points are; no condition.
-/
import Derived.Test.YtfaiaepkmlmoaaaGreatRows
import Derived.Test.YtfaiaepkmlmoaaaGreatMpd
import Derived.WalkKit
import Derived.ProofKit
import Derived.OpenShut
import Derived.WalkLawsBesides
import Derived.WalkSpells
import Derived.Lib.SmallJoins
import Derived.Laws.Cover2
import Derived.Laws.AppendOwn
import Derived.Laws.OwnMore
import Derived.Laws.AppendOwnNone
import Derived.Deep.RegionHeld3
import Derived.Deep.RegionWith
import Derived.Deep.SlicePairs
import Derived.Deep.Strs
import Derived.SizedLaws
import Derived.Below
import Derived.ChangeArms
import Derived.Laws.StructEq
namespace Go.Proofs.YtfaiaepkmlmoaaaGreat.massParts
open Go.ChangeShapes Go.WideShapes Go.ChangeAt Go.RowKit Go.Joins
set_option linter.unusedVariables false
set_option linter.unusedSimpArgs false

theorem own : ownKnob Tryz.prog.godebug = none := by kernel_rfl
theorem laidOut : laidOutB Tryz.prog = true := by kernel_rfl
theorem wf_f64 {x : Nat} (h : (Lit.float .f64 x).wf = true) : okK .f64 x := by
  rw [okK64]; simpa [Lit.wf] using h
theorem trod_fl {H : Type} {enc : TypeId × Value → H} {P : Program} {w : World} {base fuel : Nat} {spare : Nat → Bool} {held : Bool} {t : TypeId} {cs : List Value} {x : DataW H × List MemPlace} {k : FloatKind} (ht : P.underlying t = some (.float k)) (h : DataW.trod enc P w base spare held fuel t cs = some x) : ∃ y, cs = [.float k y] ∧ x = (.lit (.float k y), []) ∧ (Lit.float k y).wf = true := by
  cases fuel with
  | zero => simp [DataW.trod] at h
  | succ n =>
    unfold DataW.trod at h
    rw [ht] at h
    split at h <;> simp_all
theorem trod_bo {H : Type} {enc : TypeId × Value → H} {P : Program} {w : World} {base fuel : Nat} {spare : Nat → Bool} {held : Bool} {t : TypeId} {cs : List Value} {x : DataW H × List MemPlace} (ht : P.underlying t = some .bool) (h : DataW.trod enc P w base spare held fuel t cs = some x) : ∃ y, cs = [.bool y] := by
  cases fuel with
  | zero => simp [DataW.trod] at h
  | succ n =>
    unfold DataW.trod at h
    rw [ht] at h
    split at h <;> simp_all
theorem cellsP : Tryz.prog.cellsOf 30 = 9 := by kernel_rfl
theorem cellsH : Tryz.prog.cellsOf 27 = 3 := by kernel_rfl
theorem cellsV : Tryz.prog.cellsOf 32 = 2 := by kernel_rfl
theorem cellsF : Tryz.prog.cellsOf 24 = 1 := by kernel_rfl
theorem cellsB : Tryz.prog.cellsOf 4 = 1 := by kernel_rfl
theorem cells16 : Tryz.prog.cellsOf 28 = 1 := by kernel_rfl
theorem cells8 : Tryz.prog.cellsOf 5 = 1 := by kernel_rfl
theorem cellsL : Tryz.prog.cellsOf 25 = 1 := by kernel_rfl
theorem walk_any (a : Option Addr) (n cap : Nat) (Kq : Nat → Int) (R : Nat → Nat) (va : Nat → Option Addr) (cp N : Nat → Nat) (X Y : Nat → Nat → Nat) (D F B : Nat → Nat) (S : Nat → Bool) (La Ma : Nat → Int) (w : World) (h : n = 0 ∨ ∃ b off, a = some ⟨b, off, none⟩ ∧ Pq w b off n Kq R (fun i => .slice (va i) (N i) (cp i)) D F B S La Ma) (hA : ∀ i, i < n → N i ≤ 100 → AnyS w (.slice (va i) (N i) (cp i)) (N i) (X i) (Y i)) (hr : ∀ i, i < n → okK .f64 (R i)) : Calls Tryz.prog 3 #[.slice a n cap] w fun e w' => e = .returned (.bool true) ∧ Below w.heap.size w w' :=
  (massparts8 a n cap Kq R va cp N X Y D F B S La Ma w h hA hr).mono fun e w' ⟨h1, h2⟩ => ⟨h1, h2.1⟩

/-- a part's words -/
structure PD where
  K : Int
  R : Nat
  va : Option Addr
  ln : Nat
  cp : Nat
  X : Nat → Nat
  Y : Nat → Nat
  D : Nat
  F : Nat
  B : Nat
  S : Bool
  La : Int
  Ma : Int
theorem pts_of {H : Type} {enc : TypeId × Value → H} {W : World} {fuel base : Nat} {spare : Nat → Bool} {held : Bool} {v : Value} {d : DataW H × List MemPlace} (ht : DataW.trod enc Tryz.prog W base spare held fuel 25 [v] = some d) : ∃ a l c X Y, v = .slice a l c ∧ (l ≤ 100 → AnyS W (.slice a l c) l X Y) := by
  rcases Go.Deep.open_slice_pairs Tryz.underlying25 Tryz.underlying32 (by kernel_rfl) rfl rfl (by kernel_rfl) (by kernel_rfl) ht with ⟨hcs, _⟩ | ⟨x, l, c, m, n, V0, V1, D0, D1, P0, P1, hcs, _, hl, hm, hmm, hx, hcell⟩
  · simp at hcs
    exact ⟨none, 0, 0, fun _ => 0, fun _ => 0, hcs, fun _ => ⟨_, _, rfl, Nat.le_refl _, by decide, by decide, fun i hi => by omega, .inl rfl⟩⟩
  · simp at hcs
    have hlm : l ≤ m := by rw [hmm]; split <;> omega
    have V : ∀ i, ∃ xy : Nat × Nat, i < m → V0 i = .float .f64 xy.1 ∧ V1 i = .float .f64 xy.2 ∧ okK .f64 xy.1 ∧ okK .f64 xy.2 := by
      intro i
      by_cases hi : i < m
      · obtain ⟨_, _, h3, h4⟩ := hcell i hi
        obtain ⟨x, e0, _, wx⟩ := trod_fl Tryz.underlying24 h3
        obtain ⟨y, e1, _, wy⟩ := trod_fl Tryz.underlying24 h4
        simp at e0 e1
        exact ⟨(x, y), fun _ => ⟨e0, e1, wf_f64 wx, wf_f64 wy⟩⟩
      · exact ⟨(0, 0), fun h => absurd h hi⟩
    obtain ⟨f, hf'⟩ := Classical.axiomOfChoice V
    refine ⟨_, l, c, fun i => (f i).1, fun i => (f i).2, hcs, fun h100 => ⟨_, _, rfl, hl, Nat.le_trans hl hm, by omega, fun i hi => ⟨(hf' i (by omega)).2.2.1, (hf' i (by omega)).2.2.2⟩, ?_⟩⟩
    rcases Nat.eq_zero_or_pos l with h0 | h0
    · exact .inl h0
    · right
      have cel : ∀ i, i < l → W.cell? (x.add (i * 2)) = some (.float .f64 (f i).1) ∧ W.cell? (x.add (i * 2 + 1)) = some (.float .f64 (f i).2) := fun i hi => by
        obtain ⟨e0, e1, _, _⟩ := hf' i (by omega)
        obtain ⟨c0, c1, _, _⟩ := hcell i (by omega)
        rw [e0] at c0
        rw [e1] at c1
        exact ⟨c0, c1⟩
      obtain ⟨b, off, spot⟩ := x
      have hspot : spot = none := by simpa [Addr.add] using World.cell?_spot (cel 0 h0).1
      subst hspot
      refine ⟨h0, b, off, rfl, fun i hi => ⟨?_, ?_⟩⟩
      · have h := (cel i hi).1
        rw [add_plain] at h
        exact h
      · have h := (cel i hi).2
        rw [add_plain, ← Nat.add_assoc] at h
        exact h
def IsParts (W : World) (a : Option Addr) (len cap : Nat) : Prop :=
  (a = none ∧ len = 0 ∧ cap = 0) ∨ ∃ (x : Addr) (q : Nat → PD), a = some x ∧ len ≤ cap ∧ cap ≤ maxLen ∧ ∀ i, i < len → (W.cell? (x.add (i * 9)) = some (.int .u8 (q i).K) ∧ W.cell? (x.add (i * 9 + 1)) = some (.float .f64 (q i).R) ∧ W.cell? (x.add (i * 9 + 2)) = some (.slice (q i).va (q i).ln (q i).cp) ∧ W.cell? (x.add (i * 9 + 3)) = some (.float .f64 (q i).D) ∧ W.cell? (x.add (i * 9 + 4)) = some (.float .f64 (q i).F) ∧ W.cell? (x.add (i * 9 + 5)) = some (.float .f64 (q i).B) ∧ W.cell? (x.add (i * 9 + 6)) = some (.bool (q i).S) ∧ W.cell? (x.add (i * 9 + 7)) = some (.int .u16 (q i).La) ∧ W.cell? (x.add (i * 9 + 8)) = some (.int .u16 (q i).Ma)) ∧ ((q i).ln ≤ 100 → AnyS W (.slice (q i).va (q i).ln (q i).cp) (q i).ln (q i).X (q i).Y) ∧ okK .f64 (q i).R
theorem walk (a : Option Addr) (len cap : Nat) (w : World) (h : IsParts w a len cap) :
    Calls Tryz.prog 3 #[.slice a len cap] w fun e w' => e = .returned (.bool true) ∧ Below w.heap.size w w' := by
  rcases h with ⟨rfl, rfl, rfl⟩ | ⟨x, q, rfl, hl, hm, hc⟩
  · exact walk_any none 0 0 (fun _ => 0) (fun _ => 0) (fun _ => none) (fun _ => 0) (fun _ => 0) (fun _ _ => 0) (fun _ _ => 0) (fun _ => 0) (fun _ => 0) (fun _ => 0) (fun _ => false) (fun _ => 0) (fun _ => 0) w (.inl rfl) (fun i hi => by omega) (fun i hi => by omega)
  · refine walk_any (some x) len cap (fun i => (q i).K) (fun i => (q i).R) (fun i => (q i).va) (fun i => (q i).cp) (fun i => (q i).ln) (fun i => (q i).X) (fun i => (q i).Y) (fun i => (q i).D) (fun i => (q i).F) (fun i => (q i).B) (fun i => (q i).S) (fun i => (q i).La) (fun i => (q i).Ma) w ?_ (fun i hi => (hc i hi).2.1) (fun i hi => (hc i hi).2.2)
    rcases Nat.eq_zero_or_pos len with h0 | h0
    · exact .inl h0
    · right
      obtain ⟨b, off, spot⟩ := x
      have hspot : spot = none := by simpa [Addr.add] using World.cell?_spot (hc 0 h0).1.1
      subst hspot
      refine ⟨b, off, rfl, fun i hi => ?_⟩
      obtain ⟨⟨h0, h1, h2, h3, h4, h5, h6, h7, h8⟩, _⟩ := hc i hi
      rw [add_plain] at h0 h1 h2 h3 h4 h5 h6 h7 h8
      rw [← Nat.add_assoc] at h1 h2 h3 h4 h5 h6 h7 h8
      exact ⟨h0, h1, h2, h3, h4, h5, h6, h7, h8⟩

set_option maxRecDepth 100000 in
theorem lifted (os : Os) (started : os.Started) (H : Type) (enc : TypeId × Value → H) :
    ReturnsInHanded {} Tryz.checked os 3 .any (Rows.massPartsSpec.pre6 enc Tryz.prog Tryz.f3 Rows.massPartsRow.domain false) (Rows.massPartsSpec.post enc Tryz.prog Tryz.f3 false true false false) := by
  refine returnsInHanded_of_change_sized (C := Tryz.checked) own started (by kernel_rfl) Tryz.func3
    (ChangeSpec.witness6 (enc := enc) (C := Tryz.checked) false ⟨#[], #[.slice none 0 0], []⟩ 8 (by kernel_rfl) (by kernel_rfl) (by kernel_rfl) (by kernel_rfl)) ?_
  intro W base args ds gs before hval0 hW hcnd hsz0 _
  have hval : ∀ (j : Nat) t v, Tryz.f3.params[j]? = some t → args[j]? = some v → Value.okWide Tryz.prog W .any base t v := hval0
  have hW' := hW
  obtain ⟨p, q, hA0, hV, rfl, hfz, hnd⟩ := hW
  have hA : DataW.TrodAll enc Tryz.prog W 0 (fun _ => true) true Tryz.f3.params.toList args.toList ds p := hA0
  rw [Tryz.params3] at hA hval
  obtain ⟨v0, vs0, d0, ds0, p0, q0, hargs, rfl, rfl, h0, r0⟩ := trodAll_cons hA
  obtain ⟨rfl, rfl, rfl⟩ := trodAll_nil r0
  obtain rfl : args = #[v0] := by cases args; simp_all
  obtain ⟨rfl, rfl⟩ := trodVars_none hV
  obtain ⟨a0, len0, cap0, rfl⟩ := okWide_slice Tryz.underlying22 (hval 0 22 v0 rfl rfl)
  have k0 := h0
  have lt0 : ∀ x ∈ p0, x.block < W.heap.size := by obtain ⟨m, hm⟩ := k0; exact DataW.trod_lt m _ _ _ hm
  have w0 : IsParts W a0 len0 cap0 := by
    obtain ⟨fuel, hf⟩ := h0
    rcases Go.Deep.open_slice Tryz.underlying22 hf with ⟨hcs, _⟩ | ⟨x, l, c, m, n, D, Pl, hcs, _, hl, hm, hmm, hx, hcell⟩
    · simp [Value.cells] at hcs
      exact .inl hcs
    · simp [Value.cells] at hcs
      obtain ⟨rfl, rfl, rfl⟩ := hcs
      have hlm : len0 ≤ m := by rw [hmm]; split <;> omega
      have V : ∀ i, ∃ q : PD, i < m → (W.cell? (x.add (i * 9)) = some (.int .u8 q.K) ∧ W.cell? (x.add (i * 9 + 1)) = some (.float .f64 q.R) ∧ W.cell? (x.add (i * 9 + 2)) = some (.slice q.va q.ln q.cp) ∧ W.cell? (x.add (i * 9 + 3)) = some (.float .f64 q.D) ∧ W.cell? (x.add (i * 9 + 4)) = some (.float .f64 q.F) ∧ W.cell? (x.add (i * 9 + 5)) = some (.float .f64 q.B) ∧ W.cell? (x.add (i * 9 + 6)) = some (.bool q.S) ∧ W.cell? (x.add (i * 9 + 7)) = some (.int .u16 q.La) ∧ W.cell? (x.add (i * 9 + 8)) = some (.int .u16 q.Ma)) ∧ (q.ln ≤ 100 → AnyS W (.slice q.va q.ln q.cp) q.ln q.X q.Y) ∧ okK .f64 q.R := by
        intro i
        by_cases hi : i < m
        · obtain ⟨cs', h1, h2⟩ := hcell i hi
          rw [cellsP] at h1
          obtain ⟨_, hlen, hce⟩ := World.cells?_some h1
          obtain ⟨xs, n', _, _, _, hlx, hfd⟩ := DataW.trod_struct Tryz.underlying30 h2
          match xs, hlx with
          | [y0, y1, y2, y3, y4, y5, y6], _ =>
            match cs', hlen with
            | [v0, v1, v2, v3, v4, v5, v6, v7, v8], _ =>
              have g0 := hfd 0 _ rfl
              have g1 := hfd 1 _ rfl
              have g2 := hfd 2 _ rfl
              have g3 := hfd 3 _ rfl
              have g4 := hfd 4 _ rfl
              have g5 := hfd 5 _ rfl
              have g6 := hfd 6 _ rfl
              simp [cellsH, cellsF, cellsB, cells16] at g0 g1 g2 g3 g4 g5 g6
              obtain ⟨z0, z1, z2, n2, _, _, s0, s1, s2⟩ := Go.Deep.trod_struct3 Tryz.underlying27 g0
              simp [cells8, cellsF, cellsL] at s0 s1 s2
              obtain ⟨kk, e0, _, _⟩ := DataW.trod_int Tryz.underlying5 s0
              obtain ⟨rr, e1, _, wr⟩ := trod_fl Tryz.underlying24 s1
              obtain ⟨va, ln, cp, X, Y, e2, hS⟩ := pts_of s2
              obtain ⟨dd, e3, _, _⟩ := trod_fl Tryz.underlying24 g1
              obtain ⟨ff, e4, _, _⟩ := trod_fl Tryz.underlying24 g2
              obtain ⟨bb, e5, _, _⟩ := trod_fl Tryz.underlying24 g3
              obtain ⟨ss, e6⟩ := trod_bo Tryz.underlying4 g4
              obtain ⟨la, e7, _, _⟩ := DataW.trod_int Tryz.underlying28 g5
              obtain ⟨ma, e8, _, _⟩ := DataW.trod_int Tryz.underlying28 g6
              simp at e0 e1 e3 e4 e5 e6 e7 e8
              subst e0 e1 e2 e3 e4 e5 e6 e7 e8
              have c0 := hce 0 (by omega)
              have c1 := hce 1 (by omega)
              have c2 := hce 2 (by omega)
              have c3 := hce 3 (by omega)
              have c4 := hce 4 (by omega)
              have c5 := hce 5 (by omega)
              have c6 := hce 6 (by omega)
              have c7 := hce 7 (by omega)
              have c8 := hce 8 (by omega)
              rw [Go.Deep.add_add] at c0 c1 c2 c3 c4 c5 c6 c7 c8
              exact ⟨⟨kk, rr, va, ln, cp, X, Y, dd, ff, bb, ss, la, ma⟩, fun _ => ⟨⟨by simpa using c0, by simpa using c1, by simpa using c2, by simpa using c3, by simpa using c4, by simpa using c5, by simpa using c6, by simpa using c7, by simpa using c8⟩, hS, wf_f64 wr⟩⟩
        · exact ⟨⟨0, 0, none, 0, 0, fun _ => 0, fun _ => 0, 0, 0, 0, false, 0, 0⟩, fun h => absurd h hi⟩
      obtain ⟨f, hf'⟩ := Classical.axiomOfChoice V
      exact .inr ⟨x, f, rfl, hl, hm, fun i hi => hf' i (by omega)⟩
  clear hA0 hval0 hsz0
  refine (walk a0 len0 cap0 W w0).mono fun e W' ⟨he, bel0⟩ => ?_
  have bel := bel0
  subst he
  exact ⟨_, rfl, _, _, _, [], _, [], hW', trodAll_mk1 (shut_bool Tryz.underlying4 _), (trodAll_cons_mk (Below.trod laidOut (by kernel_rfl) (of_decide_eq_true (by kernel_rfl)) k0 bel lt0) trodAll_mk0), rfl, bel.frame _, fun h => by cases h⟩

theorem over : Rows.massPartsRow.holds Tryz.pinned (OpenSpec.ofChange Rows.massPartsSpec) :=
  OpenClaim.holds_of_wide 3 Tryz.f3 rfl rfl rfl rfl rfl rfl rfl ⟨rfl, rfl, rfl, rfl, rfl⟩ rfl rfl rfl rfl rfl (by kernel_rfl) Tryz.func3 (by kernel_rfl)
    (of_decide_eq_true (by kernel_rfl)) (by unfold Func.isWrapper; first | (rw [if_pos (by decide +kernel)]; kernel_rfl) | (rw [if_neg (by decide +kernel)]; exact ⟨rfl, rfl⟩))
    (fun os started H enc _ => lifted os started H enc)

theorem proved : Rows.MassPartsSaid :=
  over
#print axioms proved
end Go.Proofs.YtfaiaepkmlmoaaaGreat.massParts
