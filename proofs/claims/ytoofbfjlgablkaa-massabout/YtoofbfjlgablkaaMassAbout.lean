/-
  MassAbout: about its centre a mass is as hard to turn as it says, about another place no less, and masses in the opposite order weigh as much: of any slice of masses and any place, no condition.
-/
import Derived.Test.YtoofbfjlgablkaaRows
import Derived.Test.YtoofbfjlgablkaaMac
import Derived.Test.YtoofbfjlgablkaaMad
import Derived.WalkKit
import Derived.ProofKit
import Derived.OpenShut
import Derived.WalkLawsBesides
import Derived.WalkSpells
import Derived.Lib.SmallJoins
import Derived.Laws.Cover2
import Derived.Laws.AppendOwn
import Derived.Laws.OwnMore
import Derived.Laws.AppendOwnNone
import Derived.Deep.RegionHeld3
import Derived.Deep.RegionWith
import Derived.Deep.SlicePairs
import Derived.Deep.Strs
import Derived.SizedLaws
import Derived.Below
import Derived.Laws.StructEq
namespace Go.Proofs.Ytoofbfjlgablkaa.massAbout
open Go.ChangeShapes Go.WideShapes Go.ChangeAt Go.RowKit Go.Joins
set_option linter.unusedVariables false
set_option linter.unusedSimpArgs false

theorem own : ownKnob Try.prog.godebug = none := by kernel_rfl
theorem laidOut : laidOutB Try.prog = true := by kernel_rfl
theorem wf_f64 {x : Nat} (h : (Lit.float .f64 x).wf = true) : okK .f64 x := by
  rw [okK64]; simpa [Lit.wf] using h
theorem trod_fl {H : Type} {enc : TypeId × Value → H} {P : Program} {w : World} {base fuel : Nat} {spare : Nat → Bool} {held : Bool} {t : TypeId} {cs : List Value} {x : DataW H × List MemPlace} {k : FloatKind} (ht : P.underlying t = some (.float k)) (h : DataW.trod enc P w base spare held fuel t cs = some x) : ∃ z, cs = [.float k z] ∧ x = (.lit (.float k z), []) ∧ (Lit.float k z).wf = true := by
  cases fuel with
  | zero => simp [DataW.trod] at h
  | succ n =>
    unfold DataW.trod at h
    rw [ht] at h
    split at h <;> simp_all

theorem cellsV : Try.prog.cellsOf 26 = 2 := by kernel_rfl
theorem cellsM : Try.prog.cellsOf 28 = 4 := by kernel_rfl
theorem cellsF : Try.prog.cellsOf 24 = 1 := by kernel_rfl
theorem walk_any (V : Value) (n : Nat) (ms js xs ys : Nat → Nat) (px py : Nat) (op : okK .f64 px) (oq : okK .f64 py) (w : World) (h : AnyM w V n ms js xs ys) : Calls Try.prog 4 #[V, .agg #[.float .f64 px, .float .f64 py]] w fun e w' => e = .returned (.bool true) ∧ Bel w w' := by
  obtain ⟨a, cap, rfl, a2, a3, a5, a6⟩ := h
  by_cases h64 : n ≤ 64
  · rcases a6 with rfl | ⟨hp, b, off, rfl, hM⟩
    · exact about_none a cap px py op oq w
    · exact about_some b off n cap ms js xs ys px py op oq w hM hp h64 a2 a5
  · exact about_many a n cap px py w (by omega)

/-- a row of masses: none, or len of them in cells, with room for cap -/
def IsMasses (w : World) (a : Option Addr) (len cap : Nat) : Prop :=
  (a = none ∧ len = 0 ∧ cap = 0) ∨ ∃ (x : Addr) (ms js xs ys : Nat → Nat), a = some x ∧ len ≤ cap ∧ cap ≤ maxLen ∧ ∀ i, i < len → w.cell? (x.add (i * 4)) = some (.float .f64 (ms i)) ∧ w.cell? (x.add (i * 4 + 1)) = some (.float .f64 (js i)) ∧ w.cell? (x.add (i * 4 + 2)) = some (.float .f64 (xs i)) ∧ w.cell? (x.add (i * 4 + 3)) = some (.float .f64 (ys i)) ∧ okK .f64 (ms i) ∧ okK .f64 (js i) ∧ okK .f64 (xs i) ∧ okK .f64 (ys i)
theorem any_of {w : World} {a : Option Addr} {len cap : Nat} (h : IsMasses w a len cap) : ∃ ms js xs ys, AnyM w (.slice a len cap) len ms js xs ys := by
  rcases h with ⟨rfl, rfl, rfl⟩ | ⟨x, ms, js, xs, ys, rfl, hl, hm, hcell⟩
  · exact ⟨fun _ => 0, fun _ => 0, fun _ => 0, fun _ => 0, _, _, rfl, Nat.le_refl _, by decide, fun i hi => by omega, .inl rfl⟩
  · refine ⟨ms, js, xs, ys, _, _, rfl, hl, Nat.le_trans hl hm, fun i hi => (hcell i hi).2.2.2.2, ?_⟩
    rcases Nat.eq_zero_or_pos len with h0 | h0
    · exact .inl h0
    · right
      obtain ⟨b, off, spot⟩ := x
      have hspot : spot = none := by simpa [Addr.add] using World.cell?_spot (hcell 0 h0).1
      subst hspot
      refine ⟨h0, b, off, rfl, fun i hi => ?_⟩
      obtain ⟨h1, h2, h3, h4, _⟩ := hcell i hi
      rw [add_plain] at h1 h2 h3 h4
      rw [← Nat.add_assoc] at h2 h3 h4
      exact ⟨h1, h2, h3, h4⟩
theorem walk (a0 : Option Addr) (len0 cap0 : Nat) (x1 y1 : Nat) (ox1 : okK .f64 x1) (oy1 : okK .f64 y1) (w : World) (h0 : IsMasses w a0 len0 cap0) :
    Calls Try.prog 4 #[.slice a0 len0 cap0, .agg #[.float .f64 x1, .float .f64 y1]] w fun e w' => e = .returned (.bool true) ∧ Below w.heap.size w w' := by
  obtain ⟨ms0, js0, xs0, ys0, g0⟩ := any_of h0
  exact (walk_any _ _ ms0 js0 xs0 ys0 x1 y1 ox1 oy1 w g0).mono fun e w' h => ⟨h.1, h.2.1⟩

set_option maxRecDepth 100000 in
theorem lifted (os : Os) (started : os.Started) (H : Type) (enc : TypeId × Value → H) :
    ReturnsInHanded {} Try.checked os 4 .any (Rows.massAboutSpec.pre6 enc Try.prog Try.f4 Rows.massAboutRow.domain false) (Rows.massAboutSpec.post enc Try.prog Try.f4 false true false false) := by
  refine returnsInHanded_of_change_sized (C := Try.checked) own started (by kernel_rfl) Try.func4
    (ChangeSpec.witness6 (enc := enc) (C := Try.checked) false ⟨#[], #[.slice none 0 0, .agg #[.float .f64 0, .float .f64 0]], []⟩ 8 (by kernel_rfl) (by kernel_rfl) (by kernel_rfl) (by kernel_rfl)) ?_
  intro W base args ds gs before hval0 hW hcnd hsz0 _
  have hsz : (DataW.weightsEach Try.prog (Try.f4.params.toList ++ Rows.massAboutSpec.plain.varTypes Try.prog) (ds ++ gs)).all (· ≤ reachBytes) = true := hsz0
  have hval : ∀ (j : Nat) t v, Try.f4.params[j]? = some t → args[j]? = some v → Value.okWide Try.prog W .any base t v := hval0
  have hW' := hW
  obtain ⟨p, q, hA0, hV, rfl, hfz, hnd⟩ := hW
  have hA : DataW.TrodAll enc Try.prog W 0 (fun _ => true) true Try.f4.params.toList args.toList ds p := hA0
  rw [Try.params4] at hA hval hsz
  obtain ⟨v0, vs0, d0, ds0, p0, q0, hargs, rfl, rfl, h0, r0⟩ := trodAll_cons hA
  obtain ⟨v1, vs1, d1, ds1, p1, q1, rfl, rfl, rfl, h1, r1⟩ := trodAll_cons r0
  obtain ⟨rfl, rfl, rfl⟩ := trodAll_nil r1
  obtain rfl : args = #[v0, v1] := by cases args; simp_all
  obtain ⟨rfl, rfl⟩ := trodVars_none hV
  obtain ⟨a0, len0, cap0, rfl⟩ := okWide_slice Try.underlying22 (hval 0 22 v0 rfl rfl)
  obtain ⟨c1, k1, z1, u1, m1, rfl, rfl, rfl, hz1, hu1⟩ := open_agg2 Try.underlying26 (by kernel_rfl) cellsV (hval 1 26 v1 rfl rfl) h1
  obtain ⟨x1, e0, rfl, wx1⟩ := trod_fl Try.underlying24 hz1
  obtain ⟨y1, e1, rfl, wy1⟩ := trod_fl Try.underlying24 hu1
  simp at e0 e1
  subst e0 e1
  have k0 := h0
  have lt0 : ∀ x ∈ p0, x.block < W.heap.size := by obtain ⟨m, hm⟩ := k0; exact DataW.trod_lt m _ _ _ hm
  have w0 : IsMasses W a0 len0 cap0 := by
    obtain ⟨fuel, hf⟩ := h0
    rcases Go.Deep.open_slice Try.underlying22 hf with ⟨hcs, _⟩ | ⟨x, l, c, m, n, D, Pl, hcs, _, hl, hm, hmm, hx, hcell⟩
    · simp [Value.cells] at hcs
      exact .inl hcs
    · simp [Value.cells] at hcs
      obtain ⟨rfl, rfl, rfl⟩ := hcs
      have hlm : len0 ≤ m := by rw [hmm]; split <;> omega
      have V : ∀ i, ∃ q : Nat × Nat × Nat × Nat, i < m → W.cell? (x.add (i * 4)) = some (.float .f64 q.1) ∧ W.cell? (x.add (i * 4 + 1)) = some (.float .f64 q.2.1) ∧ W.cell? (x.add (i * 4 + 2)) = some (.float .f64 q.2.2.1) ∧ W.cell? (x.add (i * 4 + 3)) = some (.float .f64 q.2.2.2) ∧ okK .f64 q.1 ∧ okK .f64 q.2.1 ∧ okK .f64 q.2.2.1 ∧ okK .f64 q.2.2.2 := by
        intro i
        by_cases hi : i < m
        · obtain ⟨cs', h1, h2⟩ := hcell i hi
          rw [cellsM] at h1
          obtain ⟨_, hlen, hce⟩ := World.cells?_some h1
          obtain ⟨y0, y1, y2, n', hx', _, g0, g1, g2⟩ := Go.Deep.trod_struct3 Try.underlying28 h2
          match cs', hlen with
          | [v0, v1, v2, v3], _ =>
            simp [cellsV, cellsF] at g0 g1 g2
            obtain ⟨z0, z1, n2, hz, _, g4, g5⟩ := trod_struct2 Try.underlying26 g2
            simp [cellsF] at g4 g5
            obtain ⟨a, e0, _, wa⟩ := trod_fl Try.underlying24 g0
            obtain ⟨b, e1, _, wb⟩ := trod_fl Try.underlying24 g1
            obtain ⟨c, e2, _, wc⟩ := trod_fl Try.underlying24 g4
            obtain ⟨d, e3, _, wd⟩ := trod_fl Try.underlying24 g5
            simp at e0 e1 e2 e3
            subst e0 e1 e2 e3
            have q0 := hce 0 (by omega)
            have q1 := hce 1 (by omega)
            have q2 := hce 2 (by omega)
            have q3 := hce 3 (by omega)
            rw [Go.Deep.add_add] at q0 q1 q2 q3
            exact ⟨(a, b, c, d), fun _ => ⟨by simpa using q0, by simpa using q1, by simpa using q2, by simpa using q3, wf_f64 wa, wf_f64 wb, wf_f64 wc, wf_f64 wd⟩⟩
        · exact ⟨(0, 0, 0, 0), fun h => absurd h hi⟩
      have V' := Classical.axiomOfChoice V
      obtain ⟨f, hf'⟩ := V'
      exact .inr ⟨x, fun i => (f i).1, fun i => (f i).2.1, fun i => (f i).2.2.1, fun i => (f i).2.2.2, rfl, hl, hm, fun i hi => hf' i (by omega)⟩
  clear hA0 hval0 hsz0
  refine (walk a0 len0 cap0 x1 y1 (wf_f64 wx1) (wf_f64 wy1) W w0).mono fun e W' ⟨he, bel0⟩ => ?_
  have bel := bel0
  subst he
  exact ⟨_, rfl, _, _, _, [], _, [], hW', trodAll_mk1 (shut_bool Try.underlying4 _), (trodAll_cons_mk (Below.trod laidOut (by kernel_rfl) (of_decide_eq_true (by kernel_rfl)) k0 bel lt0) (trodAll_cons_mk (shut_agg2 (y0 := (.lit (.float .f64 x1), [])) (y1 := (.lit (.float .f64 y1), [])) Try.underlying26 (by kernel_rfl) cellsV ⟨1, by simp [DataW.trod, show Try.checked.prog.underlying 24 = some (.float .f64) from Try.underlying24, wx1]⟩ ⟨1, by simp [DataW.trod, show Try.checked.prog.underlying 24 = some (.float .f64) from Try.underlying24, wy1]⟩) trodAll_mk0)), rfl, bel.frame _, fun h => by cases h⟩

theorem over : Rows.massAboutRow.holds Try.pinned (OpenSpec.ofChange Rows.massAboutSpec) :=
  OpenClaim.holds_of_wide 4 Try.f4 rfl rfl rfl rfl rfl rfl rfl ⟨rfl, rfl, rfl, rfl, rfl⟩ rfl rfl rfl rfl rfl (by kernel_rfl) Try.func4 (by kernel_rfl)
    (of_decide_eq_true (by kernel_rfl)) (by unfold Func.isWrapper; first | (rw [if_pos (by decide +kernel)]; kernel_rfl) | (rw [if_neg (by decide +kernel)]; exact ⟨rfl, rfl⟩))
    (fun os started H enc _ => lifted os started H enc)

theorem proved : Rows.MassAboutSaid :=
  over
#print axioms proved
end Go.Proofs.Ytoofbfjlgablkaa.massAbout
