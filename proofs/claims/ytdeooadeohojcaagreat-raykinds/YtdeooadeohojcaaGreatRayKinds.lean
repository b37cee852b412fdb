/-
  'tumblelaw12.RayKinds' is true of every two places, radius, row of points and ray, whatever their floats are; no condition.
-/
import Derived.Test.YtdeooadeohojcaaGreatRows
import Derived.Test.YtdeooadeohojcaaGreatYy
import Derived.WalkKit
import Derived.ProofKit
import Derived.OpenShut
import Derived.WalkLawsBesides
import Derived.WalkSpells
import Derived.Lib.SmallJoins
import Derived.Laws.Cover2
import Derived.Laws.AppendOwn
import Derived.Laws.OwnMore
import Derived.Laws.AppendOwnNone
import Derived.Deep.RegionHeld3
import Derived.Deep.RegionWith
import Derived.Deep.SlicePairs
import Derived.SizedLaws
import Derived.Below
import Derived.Laws.StructEq
namespace Go.Proofs.YtdeooadeohojcaaGreat.rayKinds
open Go.ChangeShapes Go.WideShapes Go.ChangeAt Go.RowKit Go.Joins
set_option linter.unusedVariables false
set_option linter.unusedSimpArgs false

theorem own : ownKnob Tryz.prog.godebug = none := by kernel_rfl
theorem laidOut : laidOutB Tryz.prog = true := by kernel_rfl
theorem wf_f64 {x : Nat} (h : (Lit.float .f64 x).wf = true) : okK .f64 x := by
  rw [okK64]; simpa [Lit.wf] using h
theorem trod_fl {H : Type} {enc : TypeId × Value → H} {P : Program} {w : World} {base fuel : Nat} {spare : Nat → Bool} {held : Bool} {t : TypeId} {cs : List Value} {x : DataW H × List MemPlace} {k : FloatKind} (ht : P.underlying t = some (.float k)) (h : DataW.trod enc P w base spare held fuel t cs = some x) : ∃ z, cs = [.float k z] ∧ x = (.lit (.float k z), []) ∧ (Lit.float k z).wf = true := by
  cases fuel with
  | zero => simp [DataW.trod] at h
  | succ n =>
    unfold DataW.trod at h
    rw [ht] at h
    split at h <;> simp_all

theorem cellsV : Tryz.prog.cellsOf 24 = 2 := by kernel_rfl



/-- a row of ways: none, or len of them in cells, with room for cap -/
def IsWays (w : World) (a : Option Addr) (len cap : Nat) : Prop :=
  (a = none ∧ len = 0 ∧ cap = 0) ∨ ∃ (x : Addr) (xs ys : Nat → Nat), a = some x ∧ len ≤ cap ∧ cap ≤ maxLen ∧ len * 16 ≤ 140737488351232 ∧ ∀ i, i < len → w.cell? (x.add (i * 2)) = some (.float .f64 (xs i)) ∧ w.cell? (x.add (i * 2 + 1)) = some (.float .f64 (ys i)) ∧ okK .f64 (xs i) ∧ okK .f64 (ys i)
theorem any_of {w : World} {a : Option Addr} {len cap : Nat} (h : IsWays w a len cap) : ∃ xs ys, AnyS w (.slice a len cap) len xs ys := by
  rcases h with ⟨rfl, rfl, rfl⟩ | ⟨x, xs, ys, rfl, hl, hm, hr, hcell⟩
  · exact ⟨fun _ => 0, fun _ => 0, _, _, rfl, Nat.le_refl _, by decide, by decide, fun i hi => by omega, .inl rfl⟩
  · refine ⟨xs, ys, _, _, rfl, hl, Nat.le_trans hl hm, hr, fun i hi => ⟨(hcell i hi).2.2.1, (hcell i hi).2.2.2⟩, ?_⟩
    rcases Nat.eq_zero_or_pos len with h0 | h0
    · exact .inl h0
    · right
      obtain ⟨b, off, spot⟩ := x
      have hspot : spot = none := by simpa [Addr.add] using World.cell?_spot (hcell 0 h0).1
      subst hspot
      refine ⟨h0, b, off, rfl, fun i hi => ⟨?_, ?_⟩⟩
      · have h := (hcell i hi).1
        rw [add_plain] at h
        exact h
      · have h := (hcell i hi).2.1
        rw [add_plain, ← Nat.add_assoc] at h
        exact h
theorem walk (x0 y0 : Nat) (ox0 : okK .f64 x0) (oy0 : okK .f64 y0) (x1 y1 : Nat) (ox1 : okK .f64 x1) (oy1 : okK .f64 y1) (s2 : Nat) (os2 : okK .f64 s2) (a3 : Option Addr) (len3 cap3 : Nat) (x4 y4 : Nat) (ox4 : okK .f64 x4) (oy4 : okK .f64 y4) (x5 y5 : Nat) (ox5 : okK .f64 x5) (oy5 : okK .f64 y5) (w : World) (h3 : IsWays w a3 len3 cap3) :
    Calls Tryz.prog 3 #[.agg #[.float .f64 x0, .float .f64 y0], .agg #[.float .f64 x1, .float .f64 y1], .float .f64 s2, .slice a3 len3 cap3, .agg #[.float .f64 x4, .float .f64 y4], .agg #[.float .f64 x5, .float .f64 y5]] w fun e w' => e = .returned (.bool true) ∧ Below w.heap.size w w' := by
  obtain ⟨xs3, ys3, g3⟩ := any_of h3
  exact (walk_any x0 y0 ox0 oy0 x1 y1 ox1 oy1 s2 os2 _ _ xs3 ys3 x4 y4 ox4 oy4 x5 y5 ox5 oy5 w g3).mono fun e w' h => ⟨h.1, h.2.1⟩

set_option maxRecDepth 100000 in
theorem lifted (os : Os) (started : os.Started) (H : Type) (enc : TypeId × Value → H) :
    ReturnsInHanded {} Tryz.checked os 3 .any (Rows.rayKindsSpec.pre6 enc Tryz.prog Tryz.f3 Rows.rayKindsRow.domain false) (Rows.rayKindsSpec.post enc Tryz.prog Tryz.f3 false true false false) := by
  refine returnsInHanded_of_change_sized (C := Tryz.checked) own started (by kernel_rfl) Tryz.func3
    (ChangeSpec.witness6 (enc := enc) (C := Tryz.checked) false ⟨#[], #[.agg #[.float .f64 0, .float .f64 0], .agg #[.float .f64 0, .float .f64 0], .float .f64 0, .slice none 0 0, .agg #[.float .f64 0, .float .f64 0], .agg #[.float .f64 0, .float .f64 0]], []⟩ 8 (by kernel_rfl) (by kernel_rfl) (by kernel_rfl) (by kernel_rfl)) ?_
  intro W base args ds gs before hval0 hW hcnd hsz0 _
  have hsz : (DataW.weightsEach Tryz.prog (Tryz.f3.params.toList ++ Rows.rayKindsSpec.plain.varTypes Tryz.prog) (ds ++ gs)).all (· ≤ reachBytes) = true := hsz0
  have hval : ∀ (j : Nat) t v, Tryz.f3.params[j]? = some t → args[j]? = some v → Value.okWide Tryz.prog W .any base t v := hval0
  have hW' := hW
  obtain ⟨p, q, hA0, hV, rfl, hfz, hnd⟩ := hW
  have hA : DataW.TrodAll enc Tryz.prog W 0 (fun _ => true) true Tryz.f3.params.toList args.toList ds p := hA0
  rw [Tryz.params3] at hA hval hsz
  obtain ⟨v0, vs0, d0, ds0, p0, q0, hargs, rfl, rfl, h0, r0⟩ := trodAll_cons hA
  obtain ⟨v1, vs1, d1, ds1, p1, q1, rfl, rfl, rfl, h1, r1⟩ := trodAll_cons r0
  obtain ⟨v2, vs2, d2, ds2, p2, q2, rfl, rfl, rfl, h2, r2⟩ := trodAll_cons r1
  obtain ⟨v3, vs3, d3, ds3, p3, q3, rfl, rfl, rfl, h3, r3⟩ := trodAll_cons r2
  obtain ⟨v4, vs4, d4, ds4, p4, q4, rfl, rfl, rfl, h4, r4⟩ := trodAll_cons r3
  obtain ⟨v5, vs5, d5, ds5, p5, q5, rfl, rfl, rfl, h5, r5⟩ := trodAll_cons r4
  obtain ⟨rfl, rfl, rfl⟩ := trodAll_nil r5
  obtain rfl : args = #[v0, v1, v2, v3, v4, v5] := by cases args; simp_all
  obtain ⟨rfl, rfl⟩ := trodVars_none hV
  obtain ⟨c0, k0, z0, u0, m0, rfl, rfl, rfl, hz0, hu0⟩ := open_agg2 Tryz.underlying24 (by kernel_rfl) cellsV (hval 0 24 v0 rfl rfl) h0
  obtain ⟨x0, e0, rfl, wx0⟩ := trod_fl Tryz.underlying22 hz0
  obtain ⟨y0, e1, rfl, wy0⟩ := trod_fl Tryz.underlying22 hu0
  simp at e0 e1
  subst e0 e1
  obtain ⟨c1, k1, z1, u1, m1, rfl, rfl, rfl, hz1, hu1⟩ := open_agg2 Tryz.underlying24 (by kernel_rfl) cellsV (hval 1 24 v1 rfl rfl) h1
  obtain ⟨x1, e0, rfl, wx1⟩ := trod_fl Tryz.underlying22 hz1
  obtain ⟨y1, e1, rfl, wy1⟩ := trod_fl Tryz.underlying22 hu1
  simp at e0 e1
  subst e0 e1
  obtain ⟨s2, rfl, rfl, rfl, ws2⟩ := open_float Tryz.underlying22 (hval 2 22 v2 rfl rfl) h2
  obtain ⟨a3, len3, cap3, rfl⟩ := okWide_slice Tryz.underlying25 (hval 3 25 v3 rfl rfl)
  obtain ⟨c4, k4, z4, u4, m4, rfl, rfl, rfl, hz4, hu4⟩ := open_agg2 Tryz.underlying24 (by kernel_rfl) cellsV (hval 4 24 v4 rfl rfl) h4
  obtain ⟨x4, e0, rfl, wx4⟩ := trod_fl Tryz.underlying22 hz4
  obtain ⟨y4, e1, rfl, wy4⟩ := trod_fl Tryz.underlying22 hu4
  simp at e0 e1
  subst e0 e1
  obtain ⟨c5, k5, z5, u5, m5, rfl, rfl, rfl, hz5, hu5⟩ := open_agg2 Tryz.underlying24 (by kernel_rfl) cellsV (hval 5 24 v5 rfl rfl) h5
  obtain ⟨x5, e0, rfl, wx5⟩ := trod_fl Tryz.underlying22 hz5
  obtain ⟨y5, e1, rfl, wy5⟩ := trod_fl Tryz.underlying22 hu5
  simp at e0 e1
  subst e0 e1
  have k3 := h3
  have lt3 : ∀ x ∈ p3, x.block < W.heap.size := by obtain ⟨m, hm⟩ := k3; exact DataW.trod_lt m _ _ _ hm
  have w3 : IsWays W a3 len3 cap3 := by
    obtain ⟨fuel, hf⟩ := h3
    rcases Go.Deep.open_slice_pairs Tryz.underlying25 Tryz.underlying24 (by kernel_rfl) rfl rfl (by kernel_rfl) (by kernel_rfl) hf with ⟨hcs, _⟩ | ⟨x, l, c, m, n, V0, V1, D0, D1, P0, P1, hcs, _, hl, hm, hmm, hx, hcell⟩
    · simp [Value.cells] at hcs
      exact .inl hcs
    · simp [Value.cells] at hcs
      obtain ⟨rfl, rfl, rfl⟩ := hcs
      simp only [Prod.mk.injEq] at hx
      obtain ⟨rfl, rfl⟩ := hx
      have hr := sized_slice hsz (j := 3) (t := 25) (e := 24) rfl rfl Tryz.underlying25
      rw [show Tryz.prog.bytesOf 24 = 16 by kernel_rfl] at hr
      simp only [List.length_map, List.length_range, reachBytes] at hr
      have hlm : len3 ≤ m := by rw [hmm]; split <;> omega
      have V : ∀ i, ∃ xy : Nat × Nat, i < m → V0 i = .float .f64 xy.1 ∧ V1 i = .float .f64 xy.2 ∧ okK .f64 xy.1 ∧ okK .f64 xy.2 := by
        intro i
        by_cases hi : i < m
        · obtain ⟨_, _, h3, h4⟩ := hcell i hi
          obtain ⟨x, e0, _, wx⟩ := trod_fl Tryz.underlying22 h3
          obtain ⟨y, e1, _, wy⟩ := trod_fl Tryz.underlying22 h4
          simp at e0 e1
          exact ⟨(x, y), fun _ => ⟨e0, e1, wf_f64 wx, wf_f64 wy⟩⟩
        · exact ⟨(0, 0), fun h => absurd h hi⟩
      have V' := Classical.axiomOfChoice V
      obtain ⟨f, hf'⟩ := V'
      refine .inr ⟨x, fun i => (f i).1, fun i => (f i).2, rfl, hl, hm, by omega, fun i hi => ?_⟩
      obtain ⟨e0, e1, o0, o1⟩ := hf' i (by omega)
      obtain ⟨c0, c1, _, _⟩ := hcell i (by omega)
      rw [e0] at c0
      rw [e1] at c1
      exact ⟨c0, c1, o0, o1⟩
  clear hA0 hval0 hsz0
  refine (walk x0 y0 (wf_f64 wx0) (wf_f64 wy0) x1 y1 (wf_f64 wx1) (wf_f64 wy1) s2 (wf_f64 ws2) a3 len3 cap3 x4 y4 (wf_f64 wx4) (wf_f64 wy4) x5 y5 (wf_f64 wx5) (wf_f64 wy5) W w3).mono fun e W' ⟨he, bel0⟩ => ?_
  have bel := bel0
  subst he
  exact ⟨_, rfl, _, _, _, [], _, [], hW', trodAll_mk1 (shut_bool Tryz.underlying4 _), (trodAll_cons_mk (shut_agg2 (y0 := (.lit (.float .f64 x0), [])) (y1 := (.lit (.float .f64 y0), [])) Tryz.underlying24 (by kernel_rfl) cellsV ⟨1, by simp [DataW.trod, show Tryz.checked.prog.underlying 22 = some (.float .f64) from Tryz.underlying22, wx0]⟩ ⟨1, by simp [DataW.trod, show Tryz.checked.prog.underlying 22 = some (.float .f64) from Tryz.underlying22, wy0]⟩) (trodAll_cons_mk (shut_agg2 (y0 := (.lit (.float .f64 x1), [])) (y1 := (.lit (.float .f64 y1), [])) Tryz.underlying24 (by kernel_rfl) cellsV ⟨1, by simp [DataW.trod, show Tryz.checked.prog.underlying 22 = some (.float .f64) from Tryz.underlying22, wx1]⟩ ⟨1, by simp [DataW.trod, show Tryz.checked.prog.underlying 22 = some (.float .f64) from Tryz.underlying22, wy1]⟩) (trodAll_cons_mk (shut_float Tryz.underlying22 ws2) (trodAll_cons_mk (Below.trod laidOut (by kernel_rfl) (of_decide_eq_true (by kernel_rfl)) k3 bel lt3) (trodAll_cons_mk (shut_agg2 (y0 := (.lit (.float .f64 x4), [])) (y1 := (.lit (.float .f64 y4), [])) Tryz.underlying24 (by kernel_rfl) cellsV ⟨1, by simp [DataW.trod, show Tryz.checked.prog.underlying 22 = some (.float .f64) from Tryz.underlying22, wx4]⟩ ⟨1, by simp [DataW.trod, show Tryz.checked.prog.underlying 22 = some (.float .f64) from Tryz.underlying22, wy4]⟩) (trodAll_cons_mk (shut_agg2 (y0 := (.lit (.float .f64 x5), [])) (y1 := (.lit (.float .f64 y5), [])) Tryz.underlying24 (by kernel_rfl) cellsV ⟨1, by simp [DataW.trod, show Tryz.checked.prog.underlying 22 = some (.float .f64) from Tryz.underlying22, wx5]⟩ ⟨1, by simp [DataW.trod, show Tryz.checked.prog.underlying 22 = some (.float .f64) from Tryz.underlying22, wy5]⟩) trodAll_mk0)))))), rfl, bel.frame _, fun h => by cases h⟩

theorem over : Rows.rayKindsRow.holds Tryz.pinned (OpenSpec.ofChange Rows.rayKindsSpec) :=
  OpenClaim.holds_of_wide 3 Tryz.f3 rfl rfl rfl rfl rfl rfl rfl ⟨rfl, rfl, rfl, rfl, rfl⟩ rfl rfl rfl rfl rfl (by kernel_rfl) Tryz.func3 (by kernel_rfl)
    (of_decide_eq_true (by kernel_rfl)) (by unfold Func.isWrapper; first | (rw [if_pos (by decide +kernel)]; kernel_rfl) | (rw [if_neg (by decide +kernel)]; exact ⟨rfl, rfl⟩))
    (fun os started H enc _ => lifted os started H enc)

theorem proved : Rows.RayKindsSaid :=
  over
#print axioms proved
end Go.Proofs.YtdeooadeohojcaaGreat.rayKinds
