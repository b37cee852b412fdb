/-
  'tumblelaw14.GridWidths' is true of all rows of boxes.
-/
import Derived.Test.YtekhnolpgoejdaaGreatRows
import Derived.Test.YtekhnolpgoejdaaGreatGw
import Derived.WalkKit
import Derived.ProofKit
import Derived.OpenShut
import Derived.WalkLawsBesides
import Derived.WalkSpells
import Derived.Lib.SmallJoins
import Derived.Laws.Cover2
import Derived.Laws.AppendOwn
import Derived.Laws.OwnMore
import Derived.Laws.AppendOwnNone
import Derived.Deep.RegionHeld3
import Derived.Deep.RegionWith
import Derived.Deep.SlicePairs
import Derived.Deep.Strs
import Derived.SizedLaws
import Derived.Below
import Derived.Deep.DeepCutAuto
import Derived.Laws.StructEq
namespace Go.Proofs.YtekhnolpgoejdaaGreat.gridWidths
open Go.ChangeShapes Go.WideShapes Go.ChangeAt Go.RowKit Go.Joins Go.Sort
set_option linter.unusedVariables false
set_option linter.unusedSimpArgs false

theorem own : ownKnob Tryz.prog.godebug = none := by kernel_rfl
theorem laidOut : laidOutB Tryz.prog = true := by kernel_rfl
theorem wf_f64 {x : Nat} (h : (Lit.float .f64 x).wf = true) : okK .f64 x := by
  rw [okK64]; simpa [Lit.wf] using h
theorem trod_fl {H : Type} {enc : TypeId × Value → H} {P : Program} {w : World} {base fuel : Nat} {spare : Nat → Bool} {held : Bool} {t : TypeId} {cs : List Value} {x : DataW H × List MemPlace} {k : FloatKind} (ht : P.underlying t = some (.float k)) (h : DataW.trod enc P w base spare held fuel t cs = some x) : ∃ z, cs = [.float k z] ∧ x = (.lit (.float k z), []) ∧ (Lit.float k z).wf = true := by
  cases fuel with
  | zero => simp [DataW.trod] at h
  | succ n =>
    unfold DataW.trod at h
    rw [ht] at h
    split at h <;> simp_all

theorem cellsV : Tryz.prog.cellsOf 35 = 2 := by kernel_rfl
theorem cellsM : Tryz.prog.cellsOf 37 = 4 := by kernel_rfl
theorem cellsF : Tryz.prog.cellsOf 23 = 1 := by kernel_rfl

set_option maxRecDepth 100000 in
set_option maxHeartbeats 16000000 in
theorem walk_any (sa : Option Addr) (n cap : Nat) (B : Nat → Bo)  (w : World) (hA : AnyB w sa n B) (hr : n * 32 ≤ 140737488351232) (ho : ∀ i, i < n → okK .f64 (B i).1 ∧ okK .f64 (B i).2.1 ∧ okK .f64 (B i).2.2.1 ∧ okK .f64 (B i).2.2.2) :
    Calls Tryz.prog 5 #[.slice sa n cap] w fun e w' => e = .returned (.bool true) ∧ Below w.heap.size w w' := by
  by_cases hn : n ≤ 200
  · have hnz : ¬ (200 : Int) < (n : Int) := by omega
    have ho2 : ∀ i, i < n → okK .f64 (B i).1 ∧ okK .f64 (B i).2.1 := fun i hi => ⟨(ho i hi).1, (ho i hi).2.1⟩
    have hpa := fun (s' : Option Addr) (c' : Nat) (W : World) (h : AnyB W s' n B) => width14_s s' n c' B W h ho2
    have hpr := fun (s' : Option Addr) (c' : Nat) (W : World) (h : AnyB W s' n B) => rwidth14_s s' n c' B W h hn ho2
    obtain ⟨E, hE⟩ : ∃ E, mnE n = E := ⟨_, rfl⟩
    obtain ⟨PL, hPL⟩ : ∃ L, gwW B n = L := ⟨_, rfl⟩
    simp only [hE, hPL] at hpa hpr
    clear hE hPL
    go_enter Tryz.func5, Tryz.ntmps5
    go_wp2_with (first | (go_at_call 7; (with_reducible refine (alive14_s _).mono ?_); rintro e w1 ⟨rfl, hb1⟩; have hA1 := hA.below hb1) | (go_at_call 8; (with_reducible refine (lent14_s sa n cap B w1 hA1 hn).mono ?_); rintro e w2 ⟨g, c, rfl, hg, hc, hcm, hM2, hb2⟩; have hA2 := hA1.below hb2.1; have K2 := bw_trans hb1 hb2.1) | (go_at_call 16; (with_reducible refine (hpa (some ⟨g, 0, none⟩) c w2 hM2.any).mono ?_); rintro e w3 ⟨rfl, hb3⟩; have hM3 := hM2.below hb3; have hA3 := hA2.below hb3; have K3 := bw_trans K2 hb3) | (go_at_call 17; (with_reducible refine (hpr sa cap w3 hA3).mono ?_); rintro e w4 ⟨rfl, hb4⟩; have hM4 := hM3.below hb4.1; have hA4 := hA3.below hb4.1; have K4 := bw_trans K3 hb4.1) | (go_at_call 12; (with_reducible refine (kept14_s g c sa n cap B w4 hM4 hA4 hn hc hcm).mono ?_); rintro e w5 ⟨rfl, hb5⟩; have K5 := bw_trans K4 hb5.1) | (go_at_call 18; (with_reducible refine (rIs_any PL PL _).mono ?_); rintro e w' ⟨rfl, hw⟩; rw [hw, smK_self]; clear hw))
    go_ret
    exact ⟨by first | rfl | simp, K5⟩
  · have hnz : (200 : Int) < (n : Int) := by omega
    go_enter Tryz.func5, Tryz.ntmps5
    go_wp2_with (first | (go_at_call 7; (with_reducible refine (alive14_s _).mono ?_); rintro e w1 ⟨rfl, hb1⟩; have hA1 := hA.below hb1))
    go_ret
    exact ⟨rfl, hb1⟩

/-- a row of boxes: none, or len of them in cells, with room for cap -/
def IsBoxes (w : World) (a : Option Addr) (len cap : Nat) : Prop :=
  (a = none ∧ len = 0 ∧ cap = 0) ∨ ∃ (x : Addr) (B : Nat → Bo), a = some x ∧ len ≤ cap ∧ cap ≤ maxLen ∧ len * 32 ≤ 140737488351232 ∧ ∀ i, i < len → w.cell? (x.add (i * 4)) = some (.float .f64 (B i).1) ∧ w.cell? (x.add (i * 4 + 1)) = some (.float .f64 (B i).2.1) ∧ w.cell? (x.add (i * 4 + 2)) = some (.float .f64 (B i).2.2.1) ∧ w.cell? (x.add (i * 4 + 3)) = some (.float .f64 (B i).2.2.2) ∧ okK .f64 (B i).1 ∧ okK .f64 (B i).2.1 ∧ okK .f64 (B i).2.2.1 ∧ okK .f64 (B i).2.2.2
theorem any_of {w : World} {a : Option Addr} {len cap : Nat} (h : IsBoxes w a len cap) : ∃ B, AnyB w a len B ∧ len * 32 ≤ 140737488351232 ∧ ∀ i, i < len → okK .f64 (B i).1 ∧ okK .f64 (B i).2.1 ∧ okK .f64 (B i).2.2.1 ∧ okK .f64 (B i).2.2.2 := by
  rcases h with ⟨rfl, rfl, rfl⟩ | ⟨x, B, rfl, hl, hm, hr, hcell⟩
  · exact ⟨fun _ => (0, 0, 0, 0), .inl rfl, by omega, fun i hi => by omega⟩
  · refine ⟨B, ?_, hr, fun i hi => (hcell i hi).2.2.2.2⟩
    rcases Nat.eq_zero_or_pos len with h0 | h0
    · exact .inl h0
    · right
      obtain ⟨b, off, spot⟩ := x
      have hspot : spot = none := by simpa [Addr.add] using World.cell?_spot (hcell 0 h0).1
      subst hspot
      have hc0 := (hcell 0 h0).1
      rw [add_plain] at hc0
      refine ⟨b, off, rfl, fun i hi => ?_, World.block_lt_of_cell? _ _ hc0⟩
      obtain ⟨h1, h2, h3, h4, _⟩ := hcell i hi
      rw [add_plain] at h1 h2 h3 h4
      rw [← Nat.add_assoc] at h2 h3 h4
      exact ⟨h1, h2, h3, h4⟩
theorem walk (a0 : Option Addr) (len0 cap0 : Nat) (w : World) (h0 : IsBoxes w a0 len0 cap0) :
    Calls Tryz.prog 5 #[.slice a0 len0 cap0] w fun e w' => e = .returned (.bool true) ∧ Below w.heap.size w w' := by
  obtain ⟨B0, g0, r0, o0⟩ := any_of h0
  exact walk_any a0 len0 cap0 B0 w g0 r0 o0

set_option maxRecDepth 100000 in
theorem lifted (os : Os) (started : os.Started) (H : Type) (enc : TypeId × Value → H) :
    ReturnsInHanded {} Tryz.checked os 5 .any (Rows.gridWidthsSpec.pre6 enc Tryz.prog Tryz.f5 Rows.gridWidthsRow.domain false) (Rows.gridWidthsSpec.post enc Tryz.prog Tryz.f5 false true false false) := by
  refine returnsInHanded_of_change_sized (C := Tryz.checked) own started (by kernel_rfl) Tryz.func5
    (ChangeSpec.witness6 (enc := enc) (C := Tryz.checked) false ⟨#[], #[.slice none 0 0], []⟩ 8 (by kernel_rfl) (by kernel_rfl) (by kernel_rfl) (by kernel_rfl)) ?_
  intro W base args ds gs before hval0 hW hcnd hsz0 _
  have hsz : (DataW.weightsEach Tryz.prog (Tryz.f5.params.toList ++ Rows.gridWidthsSpec.plain.varTypes Tryz.prog) (ds ++ gs)).all (· ≤ reachBytes) = true := hsz0
  have hval : ∀ (j : Nat) t v, Tryz.f5.params[j]? = some t → args[j]? = some v → Value.okWide Tryz.prog W .any base t v := hval0
  have hW' := hW
  obtain ⟨p, q, hA0, hV, rfl, hfz, hnd⟩ := hW
  have hA : DataW.TrodAll enc Tryz.prog W 0 (fun _ => true) true Tryz.f5.params.toList args.toList ds p := hA0
  rw [Tryz.params5] at hA hval hsz
  obtain ⟨v0, vs0, d0, ds0, p0, q0, hargs, rfl, rfl, h0, r0⟩ := trodAll_cons hA
  obtain ⟨rfl, rfl, rfl⟩ := trodAll_nil r0
  obtain rfl : args = #[v0] := by cases args; simp_all
  obtain ⟨rfl, rfl⟩ := trodVars_none hV
  obtain ⟨a0, len0, cap0, rfl⟩ := okWide_slice Tryz.underlying22 (hval 0 22 v0 rfl rfl)
  have k0 := h0
  have lt0 : ∀ x ∈ p0, x.block < W.heap.size := by obtain ⟨m, hm⟩ := k0; exact DataW.trod_lt m _ _ _ hm
  have w0 : IsBoxes W a0 len0 cap0 := by
    obtain ⟨fuel, hf⟩ := h0
    rcases Go.Deep.open_slice Tryz.underlying22 hf with ⟨hcs, _⟩ | ⟨x, l, c, m, n, D, Pl, hcs, _, hl, hm, hmm, hx, hcell⟩
    · simp [Value.cells] at hcs
      exact .inl hcs
    · simp [Value.cells] at hcs
      obtain ⟨rfl, rfl, rfl⟩ := hcs
      simp only [Prod.mk.injEq] at hx
      obtain ⟨rfl, rfl⟩ := hx
      have hr := sized_slice hsz (j := 0) (t := 22) (e := 37) rfl rfl Tryz.underlying22
      rw [show Tryz.prog.bytesOf 37 = 32 by kernel_rfl] at hr
      simp only [List.length_map, List.length_range, reachBytes] at hr
      have hlm : len0 ≤ m := by rw [hmm]; split <;> omega
      have V : ∀ i, ∃ q : Nat × Nat × Nat × Nat, i < m → W.cell? (x.add (i * 4)) = some (.float .f64 q.1) ∧ W.cell? (x.add (i * 4 + 1)) = some (.float .f64 q.2.1) ∧ W.cell? (x.add (i * 4 + 2)) = some (.float .f64 q.2.2.1) ∧ W.cell? (x.add (i * 4 + 3)) = some (.float .f64 q.2.2.2) ∧ okK .f64 q.1 ∧ okK .f64 q.2.1 ∧ okK .f64 q.2.2.1 ∧ okK .f64 q.2.2.2 := by
        intro i
        by_cases hi : i < m
        · obtain ⟨cs', h1, h2⟩ := hcell i hi
          rw [cellsM] at h1
          obtain ⟨_, hlen, hce⟩ := World.cells?_some h1
          obtain ⟨y0, y1, n', hx', _, g0, g1⟩ := trod_struct2 Tryz.underlying37 h2
          match cs', hlen with
          | [v0, v1, v2, v3], _ =>
            simp [cellsV] at g0 g1
            obtain ⟨z0, z1, n2, hz, _, g4, g5⟩ := trod_struct2 Tryz.underlying35 g0
            obtain ⟨z2, z3, n3, hz3, _, g6, g7⟩ := trod_struct2 Tryz.underlying35 g1
            simp [cellsF] at g4 g5 g6 g7
            obtain ⟨a, e0, _, wa⟩ := trod_fl Tryz.underlying23 g4
            obtain ⟨b, e1, _, wb⟩ := trod_fl Tryz.underlying23 g5
            obtain ⟨c, e2, _, wc⟩ := trod_fl Tryz.underlying23 g6
            obtain ⟨d, e3, _, wd⟩ := trod_fl Tryz.underlying23 g7
            simp at e0 e1 e2 e3
            subst e0 e1 e2 e3
            have q0 := hce 0 (by omega)
            have q1 := hce 1 (by omega)
            have q2 := hce 2 (by omega)
            have q3 := hce 3 (by omega)
            rw [Go.Deep.add_add] at q0 q1 q2 q3
            exact ⟨(a, b, c, d), fun _ => ⟨by simpa using q0, by simpa using q1, by simpa using q2, by simpa using q3, wf_f64 wa, wf_f64 wb, wf_f64 wc, wf_f64 wd⟩⟩
        · exact ⟨(0, 0, 0, 0), fun h => absurd h hi⟩
      have V' := Classical.axiomOfChoice V
      obtain ⟨f, hf'⟩ := V'
      exact .inr ⟨x, f, rfl, hl, hm, by omega, fun i hi => hf' i (by omega)⟩
  clear hA0 hval0 hsz0
  refine (walk a0 len0 cap0 W w0).mono fun e W' ⟨he, bel0⟩ => ?_
  have bel := bel0
  subst he
  exact ⟨_, rfl, _, _, _, [], _, [], hW', trodAll_mk1 (shut_bool Tryz.underlying4 _), (trodAll_cons_mk (Below.trod laidOut (by kernel_rfl) (of_decide_eq_true (by kernel_rfl)) k0 bel lt0) trodAll_mk0), rfl, bel.frame _, fun h => by cases h⟩

theorem over : Rows.gridWidthsRow.holds Tryz.pinned (OpenSpec.ofChange Rows.gridWidthsSpec) :=
  OpenClaim.holds_of_wide 5 Tryz.f5 rfl rfl rfl rfl rfl rfl rfl ⟨rfl, rfl, rfl, rfl, rfl⟩ rfl rfl rfl rfl rfl (by kernel_rfl) Tryz.func5 (by kernel_rfl)
    (of_decide_eq_true (by kernel_rfl)) (by unfold Func.isWrapper; first | (rw [if_pos (by decide +kernel)]; kernel_rfl) | (rw [if_neg (by decide +kernel)]; exact ⟨rfl, rfl⟩))
    (fun os started H enc _ => lifted os started H enc)

theorem proved : Rows.GridWidthsSaid :=
  over
#print axioms proved
end Go.Proofs.YtekhnolpgoejdaaGreat.gridWidths
