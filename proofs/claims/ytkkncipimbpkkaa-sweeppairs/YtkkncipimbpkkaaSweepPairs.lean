/-
  'tumblelaw13.SweepPairs' is true of all rows of boxes.
-/
import Derived.Test.YtkkncipimbpkkaaRows
import Derived.Test.YtkkncipimbpkkaaSwx
import Derived.WalkKit
import Derived.ProofKit
import Derived.OpenShut
import Derived.WalkLawsBesides
import Derived.WalkSpells
import Derived.Lib.SmallJoins
import Derived.Laws.Cover2
import Derived.Laws.AppendOwn
import Derived.Laws.OwnMore
import Derived.Laws.AppendOwnNone
import Derived.Deep.RegionHeld3
import Derived.Deep.RegionWith
import Derived.Deep.SlicePairs
import Derived.Deep.Strs
import Derived.SizedLaws
import Derived.Below
import Derived.Deep.DeepCutAuto
import Derived.Laws.StructEq
namespace Go.Proofs.Ytkkncipimbpkkaa.sweepPairs
open Go.ChangeShapes Go.WideShapes Go.ChangeAt Go.RowKit Go.Joins Go.Sort
set_option linter.unusedVariables false
set_option linter.unusedSimpArgs false

theorem own : ownKnob Try.prog.godebug = none := by kernel_rfl
theorem laidOut : laidOutB Try.prog = true := by kernel_rfl
theorem wf_f64 {x : Nat} (h : (Lit.float .f64 x).wf = true) : okK .f64 x := by
  rw [okK64]; simpa [Lit.wf] using h
theorem trod_fl {H : Type} {enc : TypeId × Value → H} {P : Program} {w : World} {base fuel : Nat} {spare : Nat → Bool} {held : Bool} {t : TypeId} {cs : List Value} {x : DataW H × List MemPlace} {k : FloatKind} (ht : P.underlying t = some (.float k)) (h : DataW.trod enc P w base spare held fuel t cs = some x) : ∃ z, cs = [.float k z] ∧ x = (.lit (.float k z), []) ∧ (Lit.float k z).wf = true := by
  cases fuel with
  | zero => simp [DataW.trod] at h
  | succ n =>
    unfold DataW.trod at h
    rw [ht] at h
    split at h <;> simp_all

theorem cellsV : Try.prog.cellsOf 25 = 2 := by kernel_rfl
theorem cellsM : Try.prog.cellsOf 27 = 4 := by kernel_rfl
theorem cellsF : Try.prog.cellsOf 23 = 1 := by kernel_rfl

theorem own_len3 {sz base : Nat} {w : World} {v : Value} {n : Nat} {R : List Value} (h : OwnR sz base w v n R) : ∃ sa cap, v = .slice sa n cap := by
  rcases h.2 with ⟨e1, e2⟩ | ⟨k, cap, e, _⟩
  · subst e2; exact ⟨_, _, e1⟩
  · exact ⟨_, _, e⟩
set_option maxRecDepth 100000 in
set_option maxHeartbeats 16000000 in
theorem walk_any (sa : Option Addr) (n cap : Nat) (B : Nat → Bo) (w : World) (hA : AnyB w sa n B) (hr : n * 32 ≤ 140737488351232) (ho : ∀ i, i < n → okK .f64 (B i).1 ∧ okK .f64 (B i).2.1 ∧ okK .f64 (B i).2.2.1 ∧ okK .f64 (B i).2.2.2) :
    Calls Try.prog 4 #[.slice sa n cap] w fun e w' => e = .returned (.bool true) ∧ Below w.heap.size w w' := by
  obtain ⟨E, hE⟩ : ∃ E, prE n (refP B n) = E := ⟨_, rfl⟩
  obtain ⟨PL, hPL⟩ : ∃ L, prL n (refP B n) = L := ⟨_, rfl⟩
  have hl := prL_len n (refP B n)
  rw [hPL] at hl
  have HE : Hid (prE n (refP B n) = E) := hE
  have HL : Hid (prL n (refP B n) = PL) := hPL
  clear hE hPL
  have n1 : (n : Int) ≤ (n : Int) + 1 := by omega
  go_enter Try.func4, Try.ntmps4
  go_upto_region 5 with (first | (go_at_call 15; (with_reducible refine (lent_s sa n cap B _ hA hr).mono ?_); rintro e w1 ⟨g, c, rfl, hg, hc, hcm, hL, hgl, B1⟩; have hcz : (n : Int) ≤ (c : Int) := (by omega); have hA1 := hA.below B1.1) | (go_at_call 16; (with_reducible refine (rpairs_any sa n cap B w1 hA1).mono ?_); rintro e w2 ⟨vW, rfl, hOW, hb2⟩; rw [HE.out]; rw [HL.out] at hOW; have B2 := bl_trans B1 hb2; have hrW := own_prow hOW; have hL2 := hL.below hb2.1; have hgl2 := Nat.lt_of_lt_of_le hgl hb2.size; have aB2 : AnyB w2 (some ⟨g, 0, none⟩) n B := .inr ⟨g, 0, rfl, hL2.1, hgl2⟩) | (go_at_call 10; first | (have zn := mY; clear zn; (with_reducible refine (pairs_any (some ⟨g, 0, none⟩) n c B w3 aB3).mono ?_); rintro e w4 ⟨vb, rfl, hOb, hnb, hb4⟩; rw [HE.out]; rw [HL.out] at hOb hnb; replace hrW := hrW.below hb4; replace hra := hra.below hb4; have hrb := own_prow hOb; have hL4 := hL3.below hb4; have L4 := bw_trans L3 hb4) | ((with_reducible refine (pairs_any (some ⟨g, 0, none⟩) n c B w2 aB2).mono ?_); rintro e w3 ⟨va, rfl, hOa, hna, hb3⟩; rw [HE.out]; rw [HL.out] at hOa hna; have mY := hide True.intro; have L3 := bw_trans B2.1 hb3; replace hrW := hrW.below hb3; have hra := own_prow hOa; have hL3 := hL2.below hb3; have hgl3 := Nat.lt_of_lt_of_le hgl2 hb3.size; have aB3 : AnyB w3 (some ⟨g, 0, none⟩) n B := .inr ⟨g, 0, rfl, hL3.1, hgl3⟩)))
  have hA4 := hA.below L4
  have s2 : w.heap.size ≤ w2.heap.size := B2.size
  have s3 : w2.heap.size ≤ w3.heap.size := hb3.size
  have s4 : w3.heap.size ≤ w4.heap.size := hb4.size
  have hOa4 : OwnR 2 w2.heap.size w4 va PL.length (pRow PL) := by
    rcases hOa.below hb4 (by decide) with h | h
    · exact h
    · have e0 : PL = [] := List.eq_nil_of_length_eq_zero h
      rw [hna e0, e0]
      exact OwnR.nil _ _ _
  obtain ⟨ga, ca, hva⟩ := own_len3 hOa4
  obtain ⟨gb, cb, hvb⟩ := own_len3 hOb
  have HA4 : PL.length = 0 ∨ ∃ g, ga = some ⟨g, 0, none⟩ ∧ g < w3.heap.size ∧ g < w4.heap.size := by
    rcases own_split hOa (by decide) with ⟨h0, _⟩ | ⟨_, g', c', e, _, h2, _⟩
    · exact .inl h0
    · rw [hva] at e
      injection e with e1 _ _
      exact .inr ⟨g', e1, h2, by omega⟩
  have HB4 : PL.length = 0 ∨ ∃ g, gb = some ⟨g, 0, none⟩ ∧ w3.heap.size ≤ g ∧ g < w4.heap.size := by
    rcases own_split hOb (by decide) with ⟨h0, _⟩ | ⟨_, g', c', e, h1, h2, _⟩
    · exact .inl h0
    · rw [hvb] at e
      injection e with e1 _ _
      exact .inr ⟨g', e1, h1, h2⟩
  have HZ4 : PL.length = 0 → ga = none ∧ gb = none := fun h => by
    have e0 : PL = [] := List.eq_nil_of_length_eq_zero h
    have e1 := hna e0
    have e2 := hnb e0
    rw [hva] at e1
    rw [hvb] at e2
    injection e1 with e1 _ _
    injection e2 with e2 _ _
    exact ⟨e1, e2⟩
  have HD4 : ∀ g g', ga = some ⟨g, 0, none⟩ → gb = some ⟨g', 0, none⟩ → g ≠ g' := fun g g' e1 e2 => by
    rcases HA4 with h | ⟨x, hx, hx1, _⟩
    · rw [(HZ4 h).1] at e1; cases e1
    · rcases HB4 with h | ⟨y, hy, hy1, _⟩
      · rw [(HZ4 h).2] at e2; cases e2
      · rw [hx] at e1
        rw [hy] at e2
        injection e1 with e1
        injection e1 with e1 _ _
        injection e2 with e2
        injection e2 with e2 _ _
        omega
  subst hva hvb
  obtain ⟨N, hN⟩ : ∃ N, PL.length = N := ⟨_, rfl⟩
  have hlP : PL.length < 4611686018427387904 := by omega
  have HLP : Hid _ := hlP
  have HD : Hid _ := HD4
  have HZ : Hid _ := HZ4
  have HAA : Hid (PL.length = 0 ∨ ∃ g, ga = some ⟨g, 0, none⟩ ∧ g < w4.heap.size) := (by
    rcases HA4 with h | ⟨x, hx, _, hx2⟩
    · exact .inl h
    · exact .inr ⟨x, hx, hx2⟩)
  have HBB : Hid (PL.length = 0 ∨ ∃ g, gb = some ⟨g, 0, none⟩ ∧ g < w4.heap.size) := (by
    rcases HB4 with h | ⟨x, hx, _, hx2⟩
    · exact .inl h
    · exact .inr ⟨x, hx, hx2⟩)
  have HN : Hid (PL.length = N) := hN
  clear HD4 HZ4 HA4 HB4 hlP hna hnb hOa HE HL
  rw [hN] at hOa4 hOb hra hrb ⊢
  rw [hN] at hl
  clear hN
  have up : ∀ {u : World} {s : Option Addr}, Bel w4 u → Hid (PL.length = 0 ∨ ∃ g, s = some ⟨g, 0, none⟩ ∧ g < w4.heap.size) → (N = 0 ∨ ∃ g, s = some ⟨g, 0, none⟩ ∧ g < u.heap.size) := fun hb h => by
    rcases h.out with h | ⟨x, hx, hx2⟩
    · exact .inl (by rw [← HN.out]; exact h)
    · exact .inr ⟨x, hx, Nat.lt_of_lt_of_le hx2 hb.size⟩
  have HUP : Hid _ := @up
  clear up
  go_wp2_with (first | (go_at_call 17; first | (have zn := mS1; clear zn; have r1 := hrb.below hb5.1; have r2 := hrW.below hb5.1; (with_reducible refine (sameP_s PL _ _ w5 r1 r2 HLP.out).mono ?_); rintro e w6 ⟨rfl, hb6⟩) | ((with_reducible refine (sameP_s PL _ vW w4 hra hrW HLP.out).mono ?_); rintro e w5 ⟨rfl, hb5⟩; have mS1 := hide True.intro)) | (go_at_call 18; have hL6 := (hL4.below hb5.1).below hb6.1; have hA6 := (hA4.below hb5.1).below hb6.1; (with_reducible refine (kept_s g c sa n cap B w6 hL6 hA6 ho hr).mono ?_); rintro e w7 ⟨rfl, hb7⟩; have B7 := bl_trans hb5 (bl_trans hb6 hb7); have L7 := bw_trans L4 B7.1; have hOa7 := hOa4.bel B7; have hOb7 := hOb.bel B7; have s7 := B7.size; have ua := HUP.out B7 HAA; have ub := HUP.out B7 HBB) | (go_at_call 19; (with_reducible refine (apart_s ga gb N ca cb w2.heap.size w3.heap.size w.heap.size _ _ w7 hOa7 hOb7 ua ub (fun h => HZ.out (by rw [HN.out]; exact h)) HD.out (by omega) (by omega) (by omega) (by omega) hl).mono ?_); rintro e w8 ⟨rfl, hb8⟩))
  go_ret
  exact ⟨by first | rfl | simp, L7.trans hb8⟩

/-- a row of boxes: none, or len of them in cells, with room for cap -/
def IsBoxes (w : World) (a : Option Addr) (len cap : Nat) : Prop :=
  (a = none ∧ len = 0 ∧ cap = 0) ∨ ∃ (x : Addr) (B : Nat → Bo), a = some x ∧ len ≤ cap ∧ cap ≤ maxLen ∧ len * 32 ≤ 140737488351232 ∧ ∀ i, i < len → w.cell? (x.add (i * 4)) = some (.float .f64 (B i).1) ∧ w.cell? (x.add (i * 4 + 1)) = some (.float .f64 (B i).2.1) ∧ w.cell? (x.add (i * 4 + 2)) = some (.float .f64 (B i).2.2.1) ∧ w.cell? (x.add (i * 4 + 3)) = some (.float .f64 (B i).2.2.2) ∧ okK .f64 (B i).1 ∧ okK .f64 (B i).2.1 ∧ okK .f64 (B i).2.2.1 ∧ okK .f64 (B i).2.2.2
theorem any_of {w : World} {a : Option Addr} {len cap : Nat} (h : IsBoxes w a len cap) : ∃ B, AnyB w a len B ∧ len * 32 ≤ 140737488351232 ∧ ∀ i, i < len → okK .f64 (B i).1 ∧ okK .f64 (B i).2.1 ∧ okK .f64 (B i).2.2.1 ∧ okK .f64 (B i).2.2.2 := by
  rcases h with ⟨rfl, rfl, rfl⟩ | ⟨x, B, rfl, hl, hm, hr, hcell⟩
  · exact ⟨fun _ => (0, 0, 0, 0), .inl rfl, by omega, fun i hi => by omega⟩
  · refine ⟨B, ?_, hr, fun i hi => (hcell i hi).2.2.2.2⟩
    rcases Nat.eq_zero_or_pos len with h0 | h0
    · exact .inl h0
    · right
      obtain ⟨b, off, spot⟩ := x
      have hspot : spot = none := by simpa [Addr.add] using World.cell?_spot (hcell 0 h0).1
      subst hspot
      have hc0 := (hcell 0 h0).1
      rw [add_plain] at hc0
      refine ⟨b, off, rfl, fun i hi => ?_, World.block_lt_of_cell? _ _ hc0⟩
      obtain ⟨h1, h2, h3, h4, _⟩ := hcell i hi
      rw [add_plain] at h1 h2 h3 h4
      rw [← Nat.add_assoc] at h2 h3 h4
      exact ⟨h1, h2, h3, h4⟩
theorem walk (a0 : Option Addr) (len0 cap0 : Nat) (w : World) (h0 : IsBoxes w a0 len0 cap0) :
    Calls Try.prog 4 #[.slice a0 len0 cap0] w fun e w' => e = .returned (.bool true) ∧ Below w.heap.size w w' := by
  obtain ⟨B0, g0, r0, o0⟩ := any_of h0
  exact walk_any a0 len0 cap0 B0 w g0 r0 o0

set_option maxRecDepth 100000 in
theorem lifted (os : Os) (started : os.Started) (H : Type) (enc : TypeId × Value → H) :
    ReturnsInHanded {} Try.checked os 4 .any (Rows.sweepPairsSpec.pre6 enc Try.prog Try.f4 Rows.sweepPairsRow.domain false) (Rows.sweepPairsSpec.post enc Try.prog Try.f4 false true false false) := by
  refine returnsInHanded_of_change_sized (C := Try.checked) own started (by kernel_rfl) Try.func4
    (ChangeSpec.witness6 (enc := enc) (C := Try.checked) false ⟨#[], #[.slice none 0 0], []⟩ 8 (by kernel_rfl) (by kernel_rfl) (by kernel_rfl) (by kernel_rfl)) ?_
  intro W base args ds gs before hval0 hW hcnd hsz0 _
  have hsz : (DataW.weightsEach Try.prog (Try.f4.params.toList ++ Rows.sweepPairsSpec.plain.varTypes Try.prog) (ds ++ gs)).all (· ≤ reachBytes) = true := hsz0
  have hval : ∀ (j : Nat) t v, Try.f4.params[j]? = some t → args[j]? = some v → Value.okWide Try.prog W .any base t v := hval0
  have hW' := hW
  obtain ⟨p, q, hA0, hV, rfl, hfz, hnd⟩ := hW
  have hA : DataW.TrodAll enc Try.prog W 0 (fun _ => true) true Try.f4.params.toList args.toList ds p := hA0
  rw [Try.params4] at hA hval hsz
  obtain ⟨v0, vs0, d0, ds0, p0, q0, hargs, rfl, rfl, h0, r0⟩ := trodAll_cons hA
  obtain ⟨rfl, rfl, rfl⟩ := trodAll_nil r0
  obtain rfl : args = #[v0] := by cases args; simp_all
  obtain ⟨rfl, rfl⟩ := trodVars_none hV
  obtain ⟨a0, len0, cap0, rfl⟩ := okWide_slice Try.underlying22 (hval 0 22 v0 rfl rfl)
  have k0 := h0
  have lt0 : ∀ x ∈ p0, x.block < W.heap.size := by obtain ⟨m, hm⟩ := k0; exact DataW.trod_lt m _ _ _ hm
  have w0 : IsBoxes W a0 len0 cap0 := by
    obtain ⟨fuel, hf⟩ := h0
    rcases Go.Deep.open_slice Try.underlying22 hf with ⟨hcs, _⟩ | ⟨x, l, c, m, n, D, Pl, hcs, _, hl, hm, hmm, hx, hcell⟩
    · simp [Value.cells] at hcs
      exact .inl hcs
    · simp [Value.cells] at hcs
      obtain ⟨rfl, rfl, rfl⟩ := hcs
      simp only [Prod.mk.injEq] at hx
      obtain ⟨rfl, rfl⟩ := hx
      have hr := sized_slice hsz (j := 0) (t := 22) (e := 27) rfl rfl Try.underlying22
      rw [show Try.prog.bytesOf 27 = 32 by kernel_rfl] at hr
      simp only [List.length_map, List.length_range, reachBytes] at hr
      have hlm : len0 ≤ m := by rw [hmm]; split <;> omega
      have V : ∀ i, ∃ q : Nat × Nat × Nat × Nat, i < m → W.cell? (x.add (i * 4)) = some (.float .f64 q.1) ∧ W.cell? (x.add (i * 4 + 1)) = some (.float .f64 q.2.1) ∧ W.cell? (x.add (i * 4 + 2)) = some (.float .f64 q.2.2.1) ∧ W.cell? (x.add (i * 4 + 3)) = some (.float .f64 q.2.2.2) ∧ okK .f64 q.1 ∧ okK .f64 q.2.1 ∧ okK .f64 q.2.2.1 ∧ okK .f64 q.2.2.2 := by
        intro i
        by_cases hi : i < m
        · obtain ⟨cs', h1, h2⟩ := hcell i hi
          rw [cellsM] at h1
          obtain ⟨_, hlen, hce⟩ := World.cells?_some h1
          obtain ⟨y0, y1, n', hx', _, g0, g1⟩ := trod_struct2 Try.underlying27 h2
          match cs', hlen with
          | [v0, v1, v2, v3], _ =>
            simp [cellsV] at g0 g1
            obtain ⟨z0, z1, n2, hz, _, g4, g5⟩ := trod_struct2 Try.underlying25 g0
            obtain ⟨z2, z3, n3, hz3, _, g6, g7⟩ := trod_struct2 Try.underlying25 g1
            simp [cellsF] at g4 g5 g6 g7
            obtain ⟨a, e0, _, wa⟩ := trod_fl Try.underlying23 g4
            obtain ⟨b, e1, _, wb⟩ := trod_fl Try.underlying23 g5
            obtain ⟨c, e2, _, wc⟩ := trod_fl Try.underlying23 g6
            obtain ⟨d, e3, _, wd⟩ := trod_fl Try.underlying23 g7
            simp at e0 e1 e2 e3
            subst e0 e1 e2 e3
            have q0 := hce 0 (by omega)
            have q1 := hce 1 (by omega)
            have q2 := hce 2 (by omega)
            have q3 := hce 3 (by omega)
            rw [Go.Deep.add_add] at q0 q1 q2 q3
            exact ⟨(a, b, c, d), fun _ => ⟨by simpa using q0, by simpa using q1, by simpa using q2, by simpa using q3, wf_f64 wa, wf_f64 wb, wf_f64 wc, wf_f64 wd⟩⟩
        · exact ⟨(0, 0, 0, 0), fun h => absurd h hi⟩
      have V' := Classical.axiomOfChoice V
      obtain ⟨f, hf'⟩ := V'
      exact .inr ⟨x, f, rfl, hl, hm, by omega, fun i hi => hf' i (by omega)⟩
  clear hA0 hval0 hsz0
  refine (walk a0 len0 cap0 W w0).mono fun e W' ⟨he, bel0⟩ => ?_
  have bel := bel0
  subst he
  exact ⟨_, rfl, _, _, _, [], _, [], hW', trodAll_mk1 (shut_bool Try.underlying4 _), (trodAll_cons_mk (Below.trod laidOut (by kernel_rfl) (of_decide_eq_true (by kernel_rfl)) k0 bel lt0) trodAll_mk0), rfl, bel.frame _, fun h => by cases h⟩

theorem over : Rows.sweepPairsRow.holds Try.pinned (OpenSpec.ofChange Rows.sweepPairsSpec) :=
  OpenClaim.holds_of_wide 4 Try.f4 rfl rfl rfl rfl rfl rfl rfl ⟨rfl, rfl, rfl, rfl, rfl⟩ rfl rfl rfl rfl rfl (by kernel_rfl) Try.func4 (by kernel_rfl)
    (of_decide_eq_true (by kernel_rfl)) (by unfold Func.isWrapper; first | (rw [if_pos (by decide +kernel)]; kernel_rfl) | (rw [if_neg (by decide +kernel)]; exact ⟨rfl, rfl⟩))
    (fun os started H enc _ => lifted os started H enc)

theorem proved : Rows.SweepPairsSaid :=
  over
#print axioms proved
end Go.Proofs.Ytkkncipimbpkkaa.sweepPairs
