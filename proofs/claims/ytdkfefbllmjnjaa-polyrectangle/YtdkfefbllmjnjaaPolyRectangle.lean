/-
  PolyRectangle: of every centre and half poly.Rectangle answers the document's points, bit by bit, or its error; what is answered is the caller's own.
-/
import Derived.Test.YtdkfefbllmjnjaaRows
import Derived.Test.YtdkfefbllmjnjaaPr
import Derived.Test.YtdkfefbllmjnjaaPt
import Derived.WalkKit
import Derived.ProofKit
import Derived.OpenShut
import Derived.WalkLawsBesides
import Derived.WalkSpells
import Derived.Lib.SmallJoins
import Derived.Laws.Cover2
import Derived.Deep.RegionHeld3
namespace Go.Proofs.Ytdkfefbllmjnjaa.polyRectangle
open Go.ChangeShapes Go.WideShapes Go.ChangeAt Go.RowKit Go.Joins
set_option linter.unusedVariables false
set_option linter.unusedSimpArgs false

theorem own : ownKnob Try.prog.godebug = none := by kernel_rfl
theorem cellsV : Try.prog.cellsOf 24 = 2 := by kernel_rfl
theorem wf_f64 {x : Nat} (h : (Lit.float .f64 x).wf = true) : okK .f64 x := by
  rw [okK64]; simpa [Lit.wf] using h
theorem trod_fl {H : Type} {enc : TypeId × Value → H} {P : Program} {w : World} {base fuel : Nat} {spare : Nat → Bool} {held : Bool} {t : TypeId} {cs : List Value} {x : DataW H × List MemPlace} {k : FloatKind} (ht : P.underlying t = some (.float k)) (h : DataW.trod enc P w base spare held fuel t cs = some x) : ∃ n, cs = [.float k n] ∧ x = (.lit (.float k n), []) ∧ (Lit.float k n).wf = true := by
  cases fuel with
  | zero => simp [DataW.trod] at h
  | succ n =>
    unfold DataW.trod at h
    rw [ht] at h
    split at h <;> simp_all

set_option maxRecDepth 100000 in
set_option maxHeartbeats 16000000 in
theorem walk (x0 y0 : Nat) (x1 y1 : Nat) (ox0 : okK .f64 x0) (oy0 : okK .f64 y0) (ox1 : okK .f64 x1) (oy1 : okK .f64 y1) (w : World) :
    Calls Try.prog 7 #[.agg #[.float .f64 x0, .float .f64 y0], .agg #[.float .f64 x1, .float .f64 y1]] w fun e w' => e = .returned (.bool true) ∧ Bel w w' := by
  have B0 : Bel w ((w.alloc (.cells #[.float .f64 x0, .float .f64 y0] 24)).alloc (.cells #[.float .f64 x1, .float .f64 y1] 24)) := bl_alloc (bl_alloc (bl_refl w) _ _) _ _
  have k0 : ((w.alloc (.cells #[.float .f64 x0, .float .f64 y0] 24)).alloc (.cells #[.float .f64 x1, .float .f64 y1] 24)).cell? ⟨w.heap.size, 0, none⟩ = some (.float .f64 x0) := up_alloc (cell_own rfl _ _ _).1
  have k1 : ((w.alloc (.cells #[.float .f64 x0, .float .f64 y0] 24)).alloc (.cells #[.float .f64 x1, .float .f64 y1] 24)).cell? ⟨w.heap.size, 1, none⟩ = some (.float .f64 y0) := up_alloc (cell_own rfl _ _ _).2
  have k2 : ((w.alloc (.cells #[.float .f64 x0, .float .f64 y0] 24)).alloc (.cells #[.float .f64 x1, .float .f64 y1] 24)).cell? ⟨w.heap.size + 1, 0, none⟩ = some (.float .f64 x1) := (cell_own (by simp) _ _ _).1
  have k3 : ((w.alloc (.cells #[.float .f64 x0, .float .f64 y0] 24)).alloc (.cells #[.float .f64 x1, .float .f64 y1] 24)).cell? ⟨w.heap.size + 1, 1, none⟩ = some (.float .f64 y1) := (cell_own (by simp) _ _ _).2
  cases hb0 : rcB x0 y0 x1 y1
  · go_enter Try.func7, Try.ntmps7
    go_wp2_with (first | (have zm := m5; clear zm; go_at_call 40; refine (rect_bad _ _ _ _ _ (by with_reducible assumption) (by with_reducible assumption) (by with_reducible assumption) (by with_reducible assumption) hb0).mono ?_; rintro e w_6 ⟨rfl, hb6⟩; have B6 := bl_trans B5 hb6) | (have zm := m5; clear zm; go_at_call 33; refine (same_nil _ _ _ _ _).mono ?_; rintro e w_7 ⟨rfl, hb7⟩; have B7 := bl_trans B6 hb7) | (go_at_call 17; refine (awake_any _).mono ?_; rintro e w_1 ⟨rfl, hb1⟩; have B1 := bl_trans B0 hb1; replace k0 := keep hb1 k0; replace k1 := keep hb1 k1; replace k2 := keep hb1 k2; replace k3 := keep hb1 k3) | (go_at_call 40; refine (rect_bad _ _ _ _ _ (by with_reducible assumption) (by with_reducible assumption) (by with_reducible assumption) (by with_reducible assumption) hb0).mono ?_; rintro e w_2 ⟨rfl, hb2⟩; have B2 := bl_trans B1 hb2; replace k0 := keep hb2 k0; replace k1 := keep hb2 k1; replace k2 := keep hb2 k2; replace k3 := keep hb2 k3) | (go_at_call 41; refine (rrect_bad _ _ _ _ _ (by with_reducible assumption) (by with_reducible assumption) (by with_reducible assumption) (by with_reducible assumption) hb0).mono ?_; rintro e w_3 ⟨rfl, hb3⟩; have B3 := bl_trans B2 hb3; replace k0 := keep hb3 k0; replace k1 := keep hb3 k1; replace k2 := keep hb3 k2; replace k3 := keep hb3 k3) | (go_at_call 33; refine (same_nil _ _ _ _ _).mono ?_; rintro e w_4 ⟨rfl, hb4⟩; have B4 := bl_trans B3 hb4; replace k0 := keep hb4 k0; replace k1 := keep hb4 k1; replace k2 := keep hb4 k2; replace k3 := keep hb4 k3) | (go_at_call 34; refine (spoil_nil _).mono ?_; rintro e w_5 ⟨rfl, hb5⟩; have B5 := bl_trans B4 hb5; replace k0 := keep hb5 k0; replace k1 := keep hb5 k1; replace k2 := keep hb5 k2; replace k3 := keep hb5 k3; have m5 := hide True.intro))
    go_ret
    exact ⟨rfl, B7⟩
  · by_cases hch : chkE (px (rcL x0 y0 x1 y1)) (py (rcL x0 y0 x1 y1)) 4 = 0
    · have hsz0 : w.heap.size + 2 ≤ ((w.alloc (.cells #[.float .f64 x0, .float .f64 y0] 24)).alloc (.cells #[.float .f64 x1, .float .f64 y1] 24)).heap.size := by simp
      go_enter Try.func7, Try.ntmps7
      go_wp2_with (first | (have zm := m5; clear zm; go_at_call 40; refine (rect_ok _ _ _ _ _ (by with_reducible assumption) (by with_reducible assumption) (by with_reducible assumption) (by with_reducible assumption) hb0 hch).mono ?_; rintro e w_6 ⟨r3, rfl, hr3, hs6, hf6, hb6⟩; have B6 := bl_trans B5 hb6) | (have zm := m5; clear zm; go_at_call 33; refine (same_eq r3 0 4 r2 0 4 4 (px (rcL x0 y0 x1 y1)) (py (rcL x0 y0 x1 y1)) _ hs6 (hq5.bel hb6) (by unfold maxLen; decide) (by decide) (by decide)).mono ?_; rintro e w_7 ⟨rfl, hb7⟩; have B7 := bl_trans B6 hb7) | (go_at_call 17; refine (awake_any _).mono ?_; rintro e w_1 ⟨rfl, hb1⟩; have B1 := bl_trans B0 hb1; have hsz1 := Nat.le_trans hsz0 hb1.size; replace k0 := keep hb1 k0; replace k1 := keep hb1 k1; replace k2 := keep hb1 k2; replace k3 := keep hb1 k3) | (go_at_call 40; refine (rect_ok _ _ _ _ _ (by with_reducible assumption) (by with_reducible assumption) (by with_reducible assumption) (by with_reducible assumption) hb0 hch).mono ?_; rintro e w_2 ⟨r1, rfl, hr1, hs2, hf2, hb2⟩; have B2 := bl_trans B1 hb2; replace k0 := keep hb2 k0; replace k1 := keep hb2 k1; replace k2 := keep hb2 k2; replace k3 := keep hb2 k3; have z1 := hs2.lt (by decide)) | (go_at_call 41; refine (rrect_ok _ _ _ _ _ (by with_reducible assumption) (by with_reducible assumption) (by with_reducible assumption) (by with_reducible assumption) hb0 hch).mono ?_; rintro e w_3 ⟨r2, rfl, hr2, hs3, hf3, hb3⟩; have B3 := bl_trans B2 hb3; replace k0 := keep hb3 k0; replace k1 := keep hb3 k1; replace k2 := keep hb3 k2; replace k3 := keep hb3 k3; have z2 := hs3.lt (by decide); have hs3' := hs2.bel hb3) | (go_at_call 33; refine (same_eq r1 0 4 r2 0 4 4 (px (rcL x0 y0 x1 y1)) (py (rcL x0 y0 x1 y1)) _ hs3' hs3 (by unfold maxLen; decide) (by decide) (by decide)).mono ?_; rintro e w_4 ⟨rfl, hb4⟩; have B4 := bl_trans B3 hb4; replace k0 := keep hb4 k0; replace k1 := keep hb4 k1; replace k2 := keep hb4 k2; replace k3 := keep hb4 k3; have hq4 := hs3.bel hb4; have hp4 := hs3'.bel hb4; have hf4 : ∀ o, w_4.frozen? ⟨r1, o, none⟩ = false := fun o => (hb4.2 _).trans ((hb3.2 _).trans (hf2 o))) | (go_at_call 34; refine (spoil_full r1 4 _ _ _ hp4 (by decide) (by decide) hf4).mono ?_; rintro e w_5 ⟨rfl, hm5⟩; have B5 := hm5.bel w B4 (Nat.le_trans B1.size hr1); have hq5 := hm5.sl hq4 (by omega); replace k0 := (hm5.cell w.heap.size 0 (World.block_lt_of_cell? _ _ k0) (by omega)).trans k0; replace k1 := (hm5.cell w.heap.size 1 (World.block_lt_of_cell? _ _ k1) (by omega)).trans k1; replace k2 := (hm5.cell (w.heap.size + 1) 0 (World.block_lt_of_cell? _ _ k2) (by omega)).trans k2; replace k3 := (hm5.cell (w.heap.size + 1) 1 (World.block_lt_of_cell? _ _ k3) (by omega)).trans k3; have m5 := hide True.intro))
      go_ret
      exact ⟨rfl, B7⟩
    · obtain ⟨v, hv⟩ : ∃ v, chkE (px (rcL x0 y0 x1 y1)) (py (rcL x0 y0 x1 y1)) 4 = v := ⟨_, rfl⟩
      have RE := fun W => rect_err x0 y0 x1 y1 W ox0 oy0 ox1 oy1 hb0 hch
      have RR := fun W => rrect_err x0 y0 x1 y1 W ox0 oy0 ox1 oy1 hb0 hch
      rw [hv] at RE RR
      go_enter Try.func7, Try.ntmps7
      go_wp2_with (first | (have zm := m5; clear zm; go_at_call 40; refine (RE _).mono ?_; rintro e w_6 ⟨rfl, hb6⟩; have B6 := bl_trans B5 hb6) | (have zm := m5; clear zm; go_at_call 33; refine (same_nil _ _ _ _ _).mono ?_; rintro e w_7 ⟨rfl, hb7⟩; have B7 := bl_trans B6 hb7) | (go_at_call 17; refine (awake_any _).mono ?_; rintro e w_1 ⟨rfl, hb1⟩; have B1 := bl_trans B0 hb1; replace k0 := keep hb1 k0; replace k1 := keep hb1 k1; replace k2 := keep hb1 k2; replace k3 := keep hb1 k3) | (go_at_call 40; refine (RE _).mono ?_; rintro e w_2 ⟨rfl, hb2⟩; have B2 := bl_trans B1 hb2; replace k0 := keep hb2 k0; replace k1 := keep hb2 k1; replace k2 := keep hb2 k2; replace k3 := keep hb2 k3) | (go_at_call 41; refine (RR _).mono ?_; rintro e w_3 ⟨rfl, hb3⟩; have B3 := bl_trans B2 hb3; replace k0 := keep hb3 k0; replace k1 := keep hb3 k1; replace k2 := keep hb3 k2; replace k3 := keep hb3 k3) | (go_at_call 33; refine (same_nil _ _ _ _ _).mono ?_; rintro e w_4 ⟨rfl, hb4⟩; have B4 := bl_trans B3 hb4; replace k0 := keep hb4 k0; replace k1 := keep hb4 k1; replace k2 := keep hb4 k2; replace k3 := keep hb4 k3) | (go_at_call 34; refine (spoil_nil _).mono ?_; rintro e w_5 ⟨rfl, hb5⟩; have B5 := bl_trans B4 hb5; replace k0 := keep hb5 k0; replace k1 := keep hb5 k1; replace k2 := keep hb5 k2; replace k3 := keep hb5 k3; have m5 := hide True.intro))
      go_ret
      exact ⟨rfl, B7⟩

set_option maxRecDepth 100000 in
theorem lifted (os : Os) (started : os.Started) (H : Type) (enc : TypeId × Value → H) :
    ReturnsInHanded {} Try.checked os 7 .any (Rows.polyRectangleSpec.pre6 enc Try.prog Try.f7 Rows.polyRectangleRow.domain false) (Rows.polyRectangleSpec.post enc Try.prog Try.f7 false true false false) := by
  refine returnsInHanded_of_change (C := Try.checked) own started (by kernel_rfl) Try.func7
    (ChangeSpec.witness6 (enc := enc) (C := Try.checked) false ⟨#[], #[.agg #[.float .f64 0, .float .f64 0], .agg #[.float .f64 0, .float .f64 0]], []⟩ 8 (by kernel_rfl) (by kernel_rfl) (by kernel_rfl) (by kernel_rfl)) ?_
  intro W base args ds gs before hval0 hW hcnd _
  have hval : ∀ (j : Nat) t v, Try.f7.params[j]? = some t → args[j]? = some v → Value.okWide Try.prog W .any base t v := hval0
  have hW' := hW
  obtain ⟨p, q, hA0, hV, rfl, hfz, hnd⟩ := hW
  have hA : DataW.TrodAll enc Try.prog W 0 (fun _ => true) true Try.f7.params.toList args.toList ds p := hA0
  rw [Try.params7] at hA hval
  obtain ⟨v0, vs0, d0, ds0, p0, q0, hargs, rfl, rfl, h0, r0⟩ := trodAll_cons hA
  obtain ⟨v1, vs1, d1, ds1, p1, q1, rfl, rfl, rfl, h1, r1⟩ := trodAll_cons r0
  obtain ⟨rfl, rfl, rfl⟩ := trodAll_nil r1
  obtain rfl : args = #[v0, v1] := by cases args; simp_all
  obtain ⟨rfl, rfl⟩ := trodVars_none hV
  obtain ⟨c0, k0, z0, u0, m0, rfl, rfl, rfl, hz0, hu0⟩ := open_agg2 Try.underlying24 (by kernel_rfl) cellsV (hval 0 24 v0 rfl rfl) h0
  obtain ⟨x0, e0, rfl, wx0⟩ := trod_fl Try.underlying22 hz0
  obtain ⟨y0, e1, rfl, wy0⟩ := trod_fl Try.underlying22 hu0
  simp at e0 e1
  subst e0 e1
  obtain ⟨c1, k1, z1, u1, m1, rfl, rfl, rfl, hz1, hu1⟩ := open_agg2 Try.underlying24 (by kernel_rfl) cellsV (hval 1 24 v1 rfl rfl) h1
  obtain ⟨x1, e0, rfl, wx1⟩ := trod_fl Try.underlying22 hz1
  obtain ⟨y1, e1, rfl, wy1⟩ := trod_fl Try.underlying22 hu1
  simp at e0 e1
  subst e0 e1
  clear hA0 hval0
  simp only [List.append_nil] at hW'
  refine (walk x0 y0 x1 y1 (wf_f64 wx0) (wf_f64 wy0) (wf_f64 wx1) (wf_f64 wy1) W).mono fun e W' ⟨he, hg0⟩ => ?_
  have hg := hg0.grown
  subst he
  exact ⟨_, rfl, post_of_same (pa := []) (pv := []) hW' (fun _ _ _ => (trodAll_cons_mk (shut_bool Try.underlying4 _) trodAll_mk0)) (fun sp _ => (trodAll_cons_mk (shut_agg2 (y0 := (.lit (.float .f64 x0), [])) (y1 := (.lit (.float .f64 y0), [])) Try.underlying24 (by kernel_rfl) cellsV ⟨1, by simp [DataW.trod, Try.underlying22, wx0]⟩ ⟨1, by simp [DataW.trod, Try.underlying22, wy0]⟩) (trodAll_cons_mk (shut_agg2 (y0 := (.lit (.float .f64 x1), [])) (y1 := (.lit (.float .f64 y1), [])) Try.underlying24 (by kernel_rfl) cellsV ⟨1, by simp [DataW.trod, Try.underlying22, wx1]⟩ ⟨1, by simp [DataW.trod, Try.underlying22, wy1]⟩) trodAll_mk0))) (fun _ _ => rfl) rfl
    (hg.frame _) hg.2.1 (ok_one (by kernel_rfl) rfl (okWide_bool_mk Try.underlying4 _))⟩

theorem over : Rows.polyRectangleRow.holds Try.pinned (OpenSpec.ofChange Rows.polyRectangleSpec) :=
  OpenClaim.holds_of_wide 7 Try.f7 rfl rfl rfl rfl rfl rfl rfl ⟨rfl, rfl, rfl, rfl, rfl⟩ rfl rfl rfl rfl rfl (by kernel_rfl) Try.func7 (by kernel_rfl)
    (of_decide_eq_true (by kernel_rfl)) (by unfold Func.isWrapper; first | (rw [if_pos (by decide +kernel)]; kernel_rfl) | (rw [if_neg (by decide +kernel)]; exact ⟨rfl, rfl⟩))
    (fun os started H enc _ => lifted os started H enc)

theorem proved : Rows.PolyRectangleSaid :=
  over
#print axioms proved
end Go.Proofs.Ytdkfefbllmjnjaa.polyRectangle
