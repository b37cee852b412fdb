/-
  'tumblelaw08.MassOnes' is true of all masses and places.
-/
import Derived.Test.YtnedolgeghbliaaRows
import Derived.Test.YtnedolgeghbliaaMi
import Derived.WalkKit
import Derived.ProofKit
import Derived.OpenShut
import Derived.WalkLawsBesides
import Derived.WalkSpells
import Derived.Lib.SmallJoins
import Derived.Laws.Cover2
import Derived.Deep.RegionHeld3
import Derived.Deep.Strs
namespace Go.Proofs.Ytnedolgeghbliaa.massOnes
open Go.ChangeShapes Go.WideShapes Go.ChangeAt Go.RowKit Go.Joins
set_option linter.unusedVariables false
set_option linter.unusedSimpArgs false

theorem own : ownKnob Try.prog.godebug = none := by kernel_rfl
theorem cellsV : Try.prog.cellsOf 26 = 2 := by kernel_rfl
theorem wf_f64 {x : Nat} (h : (Lit.float .f64 x).wf = true) : okK .f64 x := by
  rw [okK64]; simpa [Lit.wf] using h
theorem trod_fl {H : Type} {enc : TypeId × Value → H} {P : Program} {w : World} {base fuel : Nat} {spare : Nat → Bool} {held : Bool} {t : TypeId} {cs : List Value} {x : DataW H × List MemPlace} {k : FloatKind} (ht : P.underlying t = some (.float k)) (h : DataW.trod enc P w base spare held fuel t cs = some x) : ∃ n, cs = [.float k n] ∧ x = (.lit (.float k n), []) ∧ (Lit.float k n).wf = true := by
  cases fuel with
  | zero => simp [DataW.trod] at h
  | succ n =>
    unfold DataW.trod at h
    rw [ht] at h
    split at h <;> simp_all

set_option maxRecDepth 100000 in
theorem open_mass {H : Type} {enc : TypeId × Value → H} {w : World} {base : Nat} {spare : Nat → Bool} {held : Bool} {r : Reach} {b0 : Nat} {v : Value} {d : DataW H} {p : List MemPlace}
    (hv : Value.okWide Try.prog w r b0 28 v) (h : DataW.Trod enc Try.prog w base spare held 28 v d p) :
    ∃ a b c e : Nat, v = .agg #[.float .f64 a, .float .f64 b, .float .f64 c, .float .f64 e] ∧ d = .agg [.lit (.float .f64 a), .lit (.float .f64 b), .agg [.lit (.float .f64 c), .lit (.float .f64 e)]] ∧ p = [] ∧
      (Lit.float .f64 a).wf = true ∧ (Lit.float .f64 b).wf = true ∧ (Lit.float .f64 c).wf = true ∧ (Lit.float .f64 e).wf = true := by
  obtain ⟨cs, rfl, hsz⟩ := okWide_struct Try.underlying28 hv
  obtain ⟨c0, c1, c2, c3, rfl⟩ := array4 (hsz.trans (by kernel_rfl))
  obtain ⟨fuel, hf⟩ := h
  obtain ⟨y0, y1, y2, n, hx, _, h0, h1, h2⟩ := Go.Deep.trod_struct3 Try.underlying28 hf
  simp [Value.cells, cellsV, show Try.prog.cellsOf 24 = 1 by kernel_rfl] at h0 h1 h2
  obtain ⟨z0, z1, n2, hz, _, h4, h5⟩ := trod_struct2 Try.underlying26 h2
  simp [show Try.prog.cellsOf 24 = 1 by kernel_rfl] at h4 h5
  obtain ⟨a, e0, rfl, wa⟩ := trod_fl Try.underlying24 h0
  obtain ⟨b, e1, rfl, wb⟩ := trod_fl Try.underlying24 h1
  obtain ⟨c, e2, rfl, wc⟩ := trod_fl Try.underlying24 h4
  obtain ⟨e, e3, rfl, we⟩ := trod_fl Try.underlying24 h5
  simp at e0 e1 e2 e3
  subst e0 e1 e2 e3
  subst hz
  simp only [Prod.mk.injEq] at hx
  exact ⟨a, b, c, e, rfl, hx.1, hx.2, wa, wb, wc, we⟩
set_option maxRecDepth 100000 in
theorem shut_mass {H : Type} {enc : TypeId × Value → H} {w : World} {base : Nat} {spare : Nat → Bool} {held : Bool} {a b c e : Nat} (wa : (Lit.float .f64 a).wf = true) (wb : (Lit.float .f64 b).wf = true) (wc : (Lit.float .f64 c).wf = true) (we : (Lit.float .f64 e).wf = true) :
    DataW.Trod enc Try.prog w base spare held 28 (.agg #[.float .f64 a, .float .f64 b, .float .f64 c, .float .f64 e]) (.agg [.lit (.float .f64 a), .lit (.float .f64 b), .agg [.lit (.float .f64 c), .lit (.float .f64 e)]]) [] := by
  have cf : Try.prog.cellsOf 24 = 1 := by kernel_rfl
  have tv : DataW.trod enc Try.prog w base spare held 2 26 [.float .f64 c, .float .f64 e] = some (.agg [.lit (.float .f64 c), .lit (.float .f64 e)], []) :=
    trod_struct2_mk (y0 := (.lit (.float .f64 c), [])) (y1 := (.lit (.float .f64 e), [])) Try.underlying26 (by simp [cellsV]) (by simp [cf, DataW.trod, Try.underlying24, wc]) (by simp [cf, DataW.trod, Try.underlying24, we])
  exact ⟨3, Go.Deep.trod_struct3_mk (y0 := (.lit (.float .f64 a), [])) (y1 := (.lit (.float .f64 b), [])) (y2 := (.agg [.lit (.float .f64 c), .lit (.float .f64 e)], [])) Try.underlying28 (by simp [Value.cells]; kernel_rfl) (by simp [cf, Value.cells, DataW.trod, Try.underlying24, wa]) (by simp [cf, Value.cells, DataW.trod, Try.underlying24, wb]) (by simpa [Value.cells, cellsV] using tv)⟩
theorem ris_t (a b : Nat) (w : World) (h : smK .f64 a b = true) : Calls Try.prog 20 #[.float .f64 a, .float .f64 b] w fun e w' => e = .returned (.bool true) ∧ Bel w w' := by
  refine (rIs_any a b w).mono ?_
  rintro e w' ⟨rfl, rfl⟩
  exact ⟨by rw [h], bl_refl _⟩

set_option maxRecDepth 100000 in
set_option maxHeartbeats 4000000 in
theorem walk (ma0 ia0 cx0 cy0 : Nat) (x1 y1 : Nat) (oma0 : okK .f64 ma0) (oia0 : okK .f64 ia0) (ocx0 : okK .f64 cx0) (ocy0 : okK .f64 cy0) (ox1 : okK .f64 x1) (oy1 : okK .f64 y1) (w : World) :
    Calls Try.prog 5 #[.agg #[.float .f64 ma0, .float .f64 ia0, .float .f64 cx0, .float .f64 cy0], .agg #[.float .f64 x1, .float .f64 y1]] w fun e w' => e = .returned (.bool true) ∧ Bel w w' := by
  have z0_0 : (w.alloc (.cells #[.float .f64 ma0, .float .f64 ia0, .float .f64 cx0, .float .f64 cy0] 28)).cell? ⟨w.heap.size, 0, none⟩ = some (.float .f64 ma0) := by rw [World.cell?_alloc_new]; rfl
  replace z0_0 := up_alloc (o := .cells #[.float .f64 x1, .float .f64 y1] 26) z0_0
  have z0_1 : (w.alloc (.cells #[.float .f64 ma0, .float .f64 ia0, .float .f64 cx0, .float .f64 cy0] 28)).cell? ⟨w.heap.size, 1, none⟩ = some (.float .f64 ia0) := by rw [World.cell?_alloc_new]; rfl
  replace z0_1 := up_alloc (o := .cells #[.float .f64 x1, .float .f64 y1] 26) z0_1
  have z0_2 : (w.alloc (.cells #[.float .f64 ma0, .float .f64 ia0, .float .f64 cx0, .float .f64 cy0] 28)).cell? ⟨w.heap.size, 2, none⟩ = some (.float .f64 cx0) := by rw [World.cell?_alloc_new]; rfl
  replace z0_2 := up_alloc (o := .cells #[.float .f64 x1, .float .f64 y1] 26) z0_2
  have z0_3 : (w.alloc (.cells #[.float .f64 ma0, .float .f64 ia0, .float .f64 cx0, .float .f64 cy0] 28)).cell? ⟨w.heap.size, 3, none⟩ = some (.float .f64 cy0) := by rw [World.cell?_alloc_new]; rfl
  replace z0_3 := up_alloc (o := .cells #[.float .f64 x1, .float .f64 y1] 26) z0_3
  have z1_0 : ((w.alloc (.cells #[.float .f64 ma0, .float .f64 ia0, .float .f64 cx0, .float .f64 cy0] 28)).alloc (.cells #[.float .f64 x1, .float .f64 y1] 26)).cell? ⟨w.heap.size + 1, 0, none⟩ = some (.float .f64 x1) := by rw [← (show (w.alloc (.cells #[.float .f64 ma0, .float .f64 ia0, .float .f64 cx0, .float .f64 cy0] 28)).heap.size = w.heap.size + 1 by simp only [World.size_alloc]), World.cell?_alloc_new]; rfl
  have z1_1 : ((w.alloc (.cells #[.float .f64 ma0, .float .f64 ia0, .float .f64 cx0, .float .f64 cy0] 28)).alloc (.cells #[.float .f64 x1, .float .f64 y1] 26)).cell? ⟨w.heap.size + 1, 1, none⟩ = some (.float .f64 y1) := by rw [← (show (w.alloc (.cells #[.float .f64 ma0, .float .f64 ia0, .float .f64 cx0, .float .f64 cy0] 28)).heap.size = w.heap.size + 1 by simp only [World.size_alloc]), World.cell?_alloc_new]; rfl
  have B0 : Bel w ((w.alloc (.cells #[.float .f64 ma0, .float .f64 ia0, .float .f64 cx0, .float .f64 cy0] 28)).alloc (.cells #[.float .f64 x1, .float .f64 y1] 26)) := bl_alloc (bl_alloc (bl_refl w) _ _) _ _
  go_enter Try.func5, Try.ntmps5
  go_wp2_with (first | (go_at_call 7; refine (alive8 _).mono ?_; rintro e w' ⟨rfl, hb⟩; (first | have B := bl_trans B hb | have B := bl_trans (by repeat (first | exact B | apply bl_drewN)) hb | have B := bl_trans (by repeat (first | exact B | apply bl_drewN | apply bl_drew | apply bl_alloc | refine bl_set ?_ (by simp <;> omega))) hb | have B := hb); (try clear hc hf hz); obtain ⟨hc, hf⟩ := bcell B; have hz := B.size; (try simp at hz)) | (go_at_call 14; refine (mAbout_any _ _ _ _ _ _ _).mono ?_; rintro e w' ⟨r1, k1, hA1, rfl, hb⟩; (first | have B := bl_trans B hb | have B := bl_trans (by repeat (first | exact B | apply bl_drewN)) hb | have B := bl_trans (by repeat (first | exact B | apply bl_drewN | apply bl_drew | apply bl_alloc | refine bl_set ?_ (by simp <;> omega))) hb | have B := hb); (try clear hc hf hz); obtain ⟨hc, hf⟩ := bcell B; have hz := B.size; (try simp at hz)) | (go_at_call 15; refine (rAbout_any _ _ _ _ _ _ ocx0 ocy0 ox1 oy1 _).mono ?_; rintro e w' ⟨r2, k2, hA2, rfl, hb⟩; obtain ⟨s1, rfl⟩ := hA1.sm hA2; (first | have B := bl_trans B hb | have B := bl_trans (by repeat (first | exact B | apply bl_drewN)) hb | have B := bl_trans (by repeat (first | exact B | apply bl_drewN | apply bl_drew | apply bl_alloc | refine bl_set ?_ (by simp <;> omega))) hb | have B := hb); (try clear hc hf hz); obtain ⟨hc, hf⟩ := bcell B; have hz := B.size; (try simp at hz)) | (go_at_call 16; refine (mStill_any _ _ _ _ _).mono ?_; rintro e w' ⟨a1, b1, k3, hS1, rfl, hb⟩; (first | have B := bl_trans B hb | have B := bl_trans (by repeat (first | exact B | apply bl_drewN)) hb | have B := bl_trans (by repeat (first | exact B | apply bl_drewN | apply bl_drew | apply bl_alloc | refine bl_set ?_ (by simp <;> omega))) hb | have B := hb); (try clear hc hf hz); obtain ⟨hc, hf⟩ := bcell B; have hz := B.size; (try simp at hz)) | (go_at_call 17; refine (rStill_any _ _ _ _ ocx0 ocy0 _).mono ?_; rintro e w' ⟨a2, b2, k4, hS2, rfl, hb⟩; obtain ⟨s2, s3, rfl⟩ := hS1.sm hS2; (first | have B := bl_trans B hb | have B := bl_trans (by repeat (first | exact B | apply bl_drewN)) hb | have B := bl_trans (by repeat (first | exact B | apply bl_drewN | apply bl_drew | apply bl_alloc | refine bl_set ?_ (by simp <;> omega))) hb | have B := hb); (try clear hc hf hz); obtain ⟨hc, hf⟩ := bcell B; have hz := B.size; (try simp at hz)))
  have BF := bl_trans B0 B
  replace z0_0 := keep B z0_0
  replace z0_1 := keep B z0_1
  replace z0_2 := keep B z0_2
  replace z0_3 := keep B z0_3
  replace z1_0 := keep B z1_0
  replace z1_1 := keep B z1_1
  clear hc hf hz
  haveI := belBy_some w'
  have yz0_0 := belBy_cell (W := w') z0_0
  have yz0_1 := belBy_cell (W := w') z0_1
  have yz0_2 := belBy_cell (W := w') z0_2
  have yz0_3 := belBy_cell (W := w') z0_3
  have yz1_0 := belBy_cell (W := w') z1_0
  have yz1_1 := belBy_cell (W := w') z1_1
  refine wp_region_quiet_bel (by kernel_rfl) (by kernel_rfl) ?_
  repeat (go_big_quiet_step (first | (go_at_call 18; exact calls_bel (mChk_any _ _ _ _ _)) | (go_at_call 19; exact calls_bel (rChk_any _ _ _ _ ocx0 ocy0 _)) | (go_at_call 20; exact calls_bel (ris_t _ _ _ (by assumption)))))
  refine wpQuiet_nil ?_
  rintro _ ⟨nq, rfl⟩
  go_wp2
  go_ret
  exact ⟨rfl, bl_trans BF nq.h⟩

set_option maxRecDepth 100000 in
theorem lifted (os : Os) (started : os.Started) (H : Type) (enc : TypeId × Value → H) :
    ReturnsInHanded {} Try.checked os 5 .any (Rows.massOnesSpec.pre6 enc Try.prog Try.f5 Rows.massOnesRow.domain false) (Rows.massOnesSpec.post enc Try.prog Try.f5 false true false false) := by
  refine returnsInHanded_of_change (C := Try.checked) own started (by kernel_rfl) Try.func5
    (ChangeSpec.witness6 (enc := enc) (C := Try.checked) false ⟨#[], #[.agg #[.float .f64 0, .float .f64 0, .float .f64 0, .float .f64 0], .agg #[.float .f64 0, .float .f64 0]], []⟩ 8 (by kernel_rfl) (by kernel_rfl) (by kernel_rfl) (by kernel_rfl)) ?_
  intro W base args ds gs before hval0 hW hcnd _
  have hval : ∀ (j : Nat) t v, Try.f5.params[j]? = some t → args[j]? = some v → Value.okWide Try.prog W .any base t v := hval0
  have hW' := hW
  obtain ⟨p, q, hA0, hV, rfl, hfz, hnd⟩ := hW
  have hA : DataW.TrodAll enc Try.prog W 0 (fun _ => true) true Try.f5.params.toList args.toList ds p := hA0
  rw [Try.params5] at hA hval
  obtain ⟨v0, vs0, d0, ds0, p0, q0, hargs, rfl, rfl, h0, r0⟩ := trodAll_cons hA
  obtain ⟨v1, vs1, d1, ds1, p1, q1, rfl, rfl, rfl, h1, r1⟩ := trodAll_cons r0
  obtain ⟨rfl, rfl, rfl⟩ := trodAll_nil r1
  obtain rfl : args = #[v0, v1] := by cases args; simp_all
  obtain ⟨rfl, rfl⟩ := trodVars_none hV
  obtain ⟨ma0, ia0, cx0, cy0, rfl, rfl, rfl, wma0, wia0, wcx0, wcy0⟩ := open_mass (hval 0 28 v0 rfl rfl) h0
  obtain ⟨c1, k1, z1, u1, m1, rfl, rfl, rfl, hz1, hu1⟩ := open_agg2 Try.underlying26 (by kernel_rfl) cellsV (hval 1 26 v1 rfl rfl) h1
  obtain ⟨x1, e0, rfl, wx1⟩ := trod_fl Try.underlying24 hz1
  obtain ⟨y1, e1, rfl, wy1⟩ := trod_fl Try.underlying24 hu1
  simp at e0 e1
  subst e0 e1
  clear hA0 hval0
  simp only [List.append_nil] at hW'
  refine (walk ma0 ia0 cx0 cy0 x1 y1 (wf_f64 wma0) (wf_f64 wia0) (wf_f64 wcx0) (wf_f64 wcy0) (wf_f64 wx1) (wf_f64 wy1) W).mono fun e W' ⟨he, hg0⟩ => ?_
  have hg := hg0.grown
  subst he
  exact ⟨_, rfl, post_of_same (pa := []) (pv := []) hW' (fun _ _ _ => (trodAll_cons_mk (shut_bool Try.underlying4 _) trodAll_mk0)) (fun sp _ => (trodAll_cons_mk (shut_mass wma0 wia0 wcx0 wcy0) (trodAll_cons_mk (shut_agg2 (y0 := (.lit (.float .f64 x1), [])) (y1 := (.lit (.float .f64 y1), [])) Try.underlying26 (by kernel_rfl) cellsV ⟨1, by simp [DataW.trod, Try.underlying24, wx1]⟩ ⟨1, by simp [DataW.trod, Try.underlying24, wy1]⟩) trodAll_mk0))) (fun _ _ => rfl) rfl
    (hg.frame _) hg.2.1 (ok_one (by kernel_rfl) rfl (okWide_bool_mk Try.underlying4 _))⟩

theorem over : Rows.massOnesRow.holds Try.pinned (OpenSpec.ofChange Rows.massOnesSpec) :=
  OpenClaim.holds_of_wide 5 Try.f5 rfl rfl rfl rfl rfl rfl rfl ⟨rfl, rfl, rfl, rfl, rfl⟩ rfl rfl rfl rfl rfl (by kernel_rfl) Try.func5 (by kernel_rfl)
    (of_decide_eq_true (by kernel_rfl)) (by unfold Func.isWrapper; first | (rw [if_pos (by decide +kernel)]; kernel_rfl) | (rw [if_neg (by decide +kernel)]; exact ⟨rfl, rfl⟩))
    (fun os started H enc _ => lifted os started H enc)

theorem proved : Rows.MassOnesSaid :=
  over
#print axioms proved
end Go.Proofs.Ytnedolgeghbliaa.massOnes
