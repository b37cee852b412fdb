/-
  'tumblelaw05.BoxRay' (P5.7): of every box, place and way where it enters is the document's.
-/
import Derived.Test.YtdpbkfdccoogkaaRows
import Derived.Test.YtdpbkfdccoogkaaBmore
import Derived.Test.YtdpbkfdccoogkaaBalive
import Derived.WalkKit
import Derived.ProofKit
import Derived.OpenShut
import Derived.WalkLawsBesides
import Derived.WalkSpells
import Derived.Lib.SmallJoins
import Derived.Laws.Cover2
import Derived.Laws.Cover3
import Derived.Deep.RegionHeld3
namespace Go.Proofs.Ytdpbkfdccoogkaa.boxRay
open Go.ChangeShapes Go.WideShapes Go.ChangeAt Go.RowKit Go.Joins
set_option linter.unusedVariables false
set_option linter.unusedSimpArgs false

theorem own : ownKnob Try.prog.godebug = none := by kernel_rfl
theorem cellsV : Try.prog.cellsOf 24 = 2 := by kernel_rfl
theorem wf_f64 {x : Nat} (h : (Lit.float .f64 x).wf = true) : okK .f64 x := by
  rw [okK64]; simpa [Lit.wf] using h
theorem trod_fl {H : Type} {enc : TypeId × Value → H} {P : Program} {w : World} {base fuel : Nat} {spare : Nat → Bool} {held : Bool} {t : TypeId} {cs : List Value} {x : DataW H × List MemPlace} {k : FloatKind} (ht : P.underlying t = some (.float k)) (h : DataW.trod enc P w base spare held fuel t cs = some x) : ∃ n, cs = [.float k n] ∧ x = (.lit (.float k n), []) ∧ (Lit.float k n).wf = true := by
  cases fuel with
  | zero => simp [DataW.trod] at h
  | succ n =>
    unfold DataW.trod at h
    rw [ht] at h
    split at h <;> simp_all

theorem open_box {H : Type} {enc : TypeId × Value → H} {w : World} {base : Nat} {spare : Nat → Bool} {held : Bool} {r : Reach} {b0 : Nat} {v : Value} {d : DataW H} {p : List MemPlace}
    (hv : Value.okWide Try.prog w r b0 26 v) (h : DataW.Trod enc Try.prog w base spare held 26 v d p) :
    ∃ a b c e : Nat, v = .agg #[.float .f64 a, .float .f64 b, .float .f64 c, .float .f64 e] ∧ d = .agg [.agg [.lit (.float .f64 a), .lit (.float .f64 b)], .agg [.lit (.float .f64 c), .lit (.float .f64 e)]] ∧ p = [] ∧
      (Lit.float .f64 a).wf = true ∧ (Lit.float .f64 b).wf = true ∧ (Lit.float .f64 c).wf = true ∧ (Lit.float .f64 e).wf = true := by
  obtain ⟨cs, rfl, hsz⟩ := okWide_struct Try.underlying26 hv
  obtain ⟨c0, c1, c2, c3, rfl⟩ := array4 (hsz.trans (by kernel_rfl))
  obtain ⟨fuel, hf⟩ := h
  obtain ⟨y0, y1, n, hx, _, h0, h1⟩ := trod_struct2 Try.underlying26 hf
  simp [Value.cells, cellsV] at h0 h1
  obtain ⟨u0, u1, n1, hu, _, h2, h3⟩ := trod_struct2 Try.underlying24 h0
  obtain ⟨z0, z1, n2, hz, _, h4, h5⟩ := trod_struct2 Try.underlying24 h1
  simp [show Try.prog.cellsOf 22 = 1 by kernel_rfl] at h2 h3 h4 h5
  obtain ⟨a, e0, rfl, wa⟩ := trod_fl Try.underlying22 h2
  obtain ⟨b, e1, rfl, wb⟩ := trod_fl Try.underlying22 h3
  obtain ⟨c, e2, rfl, wc⟩ := trod_fl Try.underlying22 h4
  obtain ⟨e, e3, rfl, we⟩ := trod_fl Try.underlying22 h5
  simp at e0 e1 e2 e3
  subst e0 e1 e2 e3
  subst hu hz
  simp only [Prod.mk.injEq] at hx
  exact ⟨a, b, c, e, rfl, hx.1, hx.2, wa, wb, wc, we⟩
theorem shut_box {H : Type} {enc : TypeId × Value → H} {w : World} {base : Nat} {spare : Nat → Bool} {held : Bool} {a b c e : Nat} (wa : (Lit.float .f64 a).wf = true) (wb : (Lit.float .f64 b).wf = true) (wc : (Lit.float .f64 c).wf = true) (we : (Lit.float .f64 e).wf = true) :
    DataW.Trod enc Try.prog w base spare held 26 (.agg #[.float .f64 a, .float .f64 b, .float .f64 c, .float .f64 e]) (.agg [.agg [.lit (.float .f64 a), .lit (.float .f64 b)], .agg [.lit (.float .f64 c), .lit (.float .f64 e)]]) [] := by
  have cf : Try.prog.cellsOf 22 = 1 := by kernel_rfl
  have tv : ∀ x y : Nat, (Lit.float .f64 x).wf = true → (Lit.float .f64 y).wf = true → DataW.trod enc Try.prog w base spare held 2 24 [.float .f64 x, .float .f64 y] = some (.agg [.lit (.float .f64 x), .lit (.float .f64 y)], []) := fun x y wx wy =>
    trod_struct2_mk (y0 := (.lit (.float .f64 x), [])) (y1 := (.lit (.float .f64 y), [])) Try.underlying24 (by simp [cellsV]) (by simp [cf, DataW.trod, Try.underlying22, wx]) (by simp [cf, DataW.trod, Try.underlying22, wy])
  exact ⟨3, trod_struct2_mk (y0 := (.agg [.lit (.float .f64 a), .lit (.float .f64 b)], [])) (y1 := (.agg [.lit (.float .f64 c), .lit (.float .f64 e)], [])) Try.underlying26 (by simp [Value.cells]; kernel_rfl) (by simpa [Value.cells, cellsV] using tv a b wa wb) (by simpa [Value.cells, cellsV] using tv c e wc we)⟩
set_option maxRecDepth 100000 in
set_option maxHeartbeats 4000000 in
theorem walk (lx0 ly0 hx0 hy0 : Nat) (x1 y1 : Nat) (x2 y2 : Nat) (olx0 : okK .f64 lx0) (oly0 : okK .f64 ly0) (ohx0 : okK .f64 hx0) (ohy0 : okK .f64 hy0) (ox1 : okK .f64 x1) (oy1 : okK .f64 y1) (ox2 : okK .f64 x2) (oy2 : okK .f64 y2) (w : World) :
    Calls Try.prog 5 #[.agg #[.float .f64 lx0, .float .f64 ly0, .float .f64 hx0, .float .f64 hy0], .agg #[.float .f64 x1, .float .f64 y1], .agg #[.float .f64 x2, .float .f64 y2]] w fun e w' => e = .returned (.bool true) ∧ Bel w w' := by
  have al := World.cell?_alloc_some
  go_enter Try.func5, Try.ntmps5
  go_wp2_with (first | (go_at_call 9; refine (balive_any _).mono ?_; rintro e w1 ⟨rfl, hb⟩; have k_p0_0 := keep hb (a := ⟨w.heap.size, 0, none⟩) (v := .float .f64 lx0) (by first | assumption | go_keep | exact up_alloc (by go_keep) | exact (cell_own (by simp) _ _ _).1 | exact (cell_own (by simp) _ _ _).2 | exact up_alloc (cell_own (by simp) _ _ _).1 | exact up_alloc (cell_own (by simp) _ _ _).2); have k_p0_1 := keep hb (a := ⟨w.heap.size, 1, none⟩) (v := .float .f64 ly0) (by first | assumption | go_keep | exact up_alloc (by go_keep) | exact (cell_own (by simp) _ _ _).1 | exact (cell_own (by simp) _ _ _).2 | exact up_alloc (cell_own (by simp) _ _ _).1 | exact up_alloc (cell_own (by simp) _ _ _).2); have k_p0_2 := keep hb (a := ⟨w.heap.size, 2, none⟩) (v := .float .f64 hx0) (by first | assumption | go_keep | exact up_alloc (by go_keep) | exact (cell_own (by simp) _ _ _).1 | exact (cell_own (by simp) _ _ _).2 | exact up_alloc (cell_own (by simp) _ _ _).1 | exact up_alloc (cell_own (by simp) _ _ _).2); have k_p0_3 := keep hb (a := ⟨w.heap.size, 3, none⟩) (v := .float .f64 hy0) (by first | assumption | go_keep | exact up_alloc (by go_keep) | exact (cell_own (by simp) _ _ _).1 | exact (cell_own (by simp) _ _ _).2 | exact up_alloc (cell_own (by simp) _ _ _).1 | exact up_alloc (cell_own (by simp) _ _ _).2); have k_p1_0 := keep hb (a := ⟨w.heap.size + 1, 0, none⟩) (v := .float .f64 x1) (by first | assumption | go_keep | exact up_alloc (by go_keep) | exact (cell_own (by simp) _ _ _).1 | exact (cell_own (by simp) _ _ _).2 | exact up_alloc (cell_own (by simp) _ _ _).1 | exact up_alloc (cell_own (by simp) _ _ _).2); have k_p1_1 := keep hb (a := ⟨w.heap.size + 1, 1, none⟩) (v := .float .f64 y1) (by first | assumption | go_keep | exact up_alloc (by go_keep) | exact (cell_own (by simp) _ _ _).1 | exact (cell_own (by simp) _ _ _).2 | exact up_alloc (cell_own (by simp) _ _ _).1 | exact up_alloc (cell_own (by simp) _ _ _).2); have k_p2_0 := keep hb (a := ⟨w.heap.size + 1 + 1, 0, none⟩) (v := .float .f64 x2) (by first | assumption | go_keep | exact up_alloc (by go_keep) | exact (cell_own (by simp) _ _ _).1 | exact (cell_own (by simp) _ _ _).2 | exact up_alloc (cell_own (by simp) _ _ _).1 | exact up_alloc (cell_own (by simp) _ _ _).2); have k_p2_1 := keep hb (a := ⟨w.heap.size + 1 + 1, 1, none⟩) (v := .float .f64 y2) (by first | assumption | go_keep | exact up_alloc (by go_keep) | exact (cell_own (by simp) _ _ _).1 | exact (cell_own (by simp) _ _ _).2 | exact up_alloc (cell_own (by simp) _ _ _).1 | exact up_alloc (cell_own (by simp) _ _ _).2); have B := hide (bl_trans (a := w) (by repeat (first | exact unhide B | exact bl_refl _ | apply bl_drew | apply bl_drewN | apply bl_alloc | refine bl_set ?_ (by simp <;> omega))) hb); clear hb) | (go_at_call 35; refine (xRay_any _ _ _ _ _ _ _ _ _ ).mono ?_; rintro e w1 ⟨r1, b1, hR1, rfl, hb⟩; have k_p0_0 := keep hb (a := ⟨w.heap.size, 0, none⟩) (v := .float .f64 lx0) (by first | assumption | go_keep | exact up_alloc (by go_keep) | exact (cell_own (by simp) _ _ _).1 | exact (cell_own (by simp) _ _ _).2 | exact up_alloc (cell_own (by simp) _ _ _).1 | exact up_alloc (cell_own (by simp) _ _ _).2); have k_p0_1 := keep hb (a := ⟨w.heap.size, 1, none⟩) (v := .float .f64 ly0) (by first | assumption | go_keep | exact up_alloc (by go_keep) | exact (cell_own (by simp) _ _ _).1 | exact (cell_own (by simp) _ _ _).2 | exact up_alloc (cell_own (by simp) _ _ _).1 | exact up_alloc (cell_own (by simp) _ _ _).2); have k_p0_2 := keep hb (a := ⟨w.heap.size, 2, none⟩) (v := .float .f64 hx0) (by first | assumption | go_keep | exact up_alloc (by go_keep) | exact (cell_own (by simp) _ _ _).1 | exact (cell_own (by simp) _ _ _).2 | exact up_alloc (cell_own (by simp) _ _ _).1 | exact up_alloc (cell_own (by simp) _ _ _).2); have k_p0_3 := keep hb (a := ⟨w.heap.size, 3, none⟩) (v := .float .f64 hy0) (by first | assumption | go_keep | exact up_alloc (by go_keep) | exact (cell_own (by simp) _ _ _).1 | exact (cell_own (by simp) _ _ _).2 | exact up_alloc (cell_own (by simp) _ _ _).1 | exact up_alloc (cell_own (by simp) _ _ _).2); have k_p1_0 := keep hb (a := ⟨w.heap.size + 1, 0, none⟩) (v := .float .f64 x1) (by first | assumption | go_keep | exact up_alloc (by go_keep) | exact (cell_own (by simp) _ _ _).1 | exact (cell_own (by simp) _ _ _).2 | exact up_alloc (cell_own (by simp) _ _ _).1 | exact up_alloc (cell_own (by simp) _ _ _).2); have k_p1_1 := keep hb (a := ⟨w.heap.size + 1, 1, none⟩) (v := .float .f64 y1) (by first | assumption | go_keep | exact up_alloc (by go_keep) | exact (cell_own (by simp) _ _ _).1 | exact (cell_own (by simp) _ _ _).2 | exact up_alloc (cell_own (by simp) _ _ _).1 | exact up_alloc (cell_own (by simp) _ _ _).2); have k_p2_0 := keep hb (a := ⟨w.heap.size + 1 + 1, 0, none⟩) (v := .float .f64 x2) (by first | assumption | go_keep | exact up_alloc (by go_keep) | exact (cell_own (by simp) _ _ _).1 | exact (cell_own (by simp) _ _ _).2 | exact up_alloc (cell_own (by simp) _ _ _).1 | exact up_alloc (cell_own (by simp) _ _ _).2); have k_p2_1 := keep hb (a := ⟨w.heap.size + 1 + 1, 1, none⟩) (v := .float .f64 y2) (by first | assumption | go_keep | exact up_alloc (by go_keep) | exact (cell_own (by simp) _ _ _).1 | exact (cell_own (by simp) _ _ _).2 | exact up_alloc (cell_own (by simp) _ _ _).1 | exact up_alloc (cell_own (by simp) _ _ _).2); have B := hide (bl_trans (a := w) (by repeat (first | exact unhide B | exact bl_refl _ | apply bl_drew | apply bl_drewN | apply bl_alloc | refine bl_set ?_ (by simp <;> omega))) hb); clear hb) | (go_at_call 36; refine (rRay_any _ _ _ _ _ _ _ _ _ ).mono ?_; rintro e w1 ⟨r2, b2, hR2, rfl, hb⟩; obtain ⟨rfl, rfl⟩ := hR1.same hR2; have k_p0_0 := keep hb (a := ⟨w.heap.size, 0, none⟩) (v := .float .f64 lx0) (by first | assumption | go_keep | exact up_alloc (by go_keep) | exact (cell_own (by simp) _ _ _).1 | exact (cell_own (by simp) _ _ _).2 | exact up_alloc (cell_own (by simp) _ _ _).1 | exact up_alloc (cell_own (by simp) _ _ _).2); have k_p0_1 := keep hb (a := ⟨w.heap.size, 1, none⟩) (v := .float .f64 ly0) (by first | assumption | go_keep | exact up_alloc (by go_keep) | exact (cell_own (by simp) _ _ _).1 | exact (cell_own (by simp) _ _ _).2 | exact up_alloc (cell_own (by simp) _ _ _).1 | exact up_alloc (cell_own (by simp) _ _ _).2); have k_p0_2 := keep hb (a := ⟨w.heap.size, 2, none⟩) (v := .float .f64 hx0) (by first | assumption | go_keep | exact up_alloc (by go_keep) | exact (cell_own (by simp) _ _ _).1 | exact (cell_own (by simp) _ _ _).2 | exact up_alloc (cell_own (by simp) _ _ _).1 | exact up_alloc (cell_own (by simp) _ _ _).2); have k_p0_3 := keep hb (a := ⟨w.heap.size, 3, none⟩) (v := .float .f64 hy0) (by first | assumption | go_keep | exact up_alloc (by go_keep) | exact (cell_own (by simp) _ _ _).1 | exact (cell_own (by simp) _ _ _).2 | exact up_alloc (cell_own (by simp) _ _ _).1 | exact up_alloc (cell_own (by simp) _ _ _).2); have k_p1_0 := keep hb (a := ⟨w.heap.size + 1, 0, none⟩) (v := .float .f64 x1) (by first | assumption | go_keep | exact up_alloc (by go_keep) | exact (cell_own (by simp) _ _ _).1 | exact (cell_own (by simp) _ _ _).2 | exact up_alloc (cell_own (by simp) _ _ _).1 | exact up_alloc (cell_own (by simp) _ _ _).2); have k_p1_1 := keep hb (a := ⟨w.heap.size + 1, 1, none⟩) (v := .float .f64 y1) (by first | assumption | go_keep | exact up_alloc (by go_keep) | exact (cell_own (by simp) _ _ _).1 | exact (cell_own (by simp) _ _ _).2 | exact up_alloc (cell_own (by simp) _ _ _).1 | exact up_alloc (cell_own (by simp) _ _ _).2); have k_p2_0 := keep hb (a := ⟨w.heap.size + 1 + 1, 0, none⟩) (v := .float .f64 x2) (by first | assumption | go_keep | exact up_alloc (by go_keep) | exact (cell_own (by simp) _ _ _).1 | exact (cell_own (by simp) _ _ _).2 | exact up_alloc (cell_own (by simp) _ _ _).1 | exact up_alloc (cell_own (by simp) _ _ _).2); have k_p2_1 := keep hb (a := ⟨w.heap.size + 1 + 1, 1, none⟩) (v := .float .f64 y2) (by first | assumption | go_keep | exact up_alloc (by go_keep) | exact (cell_own (by simp) _ _ _).1 | exact (cell_own (by simp) _ _ _).2 | exact up_alloc (cell_own (by simp) _ _ _).1 | exact up_alloc (cell_own (by simp) _ _ _).2); have B := hide (bl_trans (a := w) (by repeat (first | exact unhide B | exact bl_refl _ | apply bl_drew | apply bl_drewN | apply bl_alloc | refine bl_set ?_ (by simp <;> omega))) hb); clear hb) | (go_at_call 27; refine (ris_true _ _ _ (smK_self _ _)).mono ?_; rintro e w1 ⟨rfl, rfl⟩))
  all_goals
    go_ret
    refine ⟨rfl, ?_⟩
    repeat (first | exact unhide B | exact bl_refl _ | apply bl_drew | apply bl_drewN | apply bl_alloc | refine bl_set ?_ (by simp <;> omega))

set_option maxRecDepth 100000 in
theorem lifted (os : Os) (started : os.Started) (H : Type) (enc : TypeId × Value → H) :
    ReturnsInHanded {} Try.checked os 5 .any (Rows.boxRaySpec.pre6 enc Try.prog Try.f5 Rows.boxRayRow.domain false) (Rows.boxRaySpec.post enc Try.prog Try.f5 false true false false) := by
  refine returnsInHanded_of_change (C := Try.checked) own started (by kernel_rfl) Try.func5
    (ChangeSpec.witness6 (enc := enc) (C := Try.checked) false ⟨#[], #[.agg #[.float .f64 0, .float .f64 0, .float .f64 0, .float .f64 0], .agg #[.float .f64 0, .float .f64 0], .agg #[.float .f64 0, .float .f64 0]], []⟩ 8 (by kernel_rfl) (by kernel_rfl) (by kernel_rfl) (by kernel_rfl)) ?_
  intro W base args ds gs before hval0 hW hcnd _
  have hval : ∀ (j : Nat) t v, Try.f5.params[j]? = some t → args[j]? = some v → Value.okWide Try.prog W .any base t v := hval0
  have hW' := hW
  obtain ⟨p, q, hA0, hV, rfl, hfz, hnd⟩ := hW
  have hA : DataW.TrodAll enc Try.prog W 0 (fun _ => true) true Try.f5.params.toList args.toList ds p := hA0
  rw [Try.params5] at hA hval
  obtain ⟨v0, vs0, d0, ds0, p0, q0, hargs, rfl, rfl, h0, r0⟩ := trodAll_cons hA
  obtain ⟨v1, vs1, d1, ds1, p1, q1, rfl, rfl, rfl, h1, r1⟩ := trodAll_cons r0
  obtain ⟨v2, vs2, d2, ds2, p2, q2, rfl, rfl, rfl, h2, r2⟩ := trodAll_cons r1
  obtain ⟨rfl, rfl, rfl⟩ := trodAll_nil r2
  obtain rfl : args = #[v0, v1, v2] := by cases args; simp_all
  obtain ⟨rfl, rfl⟩ := trodVars_none hV
  obtain ⟨lx0, ly0, hx0, hy0, rfl, rfl, rfl, wlx0, wly0, whx0, why0⟩ := open_box (hval 0 26 v0 rfl rfl) h0
  obtain ⟨c1, k1, z1, u1, m1, rfl, rfl, rfl, hz1, hu1⟩ := open_agg2 Try.underlying24 (by kernel_rfl) cellsV (hval 1 24 v1 rfl rfl) h1
  obtain ⟨x1, e0, rfl, wx1⟩ := trod_fl Try.underlying22 hz1
  obtain ⟨y1, e1, rfl, wy1⟩ := trod_fl Try.underlying22 hu1
  simp at e0 e1
  subst e0 e1
  obtain ⟨c2, k2, z2, u2, m2, rfl, rfl, rfl, hz2, hu2⟩ := open_agg2 Try.underlying24 (by kernel_rfl) cellsV (hval 2 24 v2 rfl rfl) h2
  obtain ⟨x2, e0, rfl, wx2⟩ := trod_fl Try.underlying22 hz2
  obtain ⟨y2, e1, rfl, wy2⟩ := trod_fl Try.underlying22 hu2
  simp at e0 e1
  subst e0 e1
  clear hA0 hval0
  simp only [List.append_nil] at hW'
  refine (walk lx0 ly0 hx0 hy0 x1 y1 x2 y2 (wf_f64 wlx0) (wf_f64 wly0) (wf_f64 whx0) (wf_f64 why0) (wf_f64 wx1) (wf_f64 wy1) (wf_f64 wx2) (wf_f64 wy2) W).mono fun e W' ⟨he, hg0⟩ => ?_
  have hg := hg0.grown
  subst he
  exact ⟨_, rfl, post_of_same (pa := []) (pv := []) hW' (fun _ _ _ => (trodAll_cons_mk (shut_bool Try.underlying4 _) trodAll_mk0)) (fun sp _ => (trodAll_cons_mk (shut_box wlx0 wly0 whx0 why0) (trodAll_cons_mk (shut_agg2 (y0 := (.lit (.float .f64 x1), [])) (y1 := (.lit (.float .f64 y1), [])) Try.underlying24 (by kernel_rfl) cellsV ⟨1, by simp [DataW.trod, Try.underlying22, wx1]⟩ ⟨1, by simp [DataW.trod, Try.underlying22, wy1]⟩) (trodAll_cons_mk (shut_agg2 (y0 := (.lit (.float .f64 x2), [])) (y1 := (.lit (.float .f64 y2), [])) Try.underlying24 (by kernel_rfl) cellsV ⟨1, by simp [DataW.trod, Try.underlying22, wx2]⟩ ⟨1, by simp [DataW.trod, Try.underlying22, wy2]⟩) trodAll_mk0)))) (fun _ _ => rfl) rfl
    (hg.frame _) hg.2.1 (ok_one (by kernel_rfl) rfl (okWide_bool_mk Try.underlying4 _))⟩

theorem over : Rows.boxRayRow.holds Try.pinned (OpenSpec.ofChange Rows.boxRaySpec) :=
  OpenClaim.holds_of_wide 5 Try.f5 rfl rfl rfl rfl rfl rfl rfl ⟨rfl, rfl, rfl, rfl, rfl⟩ rfl rfl rfl rfl rfl (by kernel_rfl) Try.func5 (by kernel_rfl)
    (of_decide_eq_true (by kernel_rfl)) (by unfold Func.isWrapper; first | (rw [if_pos (by decide +kernel)]; kernel_rfl) | (rw [if_neg (by decide +kernel)]; exact ⟨rfl, rfl⟩))
    (fun os started H enc _ => lifted os started H enc)

theorem proved : Rows.BoxRaySaid :=
  over
#print axioms proved
end Go.Proofs.Ytdpbkfdccoogkaa.boxRay
