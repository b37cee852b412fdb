/-
  'tumblelaw09.ClipWithin' is true of all planes and rows of points.
-/
import Derived.Test.YtpedpgpgcmhnoaaRows
import Derived.Test.YtpedpgpgcmhnoaaCy
import Derived.WalkKit
import Derived.ProofKit
import Derived.OpenShut
import Derived.WalkLawsBesides
import Derived.WalkSpells
import Derived.Lib.SmallJoins
import Derived.Laws.Cover2
import Derived.Laws.AppendOwn
import Derived.Laws.OwnMore
import Derived.Laws.AppendOwnNone
import Derived.Deep.RegionHeld3
import Derived.Deep.RegionWith
import Derived.Deep.SlicePairs
import Derived.SizedLaws
import Derived.Below
import Derived.Laws.StructEq
namespace Go.Proofs.Ytpedpgpgcmhnoaa.clipWithin
open Go.ChangeShapes Go.WideShapes Go.ChangeAt Go.RowKit Go.Joins
set_option linter.unusedVariables false
set_option linter.unusedSimpArgs false

theorem own : ownKnob Try.prog.godebug = none := by kernel_rfl
theorem laidOut : laidOutB Try.prog = true := by kernel_rfl
theorem wf_f64 {x : Nat} (h : (Lit.float .f64 x).wf = true) : okK .f64 x := by
  rw [okK64]; simpa [Lit.wf] using h
theorem trod_fl {H : Type} {enc : TypeId × Value → H} {P : Program} {w : World} {base fuel : Nat} {spare : Nat → Bool} {held : Bool} {t : TypeId} {cs : List Value} {x : DataW H × List MemPlace} {k : FloatKind} (ht : P.underlying t = some (.float k)) (h : DataW.trod enc P w base spare held fuel t cs = some x) : ∃ z, cs = [.float k z] ∧ x = (.lit (.float k z), []) ∧ (Lit.float k z).wf = true := by
  cases fuel with
  | zero => simp [DataW.trod] at h
  | succ n =>
    unfold DataW.trod at h
    rw [ht] at h
    split at h <;> simp_all

theorem cellsV : Try.prog.cellsOf 24 = 2 := by kernel_rfl
set_option maxRecDepth 100000 in
theorem open_plane {H : Type} {enc : TypeId × Value → H} {w : World} {base : Nat} {spare : Nat → Bool} {held : Bool} {r : Reach} {b0 : Nat} {v : Value} {d : DataW H} {p : List MemPlace}
    (hv : Value.okWide Try.prog w r b0 26 v) (h : DataW.Trod enc Try.prog w base spare held 26 v d p) :
    ∃ a b c : Nat, v = .agg #[.float .f64 a, .float .f64 b, .float .f64 c] ∧ d = .agg [.agg [.lit (.float .f64 a), .lit (.float .f64 b)], .lit (.float .f64 c)] ∧ p = [] ∧
      (Lit.float .f64 a).wf = true ∧ (Lit.float .f64 b).wf = true ∧ (Lit.float .f64 c).wf = true := by
  obtain ⟨cs, rfl, hsz⟩ := okWide_struct Try.underlying26 hv
  obtain ⟨c0, c1, c2, rfl⟩ := array3 (hsz.trans (by kernel_rfl))
  obtain ⟨fuel, hf⟩ := h
  obtain ⟨y0, y1, n, hx, _, h0, h1⟩ := trod_struct2 Try.underlying26 hf
  simp [Value.cells, cellsV, show Try.prog.cellsOf 22 = 1 by kernel_rfl] at h0 h1
  obtain ⟨z0, z1, n2, hz, _, h4, h5⟩ := trod_struct2 Try.underlying24 h0
  simp [show Try.prog.cellsOf 22 = 1 by kernel_rfl] at h4 h5
  obtain ⟨a, e0, rfl, wa⟩ := trod_fl Try.underlying22 h4
  obtain ⟨b, e1, rfl, wb⟩ := trod_fl Try.underlying22 h5
  obtain ⟨c, e2, rfl, wc⟩ := trod_fl Try.underlying22 h1
  simp at e0 e1 e2
  subst e0 e1 e2
  subst hz
  simp only [Prod.mk.injEq] at hx
  exact ⟨a, b, c, rfl, hx.1, hx.2, wa, wb, wc⟩
set_option maxRecDepth 100000 in
theorem shut_plane {H : Type} {enc : TypeId × Value → H} {w : World} {base : Nat} {spare : Nat → Bool} {held : Bool} {a b c : Nat} (wa : (Lit.float .f64 a).wf = true) (wb : (Lit.float .f64 b).wf = true) (wc : (Lit.float .f64 c).wf = true) :
    DataW.Trod enc Try.prog w base spare held 26 (.agg #[.float .f64 a, .float .f64 b, .float .f64 c]) (.agg [.agg [.lit (.float .f64 a), .lit (.float .f64 b)], .lit (.float .f64 c)]) [] := by
  have cf : Try.prog.cellsOf 22 = 1 := by kernel_rfl
  have tv : DataW.trod enc Try.prog w base spare held 2 24 [.float .f64 a, .float .f64 b] = some (.agg [.lit (.float .f64 a), .lit (.float .f64 b)], []) :=
    trod_struct2_mk (y0 := (.lit (.float .f64 a), [])) (y1 := (.lit (.float .f64 b), [])) Try.underlying24 (by simp [cellsV]) (by simp [cf, DataW.trod, Try.underlying22, wa]) (by simp [cf, DataW.trod, Try.underlying22, wb])
  exact ⟨3, trod_struct2_mk (y0 := (.agg [.lit (.float .f64 a), .lit (.float .f64 b)], [])) (y1 := (.lit (.float .f64 c), [])) Try.underlying26 (by simp [Value.cells]; kernel_rfl) (by simpa [Value.cells, cellsV] using tv) (by simp [cf, cellsV, Value.cells, DataW.trod, Try.underlying22, wc])⟩


set_option maxRecDepth 100000 in
set_option maxHeartbeats 16000000 in
theorem walk_any (nx ny fd : Nat) (o1 : okK .f64 nx) (o2 : okK .f64 ny) (o3 : okK .f64 fd) (V : Value) (n : Nat) (xs ys : Nat → Nat) (ax ay : Nat) (oa : okK .f64 ax) (ob : okK .f64 ay) (bx b_y : Nat) (oc : okK .f64 bx) (od : okK .f64 b_y) (w : World) (h : AnyS w V n xs ys) : Calls Try.prog 3 #[.agg #[.float .f64 nx, .float .f64 ny, .float .f64 fd], V, .agg #[.float .f64 ax, .float .f64 ay], .agg #[.float .f64 bx, .float .f64 b_y]] w fun e w' => e = .returned (.bool true) ∧ Bel w w' := by
  have hAny := h
  obtain ⟨a, cap, rfl, hcap, h3m, h4, h5, h6⟩ := h
  have z0_0 : (w.alloc (.cells #[.float .f64 nx, .float .f64 ny, .float .f64 fd] 26)).cell? ⟨w.heap.size, 0, none⟩ = some (.float .f64 nx) := by rw [World.cell?_alloc_new]; rfl
  replace z0_0 := up_alloc (o := .cells #[.float .f64 ax, .float .f64 ay] 24) z0_0
  replace z0_0 := up_alloc (o := .cells #[.float .f64 bx, .float .f64 b_y] 24) z0_0
  have z0_1 : (w.alloc (.cells #[.float .f64 nx, .float .f64 ny, .float .f64 fd] 26)).cell? ⟨w.heap.size, 1, none⟩ = some (.float .f64 ny) := by rw [World.cell?_alloc_new]; rfl
  replace z0_1 := up_alloc (o := .cells #[.float .f64 ax, .float .f64 ay] 24) z0_1
  replace z0_1 := up_alloc (o := .cells #[.float .f64 bx, .float .f64 b_y] 24) z0_1
  have z0_2 : (w.alloc (.cells #[.float .f64 nx, .float .f64 ny, .float .f64 fd] 26)).cell? ⟨w.heap.size, 2, none⟩ = some (.float .f64 fd) := by rw [World.cell?_alloc_new]; rfl
  replace z0_2 := up_alloc (o := .cells #[.float .f64 ax, .float .f64 ay] 24) z0_2
  replace z0_2 := up_alloc (o := .cells #[.float .f64 bx, .float .f64 b_y] 24) z0_2
  have z1_0 : ((w.alloc (.cells #[.float .f64 nx, .float .f64 ny, .float .f64 fd] 26)).alloc (.cells #[.float .f64 ax, .float .f64 ay] 24)).cell? ⟨w.heap.size + 1, 0, none⟩ = some (.float .f64 ax) := by rw [← (show (w.alloc (.cells #[.float .f64 nx, .float .f64 ny, .float .f64 fd] 26)).heap.size = w.heap.size + 1 by simp only [World.size_alloc]), World.cell?_alloc_new]; rfl
  replace z1_0 := up_alloc (o := .cells #[.float .f64 bx, .float .f64 b_y] 24) z1_0
  have z1_1 : ((w.alloc (.cells #[.float .f64 nx, .float .f64 ny, .float .f64 fd] 26)).alloc (.cells #[.float .f64 ax, .float .f64 ay] 24)).cell? ⟨w.heap.size + 1, 1, none⟩ = some (.float .f64 ay) := by rw [← (show (w.alloc (.cells #[.float .f64 nx, .float .f64 ny, .float .f64 fd] 26)).heap.size = w.heap.size + 1 by simp only [World.size_alloc]), World.cell?_alloc_new]; rfl
  replace z1_1 := up_alloc (o := .cells #[.float .f64 bx, .float .f64 b_y] 24) z1_1
  have z2_0 : (((w.alloc (.cells #[.float .f64 nx, .float .f64 ny, .float .f64 fd] 26)).alloc (.cells #[.float .f64 ax, .float .f64 ay] 24)).alloc (.cells #[.float .f64 bx, .float .f64 b_y] 24)).cell? ⟨w.heap.size + 1 + 1, 0, none⟩ = some (.float .f64 bx) := by rw [← (show ((w.alloc (.cells #[.float .f64 nx, .float .f64 ny, .float .f64 fd] 26)).alloc (.cells #[.float .f64 ax, .float .f64 ay] 24)).heap.size = w.heap.size + 1 + 1 by simp only [World.size_alloc]), World.cell?_alloc_new]; rfl
  have z2_1 : (((w.alloc (.cells #[.float .f64 nx, .float .f64 ny, .float .f64 fd] 26)).alloc (.cells #[.float .f64 ax, .float .f64 ay] 24)).alloc (.cells #[.float .f64 bx, .float .f64 b_y] 24)).cell? ⟨w.heap.size + 1 + 1, 1, none⟩ = some (.float .f64 b_y) := by rw [← (show ((w.alloc (.cells #[.float .f64 nx, .float .f64 ny, .float .f64 fd] 26)).alloc (.cells #[.float .f64 ax, .float .f64 ay] 24)).heap.size = w.heap.size + 1 + 1 by simp only [World.size_alloc]), World.cell?_alloc_new]; rfl
  have B0 : Bel w (((w.alloc (.cells #[.float .f64 nx, .float .f64 ny, .float .f64 fd] 26)).alloc (.cells #[.float .f64 ax, .float .f64 ay] 24)).alloc (.cells #[.float .f64 bx, .float .f64 b_y] 24)) := bl_alloc (bl_alloc (bl_alloc (bl_refl w) _ _) _ _) _ _
  cases hP : pnB (nx, ny, fd)
  · have hPe : pE (nx, ny, fd) = 90 := by unfold pE; rw [hP]; rfl
    go_enter Try.func3, Try.ntmps3
    go_wp2_with (first | (go_at_call 9; refine (awake9 _).mono ?_; rintro e w_1 ⟨rfl, hb⟩; replace z0_0 := keep hb z0_0; replace z0_1 := keep hb z0_1; replace z0_2 := keep hb z0_2; replace z1_0 := keep hb z1_0; replace z1_1 := keep hb z1_1; replace z2_0 := keep hb z2_0; replace z2_1 := keep hb z2_1; have B1 := bl_trans B0 hb; clear hb) | (go_at_call 10; refine (cchk_any nx ny fd _ o1 o2 o3).mono ?_; rintro e w_2 ⟨rfl, hb⟩; rw [hPe]; have B2 := bl_trans B1 hb; clear hb))
    go_ret
    exact ⟨rfl, B2⟩
  have hPe : pE (nx, ny, fd) = 0 := by unfold pE; rw [hP]; rfl
  have hfd := (pn_ok (p := (nx, ny, fd)) o1 o2 o3 hP).2.2
  have mo1 := bl_refl w
  have mo2 : finK .f64 (rgK .f64 fd) = true := (rg_abs hfd).1.2.1
  obtain ⟨mo3, mo4, mo5⟩ := one_max hfd w
  replace mo1 := mo3
  have okab : Oks (px [(ax, ay), (bx, b_y)]) (py [(ax, ay), (bx, b_y)]) 2 := fun i hi => by rcases (show i = 0 ∨ i = 1 by omega) with rfl | rfl; exact ⟨oa, ob⟩; exact ⟨oc, od⟩
  obtain ⟨n2, hn2⟩ : ∃ k, k = (segF (nx, ny, fd) (ax, ay) (bx, b_y)).length := ⟨_, rfl⟩
  have hsw := segF_swap (nx, ny, fd) (ax, ay) (bx, b_y)
  have SEG1 := fun W => seg_any nx ny fd ax ay bx b_y W o1 o2 o3 oa ob oc od
  have SEG2 := fun W => seg_any nx ny fd bx b_y ax ay W o1 o2 o3 oc od oa ob
  rw [hsw, far_swap] at SEG2
  rw [← hn2] at SEG1 SEG2
  obtain ⟨E0, hE0⟩ : ∃ k, k = farE (nx, ny, fd) [(ax, ay), (bx, b_y)] := ⟨_, rfl⟩
  rw [← hE0] at SEG1 SEG2
  have HN2 := hide hn2
  have HE0 := hide hE0
  clear hn2 hE0 hsw
  go_enter Try.func3, Try.ntmps3
  go_wp2_with (first | (go_at_call 9; refine (awake9 _).mono ?_; rintro e w_1 ⟨rfl, hb⟩; replace z0_0 := keep hb z0_0; replace z0_1 := keep hb z0_1; replace z0_2 := keep hb z0_2; replace z1_0 := keep hb z1_0; replace z1_1 := keep hb z1_1; replace z2_0 := keep hb z2_0; replace z2_1 := keep hb z2_1; have B1 := bl_trans B0 hb; clear hb) | (go_at_call 10; refine (cchk_any nx ny fd _ o1 o2 o3).mono ?_; rintro e w_1b ⟨rfl, hb⟩; rw [hPe]; replace z0_0 := keep hb z0_0; replace z0_1 := keep hb z0_1; replace z0_2 := keep hb z0_2; replace z1_0 := keep hb z1_0; replace z1_1 := keep hb z1_1; replace z2_0 := keep hb z2_0; replace z2_1 := keep hb z2_1; have B1b := bl_trans B1 hb; clear hb))
  refine wp_region_mono 9 rfl (fun i W v => match i with | 0 => v = .agg #[.float .f64 ax, .float .f64 ay] | 1 => v = .agg #[.float .f64 bx, .float .f64 b_y] | 2 => ∃ g, v = .slice (some ⟨g, 0, none⟩) 2 2 ∧ Sl W g 0 2 (px [(ax, ay), (bx, b_y)]) (py [(ax, ay), (bx, b_y)]) | 3 => v = .pointer (some ⟨w.heap.size, 2, none⟩) | 4 => v = .float .f64 fd | 5 => v = .float .f64 (rgK .f64 fd) | 6 => v = .float .f64 (mxK 4607182418800017408 (rgK .f64 fd)) | 7 => ∃ m, v = .float .f64 m ∧ GrI (px [(ax, ay), (bx, b_y)]) (py [(ax, ay), (bx, b_y)]) 2 (mxK 4607182418800017408 (rgK .f64 fd)) 2 m | 8 => ∃ m, v = .float .f64 m ∧ GrI (px [(ax, ay), (bx, b_y)]) (py [(ax, ay), (bx, b_y)]) 2 (mxK 4607182418800017408 (rgK .f64 fd)) 2 m | _ => False) ?A_wm (by kernel_rfl) (by kernel_rfl) ?hA_wm ?hmo_wm ?hq_wm ?ht_wm
  case hA_wm =>
    intro s
    simp only [putL, dstO, Act.put, List.getElem?_toArray, List.getElem?_cons_zero, List.getElem?_cons_succ, Option.bind_some, List.setIfInBounds_toArray, List.set_cons_zero, List.set_cons_succ, if_true]
    all_goals exact rfl
  case hmo_wm =>
    intro i W W' v hi hb h
    rcases (show i = 0 ∨ i = 1 ∨ i = 2 ∨ i = 3 ∨ i = 4 ∨ i = 5 ∨ i = 6 ∨ i = 7 ∨ i = 8 by omega) with rfl | rfl | rfl | rfl | rfl | rfl | rfl | rfl | rfl
    all_goals first | exact h | exact h.imp fun g hg => ⟨hg.1, hg.2.bel hb⟩
  case hq_wm =>
    intro i o hi ho s W hs hb K hK
    have uz0_0 := keep hb z0_0; have uz0_1 := keep hb z0_1; have uz0_2 := keep hb z0_2; have uz1_0 := keep hb z1_0; have uz1_1 := keep hb z1_1; have uz2_0 := keep hb z2_0; have uz2_1 := keep hb z2_1; have mx := fun (ts : Array TypeId) (t : TypeId) (w : World) => run_max_fin Try.prog ts t 4607182418800017408 (rgK .f64 fd) w (by decide +kernel) mo2
    rcases (show i = 0 ∨ i = 1 ∨ i = 2 ∨ i = 3 ∨ i = 4 ∨ i = 5 ∨ i = 6 ∨ i = 7 ∨ i = 8 by omega) with rfl | rfl | rfl | rfl | rfl | rfl | rfl | rfl | rfl
    · cases ho
      simp only [Act.put, List.setIfInBounds_toArray, List.set_cons_zero, List.set_cons_succ] at hK
      clear hs
      go_simp
      all_goals (try go_wp2_with (first | (go_at_call 12; refine (abs_any _ _ o3).mono ?_; rintro e w' ⟨rfl, rfl⟩) | (go_at_call 11; refine (gr_some _ _ 2 2 (px [(ax, ay), (bx, b_y)]) (py [(ax, ay), (bx, b_y)]) _ _ hg okab mo1.1 (by decide) (by decide) (by decide)).mono ?_; rintro e w' ⟨m, rfl, hGm, hb1⟩)))
      all_goals first | (refine hK.out _ _ ⟨_, rfl, by assumption⟩ (by assumption)) | (refine hK.out _ _ ⟨_, rfl, by assumption⟩ (bl_refl _)) | (refine hK.out _ _ ⟨_, rfl, sl_pts (L := [(ax, ay), (bx, b_y)]) rfl (by simp [prRow, px, py, pt, List.range_succ])⟩ (bl_alloc (bl_refl _) _ _)) | exact hK.out _ _ rfl (bl_refl _) | exact hK.out _ _ rfl (by assumption) | exact hK.out _ _ (by assumption) (by assumption)
    · cases ho
      simp only [Act.put, List.setIfInBounds_toArray, List.set_cons_zero, List.set_cons_succ] at hK
      clear hs
      go_simp
      all_goals (try go_wp2_with (first | (go_at_call 12; refine (abs_any _ _ o3).mono ?_; rintro e w' ⟨rfl, rfl⟩) | (go_at_call 11; refine (gr_some _ _ 2 2 (px [(ax, ay), (bx, b_y)]) (py [(ax, ay), (bx, b_y)]) _ _ hg okab mo1.1 (by decide) (by decide) (by decide)).mono ?_; rintro e w' ⟨m, rfl, hGm, hb1⟩)))
      all_goals first | (refine hK.out _ _ ⟨_, rfl, by assumption⟩ (by assumption)) | (refine hK.out _ _ ⟨_, rfl, by assumption⟩ (bl_refl _)) | (refine hK.out _ _ ⟨_, rfl, sl_pts (L := [(ax, ay), (bx, b_y)]) rfl (by simp [prRow, px, py, pt, List.range_succ])⟩ (bl_alloc (bl_refl _) _ _)) | exact hK.out _ _ rfl (bl_refl _) | exact hK.out _ _ rfl (by assumption) | exact hK.out _ _ (by assumption) (by assumption)
    · cases ho
      have e0 : s 0 = _ := hs 0 (by decide) (by kernel_rfl)
      have e1 : s 1 = _ := hs 1 (by decide) (by kernel_rfl)
      simp only [e0, e1] at hK ⊢
      simp only [Act.put, List.setIfInBounds_toArray, List.set_cons_zero, List.set_cons_succ] at hK
      clear hs
      go_simp
      all_goals (try go_wp2_with (first | (go_at_call 12; refine (abs_any _ _ o3).mono ?_; rintro e w' ⟨rfl, rfl⟩) | (go_at_call 11; refine (gr_some _ _ 2 2 (px [(ax, ay), (bx, b_y)]) (py [(ax, ay), (bx, b_y)]) _ _ hg okab mo1.1 (by decide) (by decide) (by decide)).mono ?_; rintro e w' ⟨m, rfl, hGm, hb1⟩)))
      all_goals first | (refine hK.out _ _ ⟨_, rfl, by assumption⟩ (by assumption)) | (refine hK.out _ _ ⟨_, rfl, by assumption⟩ (bl_refl _)) | (refine hK.out _ _ ⟨_, rfl, sl_pts (L := [(ax, ay), (bx, b_y)]) rfl (by simp [prRow, px, py, pt, List.range_succ])⟩ (bl_alloc (bl_refl _) _ _)) | exact hK.out _ _ rfl (bl_refl _) | exact hK.out _ _ rfl (by assumption) | exact hK.out _ _ (by assumption) (by assumption)
    · cases ho
      simp only [Act.put, List.setIfInBounds_toArray, List.set_cons_zero, List.set_cons_succ] at hK
      clear hs
      go_simp
      all_goals (try go_wp2_with (first | (go_at_call 12; refine (abs_any _ _ o3).mono ?_; rintro e w' ⟨rfl, rfl⟩) | (go_at_call 11; refine (gr_some _ _ 2 2 (px [(ax, ay), (bx, b_y)]) (py [(ax, ay), (bx, b_y)]) _ _ hg okab mo1.1 (by decide) (by decide) (by decide)).mono ?_; rintro e w' ⟨m, rfl, hGm, hb1⟩)))
      all_goals first | (refine hK.out _ _ ⟨_, rfl, by assumption⟩ (by assumption)) | (refine hK.out _ _ ⟨_, rfl, by assumption⟩ (bl_refl _)) | (refine hK.out _ _ ⟨_, rfl, sl_pts (L := [(ax, ay), (bx, b_y)]) rfl (by simp [prRow, px, py, pt, List.range_succ])⟩ (bl_alloc (bl_refl _) _ _)) | exact hK.out _ _ rfl (bl_refl _) | exact hK.out _ _ rfl (by assumption) | exact hK.out _ _ (by assumption) (by assumption)
    · cases ho
      have e3 : s 3 = _ := hs 3 (by decide) (by kernel_rfl)
      simp only [e3] at hK ⊢
      simp only [Act.put, List.setIfInBounds_toArray, List.set_cons_zero, List.set_cons_succ] at hK
      clear hs
      go_simp
      all_goals (try go_wp2_with (first | (go_at_call 12; refine (abs_any _ _ o3).mono ?_; rintro e w' ⟨rfl, rfl⟩) | (go_at_call 11; refine (gr_some _ _ 2 2 (px [(ax, ay), (bx, b_y)]) (py [(ax, ay), (bx, b_y)]) _ _ hg okab mo1.1 (by decide) (by decide) (by decide)).mono ?_; rintro e w' ⟨m, rfl, hGm, hb1⟩)))
      all_goals first | (refine hK.out _ _ ⟨_, rfl, by assumption⟩ (by assumption)) | (refine hK.out _ _ ⟨_, rfl, by assumption⟩ (bl_refl _)) | (refine hK.out _ _ ⟨_, rfl, sl_pts (L := [(ax, ay), (bx, b_y)]) rfl (by simp [prRow, px, py, pt, List.range_succ])⟩ (bl_alloc (bl_refl _) _ _)) | exact hK.out _ _ rfl (bl_refl _) | exact hK.out _ _ rfl (by assumption) | exact hK.out _ _ (by assumption) (by assumption)
    · cases ho
      have e4 : s 4 = _ := hs 4 (by decide) (by kernel_rfl)
      simp only [e4] at hK ⊢
      simp only [Act.put, List.setIfInBounds_toArray, List.set_cons_zero, List.set_cons_succ] at hK
      clear hs
      go_simp
      all_goals (try go_wp2_with (first | (go_at_call 12; refine (abs_any _ _ o3).mono ?_; rintro e w' ⟨rfl, rfl⟩) | (go_at_call 11; refine (gr_some _ _ 2 2 (px [(ax, ay), (bx, b_y)]) (py [(ax, ay), (bx, b_y)]) _ _ hg okab mo1.1 (by decide) (by decide) (by decide)).mono ?_; rintro e w' ⟨m, rfl, hGm, hb1⟩)))
      all_goals first | (refine hK.out _ _ ⟨_, rfl, by assumption⟩ (by assumption)) | (refine hK.out _ _ ⟨_, rfl, by assumption⟩ (bl_refl _)) | (refine hK.out _ _ ⟨_, rfl, sl_pts (L := [(ax, ay), (bx, b_y)]) rfl (by simp [prRow, px, py, pt, List.range_succ])⟩ (bl_alloc (bl_refl _) _ _)) | exact hK.out _ _ rfl (bl_refl _) | exact hK.out _ _ rfl (by assumption) | exact hK.out _ _ (by assumption) (by assumption)
    · cases ho
      have e5 : s 5 = _ := hs 5 (by decide) (by kernel_rfl)
      simp only [e5] at hK ⊢
      simp only [Act.put, List.setIfInBounds_toArray, List.set_cons_zero, List.set_cons_succ] at hK
      clear hs
      go_simp
      all_goals (try go_wp2_with (first | (go_at_call 12; refine (abs_any _ _ o3).mono ?_; rintro e w' ⟨rfl, rfl⟩) | (go_at_call 11; refine (gr_some _ _ 2 2 (px [(ax, ay), (bx, b_y)]) (py [(ax, ay), (bx, b_y)]) _ _ hg okab mo1.1 (by decide) (by decide) (by decide)).mono ?_; rintro e w' ⟨m, rfl, hGm, hb1⟩)))
      all_goals first | (refine hK.out _ _ ⟨_, rfl, by assumption⟩ (by assumption)) | (refine hK.out _ _ ⟨_, rfl, by assumption⟩ (bl_refl _)) | (refine hK.out _ _ ⟨_, rfl, sl_pts (L := [(ax, ay), (bx, b_y)]) rfl (by simp [prRow, px, py, pt, List.range_succ])⟩ (bl_alloc (bl_refl _) _ _)) | exact hK.out _ _ rfl (bl_refl _) | exact hK.out _ _ rfl (by assumption) | exact hK.out _ _ (by assumption) (by assumption)
    · cases ho
      obtain ⟨g, e2, hg⟩ := hs 2 (by decide) (by kernel_rfl)
      have e6 : s 6 = _ := hs 6 (by decide) (by kernel_rfl)
      simp only [e2, e6] at hK ⊢
      simp only [Act.put, List.setIfInBounds_toArray, List.set_cons_zero, List.set_cons_succ] at hK
      clear hs
      go_simp
      all_goals (try go_wp2_with (first | (go_at_call 12; refine (abs_any _ _ o3).mono ?_; rintro e w' ⟨rfl, rfl⟩) | (go_at_call 11; refine (gr_some _ _ 2 2 (px [(ax, ay), (bx, b_y)]) (py [(ax, ay), (bx, b_y)]) _ _ hg okab mo1.1 (by decide) (by decide) (by decide)).mono ?_; rintro e w' ⟨m, rfl, hGm, hb1⟩)))
      all_goals first | (refine hK.out _ _ ⟨_, rfl, by assumption⟩ (by assumption)) | (refine hK.out _ _ ⟨_, rfl, by assumption⟩ (bl_refl _)) | (refine hK.out _ _ ⟨_, rfl, sl_pts (L := [(ax, ay), (bx, b_y)]) rfl (by simp [prRow, px, py, pt, List.range_succ])⟩ (bl_alloc (bl_refl _) _ _)) | exact hK.out _ _ rfl (bl_refl _) | exact hK.out _ _ rfl (by assumption) | exact hK.out _ _ (by assumption) (by assumption)
    · cases ho
      obtain ⟨m, e7, hm⟩ := hs 7 (by decide) (by kernel_rfl)
      simp only [e7] at hK ⊢
      simp only [Act.put, List.setIfInBounds_toArray, List.set_cons_zero, List.set_cons_succ] at hK
      clear hs
      go_simp
      all_goals (try go_wp2_with (first | (go_at_call 12; refine (abs_any _ _ o3).mono ?_; rintro e w' ⟨rfl, rfl⟩) | (go_at_call 11; refine (gr_some _ _ 2 2 (px [(ax, ay), (bx, b_y)]) (py [(ax, ay), (bx, b_y)]) _ _ hg okab mo1.1 (by decide) (by decide) (by decide)).mono ?_; rintro e w' ⟨m, rfl, hGm, hb1⟩)))
      all_goals first | (refine hK.out _ _ ⟨_, rfl, by assumption⟩ (by assumption)) | (refine hK.out _ _ ⟨_, rfl, by assumption⟩ (bl_refl _)) | (refine hK.out _ _ ⟨_, rfl, sl_pts (L := [(ax, ay), (bx, b_y)]) rfl (by simp [prRow, px, py, pt, List.range_succ])⟩ (bl_alloc (bl_refl _) _ _)) | exact hK.out _ _ rfl (bl_refl _) | exact hK.out _ _ rfl (by assumption) | exact hK.out _ _ (by assumption) (by assumption)
  case ht_wm =>
    intro s w_2 hs hb2
    have e0 : s 0 = _ := hs 0 (by decide)
    have e1 : s 1 = _ := hs 1 (by decide)
    obtain ⟨_, e2, _⟩ := hs 2 (by decide)
    have e3 : s 3 = _ := hs 3 (by decide)
    have e4 : s 4 = _ := hs 4 (by decide)
    have e5 : s 5 = _ := hs 5 (by decide)
    have e6 : s 6 = _ := hs 6 (by decide)
    obtain ⟨_, e7, _⟩ := hs 7 (by decide)
    obtain ⟨m, e8, hm⟩ := hs 8 (by decide)
    simp only [e0, e1, e2, e3, e4, e5, e6, e7, e8]
    clear hs e0 e1 e2 e3 e4 e5 e6 e7 e8
    replace z0_0 := keep hb2 z0_0; replace z0_1 := keep hb2 z0_1; replace z0_2 := keep hb2 z0_2; replace z1_0 := keep hb2 z1_0; replace z1_1 := keep hb2 z1_1; replace z2_0 := keep hb2 z2_0; replace z2_1 := keep hb2 z2_1
    have B2 := bl_trans B1b hb2
    clear hb2 B1 B1b
    have ne0 : (E0 != E0) = false := by simp
    go_wp2_with (first | (go_at_call 13; with_reducible refine (SEG1 _).mono ?_; rintro e w_3 ⟨sa, fa, rfl, hS1, hb⟩; replace z0_0 := keep hb z0_0; replace z0_1 := keep hb z0_1; replace z0_2 := keep hb z0_2; replace z1_0 := keep hb z1_0; replace z1_1 := keep hb z1_1; replace z2_0 := keep hb z2_0; replace z2_1 := keep hb z2_1; have B3 := bl_trans B2 hb; clear hb) | (go_at_call 13; with_reducible refine (SEG2 _).mono ?_; rintro e w_4 ⟨sa2, fa2, rfl, hS2, hb⟩; replace z0_0 := keep hb z0_0; replace z0_1 := keep hb z0_1; replace z0_2 := keep hb z0_2; replace z1_0 := keep hb z1_0; replace z1_1 := keep hb z1_1; replace z2_0 := keep hb z2_0; replace z2_1 := keep hb z2_1; replace hS1 := hS1.bel hb; have B4 := bl_trans B3 hb; clear hb))
    go_loopw [17] (fun i' wr => ∃ kx : Nat, kx ≤ n2 ∧ i' = .int .i64 kx ∧ Bel w_4 wr) (fun i' _ => n2 - (intOf i').toNat)
    case atStart => exact ⟨0, by omega, rfl, bl_refl _⟩
    case round =>
      obtain ⟨kx, hk, rfl, hBr⟩ := hrel
      by_cases hlt : kx < n2
      · obtain ⟨h2, h0, hpair⟩ := segF_pair (p := (nx, ny, fd)) (a := (ax, ay)) (b := (bx, b_y)) (i := kx) (by rw [← unhide HN2]; exact hlt)
        have hn22 : n2 = 2 := (unhide HN2).trans h2
        subst hn22
        obtain ⟨_, hfin⟩ := farE_bd h0 o1 o2 o3 (fun q hq => by simp at hq; rcases hq with rfl | rfl; exact ⟨oa, ob⟩; exact ⟨oc, od⟩)
        have hgd : Gd (px [(ax, ay), (bx, b_y)]) (py [(ax, ay), (bx, b_y)]) 2 := fun i hi => by rcases (show i = 0 ∨ i = 1 by omega) with rfl | rfl; exact hfin (ax, ay) (by simp); exact hfin (bx, b_y) (by simp)
        obtain ⟨mb1, mb0, mb5⟩ := hm.2 hgd mo3
        have mb2 : 1 ≤ rv m := Rat.le_trans mo4 mb0
        have mb3 : ab (rv fd) ≤ rv m := Rat.le_trans mo5 mb0
        have mga : Grt m (ax, ay) := mb5 0 (by decide)
        have mgb : Grt m (bx, b_y) := mb5 1 (by decide)
        rcases (show kx = 0 ∨ kx = 1 by omega) with rfl | rfl
        · obtain ⟨g, q, rfl, rfl, s0_0, s1_0, f0_0⟩ := hS1 0 (by rw [h2]; decide)
          obtain ⟨g', q', rfl, rfl, _, _, f1_0⟩ := hS2 1 (by rw [segF_swap, h2]; decide)
          have s0 := keep hBr s0_0
          have s1 := keep hBr s1_0
          have f0 := keep hBr f0_0
          have f1 := keep hBr f1_0
          obtain ⟨hin1, hin2⟩ := segS_in (i := 0) (p := (nx, ny, fd)) (a := (ax, ay)) (b := (bx, b_y)) o1 o2 o3 ⟨oa, ob⟩ ⟨oc, od⟩ hP mb1 mb2 mb3 mga mgb (by rw [h2]; decide)
          clear h2 h0
          have IN : ∀ W, Calls Try.prog 14 #[.agg #[.float .f64 nx, .float .f64 ny, .float .f64 fd], .agg #[.float .f64 (px (segS (nx, ny, fd) (ax, ay) (bx, b_y)) 0), .float .f64 (py (segS (nx, ny, fd) (ax, ay) (bx, b_y)) 0)], .float .f64 m] W fun e w' => e = .returned (.bool true) ∧ Bel W w' := fun W => by
            have := in_d W (pn_bd o1 o2 o3 hP) hin1 (by decide) mb1
            rwa [hin2] at this
          have xz0_0 := keep hBr z0_0
          have xz0_1 := keep hBr z0_1
          have xz0_2 := keep hBr z0_2
          haveI := belBy_some wr
          have yz0_0 := belBy_cell xz0_0
          have yz0_1 := belBy_cell xz0_1
          have yz0_2 := belBy_cell xz0_2
          simp only [Nat.zero_mul, Nat.zero_add, Nat.one_mul] at s0 s1
          have ys0 := belBy_cell s0
          have ys1 := belBy_cell s1
          rcases hpair with ⟨hF, hG⟩ | ⟨hF, hG⟩ | ⟨hF, hG⟩
          · have y0 := belBy_cell (show wr.cell? ⟨q, 0, none⟩ = some (.int .i64 2) by rw [← hF]; exact f0)
            have y1 := belBy_cell (show wr.cell? ⟨q', 1, none⟩ = some (.int .i64 2) by rw [← hG]; exact f1)
            have t1 : wr.cell? ⟨q', 1, none⟩ = some (.int .i64 2) := by rw [← hG]; exact f1
            clear f0 f1 hF hG
            go_wp2
            refine wp_region_quiet_bel (by kernel_rfl) (by kernel_rfl) ?_
            repeat (go_big_quiet_step (first | (go_at_call 14; exact calls_bel (IN _))))
            refine wpQuiet_nil ?_
            rintro _ ⟨nq, rfl⟩
            go_wp2
            exact ⟨⟨1, by omega, by go_num, bl_trans hBr nq.h⟩, by simp [intOf]⟩
          · have y0 := belBy_cell (show wr.cell? ⟨q, 0, none⟩ = some (.int .i64 0) by rw [← hF]; exact f0)
            have y1 := belBy_cell (show wr.cell? ⟨q', 1, none⟩ = some (.int .i64 1) by rw [← hG]; exact f1)
            have t1 : wr.cell? ⟨q', 1, none⟩ = some (.int .i64 1) := by rw [← hG]; exact f1
            clear f0 f1 hF hG
            go_wp2
            refine wp_region_quiet_bel (by kernel_rfl) (by kernel_rfl) ?_
            repeat (go_big_quiet_step (first | (go_at_call 14; exact calls_bel (IN _))))
            refine wpQuiet_nil ?_
            rintro _ ⟨nq, rfl⟩
            go_wp2
            exact ⟨⟨1, by omega, by go_num, bl_trans hBr nq.h⟩, by simp [intOf]⟩
          · have y0 := belBy_cell (show wr.cell? ⟨q, 0, none⟩ = some (.int .i64 1) by rw [← hF]; exact f0)
            have y1 := belBy_cell (show wr.cell? ⟨q', 1, none⟩ = some (.int .i64 0) by rw [← hG]; exact f1)
            have t1 : wr.cell? ⟨q', 1, none⟩ = some (.int .i64 0) := by rw [← hG]; exact f1
            clear f0 f1 hF hG
            go_wp2
            refine wp_region_quiet_bel (by kernel_rfl) (by kernel_rfl) ?_
            repeat (go_big_quiet_step (first | (go_at_call 14; exact calls_bel (IN _))))
            refine wpQuiet_nil ?_
            rintro _ ⟨nq, rfl⟩
            go_wp2
            exact ⟨⟨1, by omega, by go_num, bl_trans hBr nq.h⟩, by simp [intOf]⟩
        · obtain ⟨g, q, rfl, rfl, s0_0, s1_0, f0_0⟩ := hS1 1 (by rw [h2]; decide)
          obtain ⟨g', q', rfl, rfl, _, _, f1_0⟩ := hS2 0 (by rw [segF_swap, h2]; decide)
          have s0 := keep hBr s0_0
          have s1 := keep hBr s1_0
          have f0 := keep hBr f0_0
          have f1 := keep hBr f1_0
          obtain ⟨hin1, hin2⟩ := segS_in (i := 1) (p := (nx, ny, fd)) (a := (ax, ay)) (b := (bx, b_y)) o1 o2 o3 ⟨oa, ob⟩ ⟨oc, od⟩ hP mb1 mb2 mb3 mga mgb (by rw [h2]; decide)
          clear h2 h0
          have IN : ∀ W, Calls Try.prog 14 #[.agg #[.float .f64 nx, .float .f64 ny, .float .f64 fd], .agg #[.float .f64 (px (segS (nx, ny, fd) (ax, ay) (bx, b_y)) 1), .float .f64 (py (segS (nx, ny, fd) (ax, ay) (bx, b_y)) 1)], .float .f64 m] W fun e w' => e = .returned (.bool true) ∧ Bel W w' := fun W => by
            have := in_d W (pn_bd o1 o2 o3 hP) hin1 (by decide) mb1
            rwa [hin2] at this
          have xz0_0 := keep hBr z0_0
          have xz0_1 := keep hBr z0_1
          have xz0_2 := keep hBr z0_2
          haveI := belBy_some wr
          have yz0_0 := belBy_cell xz0_0
          have yz0_1 := belBy_cell xz0_1
          have yz0_2 := belBy_cell xz0_2
          simp only [Nat.zero_mul, Nat.zero_add, Nat.one_mul] at s0 s1
          have ys0 := belBy_cell s0
          have ys1 := belBy_cell s1
          rcases hpair with ⟨hF, hG⟩ | ⟨hF, hG⟩ | ⟨hF, hG⟩
          · have y0 := belBy_cell (show wr.cell? ⟨q, 1, none⟩ = some (.int .i64 2) by rw [← hF]; exact f0)
            have y1 := belBy_cell (show wr.cell? ⟨q', 0, none⟩ = some (.int .i64 2) by rw [← hG]; exact f1)
            have t1 : wr.cell? ⟨q', 0, none⟩ = some (.int .i64 2) := by rw [← hG]; exact f1
            clear f0 f1 hF hG
            go_wp2
            refine wp_region_quiet_bel (by kernel_rfl) (by kernel_rfl) ?_
            repeat (go_big_quiet_step (first | (go_at_call 14; exact calls_bel (IN _))))
            refine wpQuiet_nil ?_
            rintro _ ⟨nq, rfl⟩
            go_wp2
            exact ⟨⟨2, by omega, by go_num, bl_trans hBr nq.h⟩, by simp [intOf]⟩
          · have y0 := belBy_cell (show wr.cell? ⟨q, 1, none⟩ = some (.int .i64 0) by rw [← hF]; exact f0)
            have y1 := belBy_cell (show wr.cell? ⟨q', 0, none⟩ = some (.int .i64 1) by rw [← hG]; exact f1)
            have t1 : wr.cell? ⟨q', 0, none⟩ = some (.int .i64 1) := by rw [← hG]; exact f1
            clear f0 f1 hF hG
            go_wp2
            refine wp_region_quiet_bel (by kernel_rfl) (by kernel_rfl) ?_
            repeat (go_big_quiet_step (first | (go_at_call 14; exact calls_bel (IN _))))
            refine wpQuiet_nil ?_
            rintro _ ⟨nq, rfl⟩
            go_wp2
            exact ⟨⟨2, by omega, by go_num, bl_trans hBr nq.h⟩, by simp [intOf]⟩
          · have y0 := belBy_cell (show wr.cell? ⟨q, 1, none⟩ = some (.int .i64 1) by rw [← hF]; exact f0)
            have y1 := belBy_cell (show wr.cell? ⟨q', 0, none⟩ = some (.int .i64 0) by rw [← hG]; exact f1)
            have t1 : wr.cell? ⟨q', 0, none⟩ = some (.int .i64 0) := by rw [← hG]; exact f1
            clear f0 f1 hF hG
            go_wp2
            refine wp_region_quiet_bel (by kernel_rfl) (by kernel_rfl) ?_
            repeat (go_big_quiet_step (first | (go_at_call 14; exact calls_bel (IN _))))
            refine wpQuiet_nil ?_
            rintro _ ⟨nq, rfl⟩
            go_wp2
            exact ⟨⟨2, by omega, by go_num, bl_trans hBr nq.h⟩, by simp [intOf]⟩
      · have hkn : n2 = kx := by omega
        subst hkn
        replace B4 := bl_trans B4 hBr
        replace z0_0 := keep hBr z0_0; replace z0_1 := keep hBr z0_1; replace z0_2 := keep hBr z0_2; replace z1_0 := keep hBr z1_0; replace z1_1 := keep hBr z1_1; replace z2_0 := keep hBr z2_0; replace z2_1 := keep hBr z2_1
        clear hS1 hS2 SEG1 SEG2 hm
        have hn1 := h3m
        by_cases hc : chkE xs ys n = 0
        · have hE : pgE (nx, ny, fd) xs ys n = 0 := by unfold pgE; rw [if_pos hP]; exact hc
          have eL : pgL (nx, ny, fd) xs ys n = (leftL (nx, ny, fd) (lst xs ys n)) := by unfold pgL; rw [if_pos hE]
          obtain ⟨hGd, h3, h64, hout⟩ := chk_ok h5 hc
          rcases h6 with h60 | ⟨h60, b, off, rfl, hs0⟩
          · omega
          have POLY := fun W (hW : Bel w W) => poly_any nx ny fd (.slice (some ⟨b, off, none⟩) n cap) n xs ys W o1 o2 o3 ⟨_, _, rfl, hcap, h3m, h4, h5, .inr ⟨h60, b, off, rfl, hs0.bel hW⟩⟩
          have GREAT := fun W (hW : Bel w W) => gr_some b off n cap xs ys (mxK 4607182418800017408 (rgK .f64 fd)) W (hs0.bel hW) h5 mo1.1 h60 h3m hcap
          rw [hE, eL] at POLY
          have hlB := lst_bd hGd
          have hptL : ∀ i, i < n → pt (lst xs ys n) i = (xs i, ys i) := fun i hi => Prod.ext (lst_x xs ys n i hi) (lst_y xs ys n i hi)
          have hfar0 : ∀ i, i < n → farE (nx, ny, fd) [(xs i, ys i)] = 0 := fun i hi => by
            refine cwE_ok hP fun k hk => ?_
            rcases (show k = 0 by simp at hk; omega) with rfl
            have h0 := hc
            unfold chkE at h0
            split at h0
            · rename_i hpl
              unfold plcE at hpl
              split at hpl
              · cases hpl
              · split at hpl
                · rename_i hr; exact allB_iff.1 hr i hi
                · cases hpl
            · rename_i hpl; exact absurd h0 hpl
          have hfar := hide hfar0
          clear hfar0
          have hnum : Nums (rowN (nx, ny, fd) (lst xs ys n) (lst xs ys n).length) := ps_nums (rowN_bd (pn_bd o1 o2 o3 hP) hlB (by decide) _ (Nat.le_refl _))
          have hlen2 := leftL_len (nx, ny, fd) (lst xs ys n)
          rw [lst_len] at hlen2
          have hlen3 : (leftL (nx, ny, fd) (lst xs ys n)).length = 0 ∨ 3 ≤ (leftL (nx, ny, fd) (lst xs ys n)).length := by unfold leftL; split; exact .inl rfl; exact .inr (by omega)
          obtain ⟨mL, hmL⟩ : ∃ k, k = (leftL (nx, ny, fd) (lst xs ys n)).length := ⟨_, rfl⟩
          rw [← hmL] at POLY hlen2 hlen3
          have HmL := hide hmL
          have mx := fun (ts : Array TypeId) (t : TypeId) (w : World) => run_max_fin Try.prog ts t 4607182418800017408 (rgK .f64 fd) w (by decide +kernel) mo2
          have wm : IntKind.wrap .i64 (2 * (n : Int)) = 2 * (n : Int) := by rw [IntKind.wrap_i64]; omega
          have g1 : ¬ (2 * (n : Int) < (mL : Int)) := by omega
          have cle := cmp_le .f64
          have qe := run_eqv
          rcases hlen3 with hz | hz
          · clear hmL
            have hz' : 0 = mL := hz.symm
            subst hz'
            go_wp2_with (first | (go_at_call 15; refine (POLY _ B4).mono ?_; rintro e w_5 ⟨ma, rfl, hMa, hb⟩; replace z0_0 := keep hb z0_0; replace z0_1 := keep hb z0_1; replace z0_2 := keep hb z0_2; have B5 := bl_trans B4 hb; clear hb) | (go_at_call 12; refine (abs_any _ _ o3).mono ?_; rintro e w' ⟨rfl, rfl⟩) | (go_at_call 11; refine (GREAT _ B5).mono ?_; rintro e w_6 ⟨m2, rfl, hm2, hb⟩; replace z0_0 := keep hb z0_0; replace z0_1 := keep hb z0_1; replace z0_2 := keep hb z0_2; have B6 := bl_trans B5 hb; clear hb))
            refine wp_loop_rounds 1 ?_
            rw [rounds_succ]
            clear hMa hm2 B5
            go_wp2
            go_loopw [21, 22, 23] (fun a' k' i' wr => ∃ (ab : Bool) (kk kx : Nat), a' = .bool ab ∧ k' = .int .i64 kk ∧ i' = .int .i64 kx ∧ kx ≤ n ∧ kk ≤ 0 ∧ (ab = true ↔ ∀ j, j < kx → wiB (nx, ny, fd) (xs j, ys j) = true) ∧ (∀ j, kx ≤ j → j < n → wiB (nx, ny, fd) (xs j, ys j) = true → True) ∧ Bel w_6 wr) (fun _ _ i' _ => n - (intOf i').toNat)
            case atStart => exact ⟨true, 0, 0, rfl, rfl, rfl, by omega, by omega, ⟨fun _ j hj => by omega, fun _ => rfl⟩, fun j _ _ _ => True.intro, bl_refl _⟩
            case round =>
              obtain ⟨ab, kk, kx, rfl, rfl, rfl, hkx, hkk, habs0, hkc0, hB3⟩ := hrel
              have habs := hide habs0
              have hkc := hide hkc0
              clear habs0 hkc0
              by_cases hlt : kx < n
              · have k1 : (kx : Int) < (n : Int) := by omega
                have wk : IntKind.wrap .i64 ((kx : Int) + 1) = (kx : Int) + 1 := by rw [IntKind.wrap_i64]; omega
                obtain ⟨x0, x1⟩ := (hs0.bel (bl_trans B6 hB3)) kx hlt
                have FA : ∀ W, Calls Try.prog 16 #[.agg #[.float .f64 nx, .float .f64 ny, .float .f64 fd], .agg #[.float .f64 (xs kx), .float .f64 (ys kx)]] W fun e w' => e = .returned (.tuple #[.float .f64 (frK (nx, ny, fd) (xs kx, ys kx)), .int .i64 0]) ∧ Bel W w' := fun W => by
                  have := cfar_d nx ny fd (xs kx) (ys kx) W o1 o2 o3 (h5 kx hlt).1 (h5 kx hlt).2
                  have e0 : farE (nx, ny, fd) [(xs kx, ys kx)] = 0 := (unhide hfar) kx hlt
                  unfold plV at this
                  rw [e0, if_pos rfl] at this
                  exact this
                have xz0_0 := keep hB3 z0_0
                have xz0_1 := keep hB3 z0_1
                have xz0_2 := keep hB3 z0_2
                haveI := belBy_some wr
                have yz0_0 := belBy_cell xz0_0
                have yz0_1 := belBy_cell xz0_1
                have yz0_2 := belBy_cell xz0_2
                have y0 := belBy_cell x0
                have y1 := belBy_cell x1
                go_wp2
                refine wp_region_quiet_bel (by kernel_rfl) (by kernel_rfl) ?_
                repeat (go_big_quiet_step (first | (go_at_call 16; exact calls_bel (FA _))))
                refine wpQuiet_nil ?_
                rintro _ ⟨nq, rfl⟩
                cases hw : wiB (nx, ny, fd) (xs kx, ys kx)
                · have hw' : leK .f64 (frK (nx, ny, fd) (xs kx, ys kx)) 0 = false := hw
                  have hab2 := hide (show (false = true) ↔ ∀ j, j < kx + 1 → wiB (nx, ny, fd) (xs j, ys j) = true from ⟨fun h => by simp at h, fun h => by have := h kx (by omega); rw [hw] at this; cases this⟩)
                  have hwh := hide hw
                  clear hw
                  cases ab
                  · go_wp2
                    exact ⟨⟨false, kk, kx + 1, rfl, rfl, by go_num, by omega, hkk, unhide hab2, fun j hj hjn hjw => (unhide hkc) j (by omega) hjn hjw, bl_trans hB3 nq.h⟩, by simp [intOf]; omega⟩
                  · go_wp2
                    exact ⟨⟨false, kk, kx + 1, rfl, rfl, by go_num, by omega, hkk, unhide hab2, fun j hj hjn hjw => (unhide hkc) j (by omega) hjn hjw, bl_trans hB3 nq.h⟩, by simp [intOf]; omega⟩
                · have hw' : leK .f64 (frK (nx, ny, fd) (xs kx, ys kx)) 0 = true := hw
                  have hab2 := hide (show ab = true ↔ ∀ j, j < kx + 1 → wiB (nx, ny, fd) (xs j, ys j) = true from ⟨fun h j hj => by by_cases e : j = kx; rw [e]; exact hw; exact (unhide habs).1 h j (by omega), fun h => (unhide habs).2 fun j hj => h j (by omega)⟩)
                  skip
                  have hwh := hide hw
                  clear hw
                  cases ab
                  · go_wp2
                    exact ⟨⟨false, kk, kx + 1, rfl, rfl, by go_num, by omega, hkk, by simpa using unhide hab2, fun j hj hjn hjw => (unhide hkc) j (by omega) hjn hjw, bl_trans hB3 nq.h⟩, by simp [intOf]; omega⟩
                  · go_wp2
                    exact ⟨⟨true, kk, kx + 1, rfl, rfl, by go_num, by omega, hkk, by simpa using unhide hab2, fun j hj hjn hjw => (unhide hkc) j (by omega) hjn hjw, bl_trans hB3 nq.h⟩, by simp [intOf]; omega⟩
              · have hkn : n = kx := by omega
                subst hkn
                cases ab
                · go_wp2
                  go_ret
                  exact ⟨rfl, bl_trans B6 hB3⟩
                · have hall : (leftL (nx, ny, fd) (lst xs ys n)) = lst xs ys n := left_all (fun i hi => by rw [lst_len] at hi; rw [hptL i hi]; exact (unhide habs).1 rfl i hi) (by rw [lst_len]; exact h3) (fun i hi => by rw [lst_len] at hi ⊢; rw [hptL i hi, hptL _ (Nat.mod_lt _ (by omega))]; exact out_apart hGd hi (hout i hi))
                  have hmn : 0 = n := by rw [unhide HmL, hall, lst_len]
                  omega
          · have g2 : (0 : Int) < (mL : Int) := by omega
            have g3 : ¬ ((mL : Int) < 3) := by omega
            have hat : ∀ i, i < n → wiB (nx, ny, fd) (xs i, ys i) = true → (cI (nx, ny, fd) (lst xs ys n) i < mL ∧ eqP (pt (leftL (nx, ny, fd) (lst xs ys n)) (cI (nx, ny, fd) (lst xs ys n) i)) (xs i, ys i) = true) ∨ (cI (nx, ny, fd) (lst xs ys n) i = mL ∧ eqP (pt (leftL (nx, ny, fd) (lst xs ys n)) 0) (xs i, ys i) = true) := fun i hi hw => by
              have := left_at (p := (nx, ny, fd)) hnum (by rw [lst_len]; exact hi) (by rw [hptL i hi]; exact hw) (by rw [← hmL]; omega)
              rwa [hptL i hi, ← hmL] at this
            clear hmL
            go_wp2_with (first | (go_at_call 15; refine (POLY _ B4).mono ?_; rintro e w_4b ⟨ma, rfl, hMa, hb⟩; replace z0_0 := keep hb z0_0; replace z0_1 := keep hb z0_1; replace z0_2 := keep hb z0_2; have B4b := bl_trans B4 hb; clear hb; obtain ⟨mg, rfl, hM0⟩ := hMa 0 (by rw [← unhide HmL]; omega)) | (go_at_call 12; refine (abs_any _ _ o3).mono ?_; rintro e w' ⟨rfl, rfl⟩) | (go_at_call 11; refine (GREAT _ B4b).mono ?_; rintro e w_5 ⟨m2, rfl, hm2, hb⟩; replace z0_0 := keep hb z0_0; replace z0_1 := keep hb z0_1; replace z0_2 := keep hb z0_2; have hM := hM0.bel hb; have B5 := bl_trans B4b hb; clear hb))
            rw [← unhide HmL] at hM
            obtain ⟨md1, md2, md3⟩ := hm2.2 hGd mo3
            have md4 : 1 ≤ rv m2 := Rat.le_trans mo4 md2
            have hIn : ∀ i, i < mL → PtB 48 (px (leftL (nx, ny, fd) (lst xs ys n)) i, py (leftL (nx, ny, fd) (lst xs ys n)) i) ∧ leK .f64 (frK (nx, ny, fd) (px (leftL (nx, ny, fd) (lst xs ys n)) i, py (leftL (nx, ny, fd) (lst xs ys n)) i)) (Dv .mul 4436045632959938560 m2) = true := fun i hi => by
              refine left_in (p := (nx, ny, fd)) o1 o2 o3 hP hlB md1 md4 (Rat.le_trans mo5 md2) (fun q hq => ?_) (pt_mem (by rw [← unhide HmL]; exact hi))
              unfold lst at hq
              rw [List.mem_map] at hq
              obtain ⟨j, hj, rfl⟩ := hq
              rw [List.mem_range] at hj
              exact md3 j hj
            clear hm2 hMa hM0 B4b
            go_wp2
            go_loopw [20] (fun i' wr => ∃ kx : Nat, kx ≤ mL ∧ i' = .int .i64 kx ∧ Bel w_5 wr) (fun i' _ => mL - (intOf i').toNat)
            case atStart => exact ⟨0, by omega, rfl, bl_refl _⟩
            case round =>
              obtain ⟨kx, hk, rfl, hBr⟩ := hrel
              by_cases hlt : kx < mL
              · have k1 : (kx : Int) < (mL : Int) := by omega
                have wk : IntKind.wrap .i64 ((kx : Int) + 1) = (kx : Int) + 1 := by rw [IntKind.wrap_i64]; omega
                obtain ⟨hin1, hin2⟩ := hIn kx hlt
                have IN : ∀ W, Calls Try.prog 14 #[.agg #[.float .f64 nx, .float .f64 ny, .float .f64 fd], .agg #[.float .f64 (px (leftL (nx, ny, fd) (lst xs ys n)) kx), .float .f64 (py (leftL (nx, ny, fd) (lst xs ys n)) kx)], .float .f64 m2] W fun e w' => e = .returned (.bool true) ∧ Bel W w' := fun W => by
                  have := in_d W (pn_bd o1 o2 o3 hP) hin1 (by decide) md1
                  rwa [hin2] at this
                obtain ⟨u0, u1⟩ := (hM.bel hBr) kx hlt
                rw [Nat.zero_add] at u0 u1
                have xz0_0 := keep hBr z0_0
                have xz0_1 := keep hBr z0_1
                have xz0_2 := keep hBr z0_2
                haveI := belBy_some wr
                have yz0_0 := belBy_cell xz0_0
                have yz0_1 := belBy_cell xz0_1
                have yz0_2 := belBy_cell xz0_2
                have v0 := belBy_cell u0
                have v1 := belBy_cell u1
                go_wp2
                refine wp_region_quiet_bel (by kernel_rfl) (by kernel_rfl) ?_
                repeat (go_big_quiet_step (first | (go_at_call 14; exact calls_bel (IN _))))
                refine wpQuiet_nil ?_
                rintro _ ⟨nq, rfl⟩
                go_wp2
                exact ⟨⟨kx + 1, by omega, by go_num, bl_trans hBr nq.h⟩, by simp [intOf]; omega⟩
              · have hkn : mL = kx := by omega
                subst hkn
                have B6 := bl_trans B5 hBr
                replace hM := hM.bel hBr
                replace z0_0 := keep hBr z0_0; replace z0_1 := keep hBr z0_1; replace z0_2 := keep hBr z0_2
                obtain ⟨w_6, hw6⟩ : ∃ X, X = wr := ⟨_, rfl⟩
                subst hw6
                go_wp2
                go_loopw [21, 22, 23] (fun a' k' i' wr => ∃ (ab : Bool) (kk kx : Nat), a' = .bool ab ∧ k' = .int .i64 kk ∧ i' = .int .i64 kx ∧ kx ≤ n ∧ kk ≤ mL ∧ (ab = true ↔ ∀ j, j < kx → wiB (nx, ny, fd) (xs j, ys j) = true) ∧ (∀ j, kx ≤ j → j < n → wiB (nx, ny, fd) (xs j, ys j) = true → kk ≤ cI (nx, ny, fd) (lst xs ys n) j) ∧ Bel w_6 wr) (fun _ _ i' _ => n - (intOf i').toNat)
                case atStart => exact ⟨true, 0, 0, rfl, rfl, rfl, by omega, by omega, ⟨fun _ j hj => by omega, fun _ => rfl⟩, fun j _ _ _ => Nat.zero_le _, bl_refl _⟩
                case round =>
                  obtain ⟨ab, kk, kx, rfl, rfl, rfl, hkx, hkk, habs0, hkc0, hB3⟩ := hrel
                  have habs := hide habs0
                  have hkc := hide hkc0
                  clear habs0 hkc0
                  by_cases hlt : kx < n
                  · have k1 : (kx : Int) < (n : Int) := by omega
                    have wk : IntKind.wrap .i64 ((kx : Int) + 1) = (kx : Int) + 1 := by rw [IntKind.wrap_i64]; omega
                    obtain ⟨x0, x1⟩ := (hs0.bel (bl_trans B6 hB3)) kx hlt
                    have FA : ∀ W, Calls Try.prog 16 #[.agg #[.float .f64 nx, .float .f64 ny, .float .f64 fd], .agg #[.float .f64 (xs kx), .float .f64 (ys kx)]] W fun e w' => e = .returned (.tuple #[.float .f64 (frK (nx, ny, fd) (xs kx, ys kx)), .int .i64 0]) ∧ Bel W w' := fun W => by
                      have := cfar_d nx ny fd (xs kx) (ys kx) W o1 o2 o3 (h5 kx hlt).1 (h5 kx hlt).2
                      have e0 : farE (nx, ny, fd) [(xs kx, ys kx)] = 0 := (unhide hfar) kx hlt
                      unfold plV at this
                      rw [e0, if_pos rfl] at this
                      exact this
                    have xz0_0 := keep hB3 z0_0
                    have xz0_1 := keep hB3 z0_1
                    have xz0_2 := keep hB3 z0_2
                    haveI := belBy_some wr
                    have yz0_0 := belBy_cell xz0_0
                    have yz0_1 := belBy_cell xz0_1
                    have yz0_2 := belBy_cell xz0_2
                    have y0 := belBy_cell x0
                    have y1 := belBy_cell x1
                    go_wp2
                    refine wp_region_quiet_bel (by kernel_rfl) (by kernel_rfl) ?_
                    repeat (go_big_quiet_step (first | (go_at_call 16; exact calls_bel (FA _))))
                    refine wpQuiet_nil ?_
                    rintro _ ⟨nq, rfl⟩
                    cases hw : wiB (nx, ny, fd) (xs kx, ys kx)
                    · have hw' : leK .f64 (frK (nx, ny, fd) (xs kx, ys kx)) 0 = false := hw
                      have hab2 := hide (show (false = true) ↔ ∀ j, j < kx + 1 → wiB (nx, ny, fd) (xs j, ys j) = true from ⟨fun h => by simp at h, fun h => by have := h kx (by omega); rw [hw] at this; cases this⟩)
                      have hwh := hide hw
                      clear hw
                      cases ab
                      · go_wp2
                        exact ⟨⟨false, kk, kx + 1, rfl, rfl, by go_num, by omega, hkk, unhide hab2, fun j hj hjn hjw => (unhide hkc) j (by omega) hjn hjw, bl_trans hB3 nq.h⟩, by simp [intOf]; omega⟩
                      · go_wp2
                        exact ⟨⟨false, kk, kx + 1, rfl, rfl, by go_num, by omega, hkk, unhide hab2, fun j hj hjn hjw => (unhide hkc) j (by omega) hjn hjw, bl_trans hB3 nq.h⟩, by simp [intOf]; omega⟩
                    · have hw' : leK .f64 (frK (nx, ny, fd) (xs kx, ys kx)) 0 = true := hw
                      have hab2 := hide (show ab = true ↔ ∀ j, j < kx + 1 → wiB (nx, ny, fd) (xs j, ys j) = true from ⟨fun h j hj => by by_cases e : j = kx; rw [e]; exact hw; exact (unhide habs).1 h j (by omega), fun h => (unhide habs).2 fun j hj => h j (by omega)⟩)
                      have hatk := hide (hat kx hlt hw)
                      have hwh := hide hw
                      clear hw
                      cases ab
                      · go_wp2
                        go_loopw [22] (fun k' wq => ∃ kk : Nat, k' = .int .i64 kk ∧ kk ≤ mL ∧ kk ≤ cI (nx, ny, fd) (lst xs ys n) kx ∧ Bel nq.world wq) (fun k' _ => mL - (intOf k').toNat)
                        case atStart => exact ⟨kk, rfl, hkk, (unhide hkc) kx (Nat.le_refl _) hlt (unhide hwh), bl_refl _⟩
                        case round =>
                          obtain ⟨k2, rfl, hk2, hk2c, hB2⟩ := hrel
                          have BX := bl_trans hB3 (bl_trans nq.h hB2)
                          obtain ⟨x0, x1⟩ := (hs0.bel (bl_trans B6 BX)) kx hlt
                          haveI := belBy_some wr
                          have y0 := belBy_cell x0
                          have y1 := belBy_cell x1
                          by_cases hlt2 : k2 < mL
                          · have k21 : (k2 : Int) < (mL : Int) := by omega
                            have k2n : ((k2 : Int) == (mL : Int)) = false := by rw [beq_eq_false_iff_ne]; omega
                            have wk2 : IntKind.wrap .i64 ((k2 : Int) + 1) = (k2 : Int) + 1 := by rw [IntKind.wrap_i64]; omega
                            obtain ⟨u0, u1⟩ := (hM.bel BX) k2 (by omega)
                            rw [Nat.zero_add] at u0 u1
                            have v0 := belBy_cell u0
                            have v1 := belBy_cell u1
                            cases he : (eqK .f64 (px (leftL (nx, ny, fd) (lst xs ys n)) k2) (xs kx) && eqK .f64 (py (leftL (nx, ny, fd) (lst xs ys n)) k2) (ys kx))
                            · go_wp2
                              refine wp_region_quiet_bel (by kernel_rfl) (by kernel_rfl) ?_
                              repeat (go_big_quiet_step (fail))
                              refine wpQuiet_nil ?_
                              rintro _ ⟨n2q, rfl⟩
                              (try simp only [he])
                              go_wp2
                              refine ⟨⟨k2 + 1, by go_num, by omega, ?_, bl_trans hB2 n2q.h⟩, by simp [intOf]; omega⟩
                              rcases unhide hatk with ⟨c1, c2⟩ | ⟨c1, c2⟩
                              · have : k2 ≠ cI (nx, ny, fd) (lst xs ys n) kx := fun hc => by
                                  rw [← hc] at c2
                                  have : (eqK .f64 (px (leftL (nx, ny, fd) (lst xs ys n)) k2) (xs kx) && eqK .f64 (py (leftL (nx, ny, fd) (lst xs ys n)) k2) (ys kx)) = true := c2
                                  rw [he] at this
                                  cases this
                                omega
                              · omega
                            · go_wp2
                              refine wp_region_quiet_bel (by kernel_rfl) (by kernel_rfl) ?_
                              repeat (go_big_quiet_step (fail))
                              refine wpQuiet_nil ?_
                              rintro _ ⟨n2q, rfl⟩
                              (try simp only [he])
                              haveI := belBy_some n2q.world
                              go_wp2
                              refine wp_region_quiet_bel (by kernel_rfl) (by kernel_rfl) ?_
                              repeat (go_big_quiet_step (fail))
                              refine wpQuiet_nil ?_
                              rintro _ ⟨n3q, rfl⟩
                              go_wp2
                              exact ⟨⟨false, k2, kx + 1, rfl, rfl, by go_num, by omega, hk2, by simpa using unhide hab2, fun j hj hjn _ => Nat.le_trans hk2c (cI_mono _ _ (by omega)), bl_trans BX (bl_trans n2q.h n3q.h)⟩, by simp [intOf]; omega⟩
                          · have hkn : mL = k2 := by omega
                            subst hkn
                            have hm0 : (eqK .f64 (px (leftL (nx, ny, fd) (lst xs ys n)) 0) (xs kx) && eqK .f64 (py (leftL (nx, ny, fd) (lst xs ys n)) 0) (ys kx)) = true := by
                              rcases unhide hatk with ⟨c1, c2⟩ | ⟨c1, c2⟩
                              · omega
                              · exact c2
                            go_wp2
                            refine wp_region_quiet_bel (by kernel_rfl) (by kernel_rfl) ?_
                            repeat (go_big_quiet_step (fail))
                            refine wpQuiet_nil ?_
                            rintro _ ⟨n2q, rfl⟩
                            obtain ⟨u0, u1⟩ := (hM.bel (bl_trans BX n2q.h)) 0 (by omega)
                            obtain ⟨t0, t1⟩ := (hs0.bel (bl_trans B6 (bl_trans BX n2q.h))) kx hlt
                            simp only [Nat.zero_mul, Nat.zero_add] at u0 u1
                            haveI := belBy_some n2q.world
                            have v0 := belBy_cell u0
                            have v1 := belBy_cell u1
                            have v2 := belBy_cell t0
                            have v3 := belBy_cell t1
                            go_wp2
                            refine wp_region_quiet_bel (by kernel_rfl) (by kernel_rfl) ?_
                            repeat (go_big_quiet_step (fail))
                            refine wpQuiet_nil ?_
                            rintro _ ⟨n3q, rfl⟩
                            (try simp only [hm0])
                            go_wp2
                            exact ⟨⟨false, mL, kx + 1, rfl, rfl, by go_num, by omega, hk2, by simpa using unhide hab2, fun j hj hjn _ => Nat.le_trans hk2c (cI_mono _ _ (by omega)), bl_trans BX (bl_trans n2q.h n3q.h)⟩, by simp [intOf]; omega⟩
                      · go_wp2
                        go_loopw [22] (fun k' wq => ∃ kk : Nat, k' = .int .i64 kk ∧ kk ≤ mL ∧ kk ≤ cI (nx, ny, fd) (lst xs ys n) kx ∧ Bel nq.world wq) (fun k' _ => mL - (intOf k').toNat)
                        case atStart => exact ⟨kk, rfl, hkk, (unhide hkc) kx (Nat.le_refl _) hlt (unhide hwh), bl_refl _⟩
                        case round =>
                          obtain ⟨k2, rfl, hk2, hk2c, hB2⟩ := hrel
                          have BX := bl_trans hB3 (bl_trans nq.h hB2)
                          obtain ⟨x0, x1⟩ := (hs0.bel (bl_trans B6 BX)) kx hlt
                          haveI := belBy_some wr
                          have y0 := belBy_cell x0
                          have y1 := belBy_cell x1
                          by_cases hlt2 : k2 < mL
                          · have k21 : (k2 : Int) < (mL : Int) := by omega
                            have k2n : ((k2 : Int) == (mL : Int)) = false := by rw [beq_eq_false_iff_ne]; omega
                            have wk2 : IntKind.wrap .i64 ((k2 : Int) + 1) = (k2 : Int) + 1 := by rw [IntKind.wrap_i64]; omega
                            obtain ⟨u0, u1⟩ := (hM.bel BX) k2 (by omega)
                            rw [Nat.zero_add] at u0 u1
                            have v0 := belBy_cell u0
                            have v1 := belBy_cell u1
                            cases he : (eqK .f64 (px (leftL (nx, ny, fd) (lst xs ys n)) k2) (xs kx) && eqK .f64 (py (leftL (nx, ny, fd) (lst xs ys n)) k2) (ys kx))
                            · go_wp2
                              refine wp_region_quiet_bel (by kernel_rfl) (by kernel_rfl) ?_
                              repeat (go_big_quiet_step (fail))
                              refine wpQuiet_nil ?_
                              rintro _ ⟨n2q, rfl⟩
                              (try simp only [he])
                              go_wp2
                              refine ⟨⟨k2 + 1, by go_num, by omega, ?_, bl_trans hB2 n2q.h⟩, by simp [intOf]; omega⟩
                              rcases unhide hatk with ⟨c1, c2⟩ | ⟨c1, c2⟩
                              · have : k2 ≠ cI (nx, ny, fd) (lst xs ys n) kx := fun hc => by
                                  rw [← hc] at c2
                                  have : (eqK .f64 (px (leftL (nx, ny, fd) (lst xs ys n)) k2) (xs kx) && eqK .f64 (py (leftL (nx, ny, fd) (lst xs ys n)) k2) (ys kx)) = true := c2
                                  rw [he] at this
                                  cases this
                                omega
                              · omega
                            · go_wp2
                              refine wp_region_quiet_bel (by kernel_rfl) (by kernel_rfl) ?_
                              repeat (go_big_quiet_step (fail))
                              refine wpQuiet_nil ?_
                              rintro _ ⟨n2q, rfl⟩
                              (try simp only [he])
                              haveI := belBy_some n2q.world
                              go_wp2
                              refine wp_region_quiet_bel (by kernel_rfl) (by kernel_rfl) ?_
                              repeat (go_big_quiet_step (fail))
                              refine wpQuiet_nil ?_
                              rintro _ ⟨n3q, rfl⟩
                              go_wp2
                              exact ⟨⟨true, k2, kx + 1, rfl, rfl, by go_num, by omega, hk2, by simpa using unhide hab2, fun j hj hjn _ => Nat.le_trans hk2c (cI_mono _ _ (by omega)), bl_trans BX (bl_trans n2q.h n3q.h)⟩, by simp [intOf]; omega⟩
                          · have hkn : mL = k2 := by omega
                            subst hkn
                            have hm0 : (eqK .f64 (px (leftL (nx, ny, fd) (lst xs ys n)) 0) (xs kx) && eqK .f64 (py (leftL (nx, ny, fd) (lst xs ys n)) 0) (ys kx)) = true := by
                              rcases unhide hatk with ⟨c1, c2⟩ | ⟨c1, c2⟩
                              · omega
                              · exact c2
                            go_wp2
                            refine wp_region_quiet_bel (by kernel_rfl) (by kernel_rfl) ?_
                            repeat (go_big_quiet_step (fail))
                            refine wpQuiet_nil ?_
                            rintro _ ⟨n2q, rfl⟩
                            obtain ⟨u0, u1⟩ := (hM.bel (bl_trans BX n2q.h)) 0 (by omega)
                            obtain ⟨t0, t1⟩ := (hs0.bel (bl_trans B6 (bl_trans BX n2q.h))) kx hlt
                            simp only [Nat.zero_mul, Nat.zero_add] at u0 u1
                            haveI := belBy_some n2q.world
                            have v0 := belBy_cell u0
                            have v1 := belBy_cell u1
                            have v2 := belBy_cell t0
                            have v3 := belBy_cell t1
                            go_wp2
                            refine wp_region_quiet_bel (by kernel_rfl) (by kernel_rfl) ?_
                            repeat (go_big_quiet_step (fail))
                            refine wpQuiet_nil ?_
                            rintro _ ⟨n3q, rfl⟩
                            (try simp only [hm0])
                            go_wp2
                            exact ⟨⟨true, mL, kx + 1, rfl, rfl, by go_num, by omega, hk2, by simpa using unhide hab2, fun j hj hjn _ => Nat.le_trans hk2c (cI_mono _ _ (by omega)), bl_trans BX (bl_trans n2q.h n3q.h)⟩, by simp [intOf]; omega⟩
                  · have hkn : n = kx := by omega
                    subst hkn
                    cases ab
                    · go_wp2
                      go_ret
                      exact ⟨rfl, bl_trans B6 hB3⟩
                    · have hall : (leftL (nx, ny, fd) (lst xs ys n)) = lst xs ys n := left_all (fun i hi => by rw [lst_len] at hi; rw [hptL i hi]; exact (unhide habs).1 rfl i hi) (by rw [lst_len]; exact h3) (fun i hi => by rw [lst_len] at hi ⊢; rw [hptL i hi, hptL _ (Nat.mod_lt _ (by omega))]; exact out_apart hGd hi (hout i hi))
                      have hmn : mL = n := by rw [unhide HmL, hall, lst_len]
                      have hS2 : Sl wr mg 0 n xs ys := (hmn ▸ (hM.bel hB3)).eq (fun i hi => by rw [hall]; exact lst_x _ _ _ i hi) (fun i hi => by rw [hall]; exact lst_y _ _ _ i hi)
                      rw [hmn]
                      go_wp2_with (first | (go_at_call 17; refine (same_eq mg 0 n b off cap n xs ys _ hS2 (hs0.bel (bl_trans B6 hB3)) hn1 (Nat.le_refl _) hcap).mono ?_; rintro e w' ⟨rfl, hbS⟩))
                      go_ret
                      exact ⟨rfl, bl_trans (bl_trans B6 hB3) hbS⟩
        · have hE : ¬ pgE (nx, ny, fd) xs ys n = 0 := by unfold pgE; rw [if_pos hP]; exact hc
          have hEb : (pgE (nx, ny, fd) xs ys n == 0) = false := by simpa using hE
          have eL : pgL (nx, ny, fd) xs ys n = [] := by unfold pgL; rw [if_neg hE]
          have POLY := fun W (hW : Bel w W) => poly_any nx ny fd (.slice a n cap) n xs ys W o1 o2 o3 (hAny.bel hW)
          rw [eL] at POLY
          go_wp2_with (first | (go_at_call 15; refine (POLY _ B4).mono ?_; rintro e w_5 ⟨ma, rfl, hMa, hb⟩; have B5 := bl_trans B4 hb; clear hb))
          go_ret
          exact ⟨rfl, B5⟩

/-- a row of ways: none, or len of them in cells, with room for cap -/
def IsWays (w : World) (a : Option Addr) (len cap : Nat) : Prop :=
  (a = none ∧ len = 0 ∧ cap = 0) ∨ ∃ (x : Addr) (xs ys : Nat → Nat), a = some x ∧ len ≤ cap ∧ cap ≤ maxLen ∧ len * 16 ≤ 140737488351232 ∧ ∀ i, i < len → w.cell? (x.add (i * 2)) = some (.float .f64 (xs i)) ∧ w.cell? (x.add (i * 2 + 1)) = some (.float .f64 (ys i)) ∧ okK .f64 (xs i) ∧ okK .f64 (ys i)
theorem any_of {w : World} {a : Option Addr} {len cap : Nat} (h : IsWays w a len cap) : ∃ xs ys, AnyS w (.slice a len cap) len xs ys := by
  rcases h with ⟨rfl, rfl, rfl⟩ | ⟨x, xs, ys, rfl, hl, hm, hr, hcell⟩
  · exact ⟨fun _ => 0, fun _ => 0, _, _, rfl, Nat.le_refl _, by decide, by decide, fun i hi => by omega, .inl rfl⟩
  · refine ⟨xs, ys, _, _, rfl, hl, Nat.le_trans hl hm, hr, fun i hi => ⟨(hcell i hi).2.2.1, (hcell i hi).2.2.2⟩, ?_⟩
    rcases Nat.eq_zero_or_pos len with h0 | h0
    · exact .inl h0
    · right
      obtain ⟨b, off, spot⟩ := x
      have hspot : spot = none := by simpa [Addr.add] using World.cell?_spot (hcell 0 h0).1
      subst hspot
      refine ⟨h0, b, off, rfl, fun i hi => ⟨?_, ?_⟩⟩
      · have h := (hcell i hi).1
        rw [add_plain] at h
        exact h
      · have h := (hcell i hi).2.1
        rw [add_plain, ← Nat.add_assoc] at h
        exact h
theorem walk (nx0 ny0 fd0 : Nat) (onx0 : okK .f64 nx0) (ony0 : okK .f64 ny0) (ofd0 : okK .f64 fd0) (a1 : Option Addr) (len1 cap1 : Nat) (x2 y2 : Nat) (ox2 : okK .f64 x2) (oy2 : okK .f64 y2) (x3 y3 : Nat) (ox3 : okK .f64 x3) (oy3 : okK .f64 y3) (w : World) (h1 : IsWays w a1 len1 cap1) :
    Calls Try.prog 3 #[.agg #[.float .f64 nx0, .float .f64 ny0, .float .f64 fd0], .slice a1 len1 cap1, .agg #[.float .f64 x2, .float .f64 y2], .agg #[.float .f64 x3, .float .f64 y3]] w fun e w' => e = .returned (.bool true) ∧ Below w.heap.size w w' := by
  obtain ⟨xs1, ys1, g1⟩ := any_of h1
  exact (walk_any nx0 ny0 fd0 onx0 ony0 ofd0 _ _ xs1 ys1 x2 y2 ox2 oy2 x3 y3 ox3 oy3 w g1).mono fun e w' h => ⟨h.1, h.2.1⟩

set_option maxRecDepth 100000 in
theorem lifted (os : Os) (started : os.Started) (H : Type) (enc : TypeId × Value → H) :
    ReturnsInHanded {} Try.checked os 3 .any (Rows.clipWithinSpec.pre6 enc Try.prog Try.f3 Rows.clipWithinRow.domain false) (Rows.clipWithinSpec.post enc Try.prog Try.f3 false true false false) := by
  refine returnsInHanded_of_change_sized (C := Try.checked) own started (by kernel_rfl) Try.func3
    (ChangeSpec.witness6 (enc := enc) (C := Try.checked) false ⟨#[], #[.agg #[.float .f64 0, .float .f64 0, .float .f64 0], .slice none 0 0, .agg #[.float .f64 0, .float .f64 0], .agg #[.float .f64 0, .float .f64 0]], []⟩ 8 (by kernel_rfl) (by kernel_rfl) (by kernel_rfl) (by kernel_rfl)) ?_
  intro W base args ds gs before hval0 hW hcnd hsz0 _
  have hsz : (DataW.weightsEach Try.prog (Try.f3.params.toList ++ Rows.clipWithinSpec.plain.varTypes Try.prog) (ds ++ gs)).all (· ≤ reachBytes) = true := hsz0
  have hval : ∀ (j : Nat) t v, Try.f3.params[j]? = some t → args[j]? = some v → Value.okWide Try.prog W .any base t v := hval0
  have hW' := hW
  obtain ⟨p, q, hA0, hV, rfl, hfz, hnd⟩ := hW
  have hA : DataW.TrodAll enc Try.prog W 0 (fun _ => true) true Try.f3.params.toList args.toList ds p := hA0
  rw [Try.params3] at hA hval hsz
  obtain ⟨v0, vs0, d0, ds0, p0, q0, hargs, rfl, rfl, h0, r0⟩ := trodAll_cons hA
  obtain ⟨v1, vs1, d1, ds1, p1, q1, rfl, rfl, rfl, h1, r1⟩ := trodAll_cons r0
  obtain ⟨v2, vs2, d2, ds2, p2, q2, rfl, rfl, rfl, h2, r2⟩ := trodAll_cons r1
  obtain ⟨v3, vs3, d3, ds3, p3, q3, rfl, rfl, rfl, h3, r3⟩ := trodAll_cons r2
  obtain ⟨rfl, rfl, rfl⟩ := trodAll_nil r3
  obtain rfl : args = #[v0, v1, v2, v3] := by cases args; simp_all
  obtain ⟨rfl, rfl⟩ := trodVars_none hV
  obtain ⟨nx0, ny0, fd0, rfl, rfl, rfl, wnx0, wny0, wfd0⟩ := open_plane (hval 0 26 v0 rfl rfl) h0
  obtain ⟨a1, len1, cap1, rfl⟩ := okWide_slice Try.underlying27 (hval 1 27 v1 rfl rfl)
  obtain ⟨c2, k2, z2, u2, m2, rfl, rfl, rfl, hz2, hu2⟩ := open_agg2 Try.underlying24 (by kernel_rfl) cellsV (hval 2 24 v2 rfl rfl) h2
  obtain ⟨x2, e0, rfl, wx2⟩ := trod_fl Try.underlying22 hz2
  obtain ⟨y2, e1, rfl, wy2⟩ := trod_fl Try.underlying22 hu2
  simp at e0 e1
  subst e0 e1
  obtain ⟨c3, k3, z3, u3, m3, rfl, rfl, rfl, hz3, hu3⟩ := open_agg2 Try.underlying24 (by kernel_rfl) cellsV (hval 3 24 v3 rfl rfl) h3
  obtain ⟨x3, e0, rfl, wx3⟩ := trod_fl Try.underlying22 hz3
  obtain ⟨y3, e1, rfl, wy3⟩ := trod_fl Try.underlying22 hu3
  simp at e0 e1
  subst e0 e1
  have k1 := h1
  have lt1 : ∀ x ∈ p1, x.block < W.heap.size := by obtain ⟨m, hm⟩ := k1; exact DataW.trod_lt m _ _ _ hm
  have w1 : IsWays W a1 len1 cap1 := by
    obtain ⟨fuel, hf⟩ := h1
    rcases Go.Deep.open_slice_pairs Try.underlying27 Try.underlying24 (by kernel_rfl) rfl rfl (by kernel_rfl) (by kernel_rfl) hf with ⟨hcs, _⟩ | ⟨x, l, c, m, n, V0, V1, D0, D1, P0, P1, hcs, _, hl, hm, hmm, hx, hcell⟩
    · simp [Value.cells] at hcs
      exact .inl hcs
    · simp [Value.cells] at hcs
      obtain ⟨rfl, rfl, rfl⟩ := hcs
      simp only [Prod.mk.injEq] at hx
      obtain ⟨rfl, rfl⟩ := hx
      have hr := sized_slice hsz (j := 1) (t := 27) (e := 24) rfl rfl Try.underlying27
      rw [show Try.prog.bytesOf 24 = 16 by kernel_rfl] at hr
      simp only [List.length_map, List.length_range, reachBytes] at hr
      have hlm : len1 ≤ m := by rw [hmm]; split <;> omega
      have V : ∀ i, ∃ xy : Nat × Nat, i < m → V0 i = .float .f64 xy.1 ∧ V1 i = .float .f64 xy.2 ∧ okK .f64 xy.1 ∧ okK .f64 xy.2 := by
        intro i
        by_cases hi : i < m
        · obtain ⟨_, _, h3, h4⟩ := hcell i hi
          obtain ⟨x, e0, _, wx⟩ := trod_fl Try.underlying22 h3
          obtain ⟨y, e1, _, wy⟩ := trod_fl Try.underlying22 h4
          simp at e0 e1
          exact ⟨(x, y), fun _ => ⟨e0, e1, wf_f64 wx, wf_f64 wy⟩⟩
        · exact ⟨(0, 0), fun h => absurd h hi⟩
      have V' := Classical.axiomOfChoice V
      obtain ⟨f, hf'⟩ := V'
      refine .inr ⟨x, fun i => (f i).1, fun i => (f i).2, rfl, hl, hm, by omega, fun i hi => ?_⟩
      obtain ⟨e0, e1, o0, o1⟩ := hf' i (by omega)
      obtain ⟨c0, c1, _, _⟩ := hcell i (by omega)
      rw [e0] at c0
      rw [e1] at c1
      exact ⟨c0, c1, o0, o1⟩
  clear hA0 hval0 hsz0
  refine (walk nx0 ny0 fd0 (wf_f64 wnx0) (wf_f64 wny0) (wf_f64 wfd0) a1 len1 cap1 x2 y2 (wf_f64 wx2) (wf_f64 wy2) x3 y3 (wf_f64 wx3) (wf_f64 wy3) W w1).mono fun e W' ⟨he, bel0⟩ => ?_
  have bel := bel0
  subst he
  exact ⟨_, rfl, _, _, _, [], _, [], hW', trodAll_mk1 (shut_bool Try.underlying4 _), (trodAll_cons_mk (shut_plane wnx0 wny0 wfd0) (trodAll_cons_mk (Below.trod laidOut (by kernel_rfl) (of_decide_eq_true (by kernel_rfl)) k1 bel lt1) (trodAll_cons_mk (shut_agg2 (y0 := (.lit (.float .f64 x2), [])) (y1 := (.lit (.float .f64 y2), [])) Try.underlying24 (by kernel_rfl) cellsV ⟨1, by simp [DataW.trod, show Try.checked.prog.underlying 22 = some (.float .f64) from Try.underlying22, wx2]⟩ ⟨1, by simp [DataW.trod, show Try.checked.prog.underlying 22 = some (.float .f64) from Try.underlying22, wy2]⟩) (trodAll_cons_mk (shut_agg2 (y0 := (.lit (.float .f64 x3), [])) (y1 := (.lit (.float .f64 y3), [])) Try.underlying24 (by kernel_rfl) cellsV ⟨1, by simp [DataW.trod, show Try.checked.prog.underlying 22 = some (.float .f64) from Try.underlying22, wx3]⟩ ⟨1, by simp [DataW.trod, show Try.checked.prog.underlying 22 = some (.float .f64) from Try.underlying22, wy3]⟩) trodAll_mk0)))), rfl, bel.frame _, fun h => by cases h⟩

theorem over : Rows.clipWithinRow.holds Try.pinned (OpenSpec.ofChange Rows.clipWithinSpec) :=
  OpenClaim.holds_of_wide 3 Try.f3 rfl rfl rfl rfl rfl rfl rfl ⟨rfl, rfl, rfl, rfl, rfl⟩ rfl rfl rfl rfl rfl (by kernel_rfl) Try.func3 (by kernel_rfl)
    (of_decide_eq_true (by kernel_rfl)) (by unfold Func.isWrapper; first | (rw [if_pos (by decide +kernel)]; kernel_rfl) | (rw [if_neg (by decide +kernel)]; exact ⟨rfl, rfl⟩))
    (fun os started H enc _ => lifted os started H enc)

theorem proved : Rows.ClipWithinSaid :=
  over
#print axioms proved
end Go.Proofs.Ytpedpgpgcmhnoaa.clipWithin
