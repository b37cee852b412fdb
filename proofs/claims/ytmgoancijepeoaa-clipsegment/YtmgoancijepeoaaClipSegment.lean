/-
  'tumblelaw09.ClipSegment' (P9.1, P9.2, P9.6): of any plane and places: may it be, how far the first lies beyond it, what is left of the segment and whence, or the errors; what is answered is new memory.
-/
import Derived.Test.YtmgoancijepeoaaRows
import Derived.Test.YtmgoancijepeoaaDf
import Derived.Test.YtmgoancijepeoaaDb
import Derived.WalkKit
import Derived.ProofKit
import Derived.OpenShut
import Derived.WalkLawsBesides
import Derived.WalkSpells
import Derived.Lib.SmallJoins
import Derived.Laws.Cover2
import Derived.Deep.RegionHeld3
import Derived.Deep.Strs
namespace Go.Proofs.Ytmgoancijepeoaa.clipSegment
open Go.ChangeShapes Go.WideShapes Go.ChangeAt Go.RowKit Go.Joins
set_option linter.unusedVariables false
set_option linter.unusedSimpArgs false

theorem own : ownKnob Try.prog.godebug = none := by kernel_rfl
theorem cellsV : Try.prog.cellsOf 24 = 2 := by kernel_rfl
theorem wf_f64 {x : Nat} (h : (Lit.float .f64 x).wf = true) : okK .f64 x := by
  rw [okK64]; simpa [Lit.wf] using h
theorem trod_fl {H : Type} {enc : TypeId × Value → H} {P : Program} {w : World} {base fuel : Nat} {spare : Nat → Bool} {held : Bool} {t : TypeId} {cs : List Value} {x : DataW H × List MemPlace} {k : FloatKind} (ht : P.underlying t = some (.float k)) (h : DataW.trod enc P w base spare held fuel t cs = some x) : ∃ n, cs = [.float k n] ∧ x = (.lit (.float k n), []) ∧ (Lit.float k n).wf = true := by
  cases fuel with
  | zero => simp [DataW.trod] at h
  | succ n =>
    unfold DataW.trod at h
    rw [ht] at h
    split at h <;> simp_all

set_option maxRecDepth 100000 in
theorem open_plane {H : Type} {enc : TypeId × Value → H} {w : World} {base : Nat} {spare : Nat → Bool} {held : Bool} {r : Reach} {b0 : Nat} {v : Value} {d : DataW H} {p : List MemPlace}
    (hv : Value.okWide Try.prog w r b0 26 v) (h : DataW.Trod enc Try.prog w base spare held 26 v d p) :
    ∃ a b c : Nat, v = .agg #[.float .f64 a, .float .f64 b, .float .f64 c] ∧ d = .agg [.agg [.lit (.float .f64 a), .lit (.float .f64 b)], .lit (.float .f64 c)] ∧ p = [] ∧
      (Lit.float .f64 a).wf = true ∧ (Lit.float .f64 b).wf = true ∧ (Lit.float .f64 c).wf = true := by
  obtain ⟨cs, rfl, hsz⟩ := okWide_struct Try.underlying26 hv
  obtain ⟨c0, c1, c2, rfl⟩ := array3 (hsz.trans (by kernel_rfl))
  obtain ⟨fuel, hf⟩ := h
  obtain ⟨y0, y1, n, hx, _, h0, h1⟩ := trod_struct2 Try.underlying26 hf
  simp [Value.cells, cellsV, show Try.prog.cellsOf 22 = 1 by kernel_rfl] at h0 h1
  obtain ⟨z0, z1, n2, hz, _, h4, h5⟩ := trod_struct2 Try.underlying24 h0
  simp [show Try.prog.cellsOf 22 = 1 by kernel_rfl] at h4 h5
  obtain ⟨a, e0, rfl, wa⟩ := trod_fl Try.underlying22 h4
  obtain ⟨b, e1, rfl, wb⟩ := trod_fl Try.underlying22 h5
  obtain ⟨c, e2, rfl, wc⟩ := trod_fl Try.underlying22 h1
  simp at e0 e1 e2
  subst e0 e1 e2
  subst hz
  simp only [Prod.mk.injEq] at hx
  exact ⟨a, b, c, rfl, hx.1, hx.2, wa, wb, wc⟩
set_option maxRecDepth 100000 in
theorem shut_plane {H : Type} {enc : TypeId × Value → H} {w : World} {base : Nat} {spare : Nat → Bool} {held : Bool} {a b c : Nat} (wa : (Lit.float .f64 a).wf = true) (wb : (Lit.float .f64 b).wf = true) (wc : (Lit.float .f64 c).wf = true) :
    DataW.Trod enc Try.prog w base spare held 26 (.agg #[.float .f64 a, .float .f64 b, .float .f64 c]) (.agg [.agg [.lit (.float .f64 a), .lit (.float .f64 b)], .lit (.float .f64 c)]) [] := by
  have cf : Try.prog.cellsOf 22 = 1 := by kernel_rfl
  have tv : DataW.trod enc Try.prog w base spare held 2 24 [.float .f64 a, .float .f64 b] = some (.agg [.lit (.float .f64 a), .lit (.float .f64 b)], []) :=
    trod_struct2_mk (y0 := (.lit (.float .f64 a), [])) (y1 := (.lit (.float .f64 b), [])) Try.underlying24 (by simp [cellsV]) (by simp [cf, DataW.trod, Try.underlying22, wa]) (by simp [cf, DataW.trod, Try.underlying22, wb])
  exact ⟨3, trod_struct2_mk (y0 := (.agg [.lit (.float .f64 a), .lit (.float .f64 b)], [])) (y1 := (.lit (.float .f64 c), [])) Try.underlying26 (by simp [Value.cells]; kernel_rfl) (by simpa [Value.cells, cellsV] using tv) (by simp [cf, cellsV, Value.cells, DataW.trod, Try.underlying22, wc])⟩
set_option maxRecDepth 100000 in
set_option maxHeartbeats 8000000 in
theorem walk_err (nx ny fd ax ay bx b_y : Nat) (w : World) (o1 : okK .f64 nx) (o2 : okK .f64 ny) (o3 : okK .f64 fd) (oa : okK .f64 ax) (ob : okK .f64 ay) (oc : okK .f64 bx) (od : okK .f64 b_y) (h0 : ¬ farE (nx, ny, fd) [(ax, ay), (bx, b_y)] = 0) : Calls Try.prog 3 #[.agg #[.float .f64 nx, .float .f64 ny, .float .f64 fd], .agg #[.float .f64 ax, .float .f64 ay], .agg #[.float .f64 bx, .float .f64 b_y]] w fun e w' => e = .returned (.bool true) ∧ Bel w w' := by
  have z0_0 : (w.alloc (.cells #[.float .f64 nx, .float .f64 ny, .float .f64 fd] 26)).cell? ⟨w.heap.size, 0, none⟩ = some (.float .f64 nx) := by rw [World.cell?_alloc_new]; rfl
  replace z0_0 := up_alloc (o := .cells #[.float .f64 ax, .float .f64 ay] 24) z0_0
  replace z0_0 := up_alloc (o := .cells #[.float .f64 bx, .float .f64 b_y] 24) z0_0
  have z0_1 : (w.alloc (.cells #[.float .f64 nx, .float .f64 ny, .float .f64 fd] 26)).cell? ⟨w.heap.size, 1, none⟩ = some (.float .f64 ny) := by rw [World.cell?_alloc_new]; rfl
  replace z0_1 := up_alloc (o := .cells #[.float .f64 ax, .float .f64 ay] 24) z0_1
  replace z0_1 := up_alloc (o := .cells #[.float .f64 bx, .float .f64 b_y] 24) z0_1
  have z0_2 : (w.alloc (.cells #[.float .f64 nx, .float .f64 ny, .float .f64 fd] 26)).cell? ⟨w.heap.size, 2, none⟩ = some (.float .f64 fd) := by rw [World.cell?_alloc_new]; rfl
  replace z0_2 := up_alloc (o := .cells #[.float .f64 ax, .float .f64 ay] 24) z0_2
  replace z0_2 := up_alloc (o := .cells #[.float .f64 bx, .float .f64 b_y] 24) z0_2
  have z1_0 : ((w.alloc (.cells #[.float .f64 nx, .float .f64 ny, .float .f64 fd] 26)).alloc (.cells #[.float .f64 ax, .float .f64 ay] 24)).cell? ⟨w.heap.size + 1, 0, none⟩ = some (.float .f64 ax) := by rw [← (show (w.alloc (.cells #[.float .f64 nx, .float .f64 ny, .float .f64 fd] 26)).heap.size = w.heap.size + 1 by simp only [World.size_alloc]), World.cell?_alloc_new]; rfl
  replace z1_0 := up_alloc (o := .cells #[.float .f64 bx, .float .f64 b_y] 24) z1_0
  have z1_1 : ((w.alloc (.cells #[.float .f64 nx, .float .f64 ny, .float .f64 fd] 26)).alloc (.cells #[.float .f64 ax, .float .f64 ay] 24)).cell? ⟨w.heap.size + 1, 1, none⟩ = some (.float .f64 ay) := by rw [← (show (w.alloc (.cells #[.float .f64 nx, .float .f64 ny, .float .f64 fd] 26)).heap.size = w.heap.size + 1 by simp only [World.size_alloc]), World.cell?_alloc_new]; rfl
  replace z1_1 := up_alloc (o := .cells #[.float .f64 bx, .float .f64 b_y] 24) z1_1
  have z2_0 : (((w.alloc (.cells #[.float .f64 nx, .float .f64 ny, .float .f64 fd] 26)).alloc (.cells #[.float .f64 ax, .float .f64 ay] 24)).alloc (.cells #[.float .f64 bx, .float .f64 b_y] 24)).cell? ⟨w.heap.size + 1 + 1, 0, none⟩ = some (.float .f64 bx) := by rw [← (show ((w.alloc (.cells #[.float .f64 nx, .float .f64 ny, .float .f64 fd] 26)).alloc (.cells #[.float .f64 ax, .float .f64 ay] 24)).heap.size = w.heap.size + 1 + 1 by simp only [World.size_alloc]), World.cell?_alloc_new]; rfl
  have z2_1 : (((w.alloc (.cells #[.float .f64 nx, .float .f64 ny, .float .f64 fd] 26)).alloc (.cells #[.float .f64 ax, .float .f64 ay] 24)).alloc (.cells #[.float .f64 bx, .float .f64 b_y] 24)).cell? ⟨w.heap.size + 1 + 1, 1, none⟩ = some (.float .f64 b_y) := by rw [← (show ((w.alloc (.cells #[.float .f64 nx, .float .f64 ny, .float .f64 fd] 26)).alloc (.cells #[.float .f64 ax, .float .f64 ay] 24)).heap.size = w.heap.size + 1 + 1 by simp only [World.size_alloc]), World.cell?_alloc_new]; rfl
  have B0 : Bel w (((w.alloc (.cells #[.float .f64 nx, .float .f64 ny, .float .f64 fd] 26)).alloc (.cells #[.float .f64 ax, .float .f64 ay] 24)).alloc (.cells #[.float .f64 bx, .float .f64 b_y] 24)) := bl_alloc (bl_alloc (bl_alloc (bl_refl w) _ _) _ _) _ _
  go_enter Try.func3, Try.ntmps3
  go_wp2_with (first | (go_at_call 9; refine (awake9 _).mono ?_; rintro e w_1 ⟨rfl, hb⟩; replace z0_0 := keep hb z0_0; replace z0_1 := keep hb z0_1; replace z0_2 := keep hb z0_2; replace z1_0 := keep hb z1_0; replace z1_1 := keep hb z1_1; replace z2_0 := keep hb z2_0; replace z2_1 := keep hb z2_1; have B1 := bl_trans B0 hb; clear hb) | (go_at_call 10; refine (cfar_d nx ny fd ax ay _ o1 o2 o3 oa ob).mono ?_; rintro e w_2 ⟨rfl, hb⟩; replace z0_0 := keep hb z0_0; replace z0_1 := keep hb z0_1; replace z0_2 := keep hb z0_2; replace z1_0 := keep hb z1_0; replace z1_1 := keep hb z1_1; replace z2_0 := keep hb z2_0; replace z2_1 := keep hb z2_1; have B2 := bl_trans B1 hb; clear hb) | (go_at_call 11; refine (rcfar_d nx ny fd ax ay _ o1 o2 o3 oa ob).mono ?_; rintro e w_3 ⟨rfl, hb⟩; replace z0_0 := keep hb z0_0; replace z0_1 := keep hb z0_1; replace z0_2 := keep hb z0_2; replace z1_0 := keep hb z1_0; replace z1_1 := keep hb z1_1; replace z2_0 := keep hb z2_0; replace z2_1 := keep hb z2_1; have B3 := bl_trans B2 hb; clear hb) | (have zn := m5; clear zn; go_at_call 12; refine (seg_err nx ny fd ax ay bx b_y _ o1 o2 o3 oa ob oc od h0).mono ?_; rintro e w_7 ⟨rfl, hb⟩; replace z0_0 := keep hb z0_0; replace z0_1 := keep hb z0_1; replace z0_2 := keep hb z0_2; replace z1_0 := keep hb z1_0; replace z1_1 := keep hb z1_1; replace z2_0 := keep hb z2_0; replace z2_1 := keep hb z2_1; have B7 := bl_trans B6 hb; clear hb) | (go_at_call 12; refine (seg_err nx ny fd ax ay bx b_y _ o1 o2 o3 oa ob oc od h0).mono ?_; rintro e w_4 ⟨rfl, hb⟩; replace z0_0 := keep hb z0_0; replace z0_1 := keep hb z0_1; replace z0_2 := keep hb z0_2; replace z1_0 := keep hb z1_0; replace z1_1 := keep hb z1_1; replace z2_0 := keep hb z2_0; replace z2_1 := keep hb z2_1; have B4 := bl_trans B3 hb; clear hb) | (go_at_call 13; refine (rseg_err nx ny fd ax ay bx b_y _ o1 o2 o3 oa ob oc od h0).mono ?_; rintro e w_5 ⟨rfl, hb⟩; replace z0_0 := keep hb z0_0; replace z0_1 := keep hb z0_1; replace z0_2 := keep hb z0_2; replace z1_0 := keep hb z1_0; replace z1_1 := keep hb z1_1; replace z2_0 := keep hb z2_0; replace z2_1 := keep hb z2_1; have B5 := bl_trans B4 hb; clear hb; have m5 := hide True.intro) | (go_at_call 14; refine (same_nil none none 0 0 _).mono ?_; rintro e w_6 ⟨rfl, hb⟩; replace z0_0 := keep hb z0_0; replace z0_1 := keep hb z0_1; replace z0_2 := keep hb z0_2; replace z1_0 := keep hb z1_0; replace z1_1 := keep hb z1_1; replace z2_0 := keep hb z2_0; replace z2_1 := keep hb z2_1; have B6 := bl_trans B5 hb; clear hb))
  refine wp_loop_rounds 1 ?_
  rw [rounds_succ]
  go_wp2_with (first | (go_at_call 15; refine (spoil_nil _).mono ?_; rintro e w_s ⟨rfl, hb⟩; replace z0_0 := keep hb z0_0; replace z0_1 := keep hb z0_1; replace z0_2 := keep hb z0_2; replace z1_0 := keep hb z1_0; replace z1_1 := keep hb z1_1; replace z2_0 := keep hb z2_0; replace z2_1 := keep hb z2_1; have B6 := bl_trans B6 hb; clear hb))
  refine wp_loop_rounds 1 ?_
  rw [rounds_succ]
  go_wp2_with (first | (go_at_call 12; refine (seg_err nx ny fd ax ay bx b_y _ o1 o2 o3 oa ob oc od h0).mono ?_; rintro e w_7 ⟨rfl, hb⟩; replace z0_0 := keep hb z0_0; replace z0_1 := keep hb z0_1; replace z0_2 := keep hb z0_2; replace z1_0 := keep hb z1_0; replace z1_1 := keep hb z1_1; replace z2_0 := keep hb z2_0; replace z2_1 := keep hb z2_1; have B7 := bl_trans B6 hb; clear hb))
  have BE := B7
  haveI := belBy_some w_7
  have yz0_0 := belBy_cell z0_0
  have yz0_1 := belBy_cell z0_1
  have yz0_2 := belBy_cell z0_2
  refine wp_region_quiet_bel (by kernel_rfl) (by kernel_rfl) ?_
  repeat (go_big_quiet_step (first | (go_at_call 16; exact calls_bel (cchk_any _ _ _ _ o1 o2 o3)) | (go_at_call 17; exact calls_bel (rcchk_any _ _ _ _ o1 o2 o3)) | (go_at_call 18; exact calls_bel (ris9 _ _ _ (smK_self _ _))) | (go_at_call 14; exact calls_bel (same_nil none none 0 0 _))))
  refine wpQuiet_nil ?_
  rintro _ ⟨nq, rfl⟩
  go_wp2
  go_ret
  exact ⟨rfl, bl_trans BE nq.h⟩
set_option maxRecDepth 100000 in
set_option maxHeartbeats 8000000 in
theorem walk_00 (nx ny fd ax ay bx b_y : Nat) (w : World) (o1 : okK .f64 nx) (o2 : okK .f64 ny) (o3 : okK .f64 fd) (oa : okK .f64 ax) (ob : okK .f64 ay) (oc : okK .f64 bx) (od : okK .f64 b_y) (h0 : farE (nx, ny, fd) [(ax, ay), (bx, b_y)] = 0) (h1 : leK .f64 (frK (nx, ny, fd) (ax, ay)) 0 = false) (h2 : leK .f64 (frK (nx, ny, fd) (bx, b_y)) 0 = false) : Calls Try.prog 3 #[.agg #[.float .f64 nx, .float .f64 ny, .float .f64 fd], .agg #[.float .f64 ax, .float .f64 ay], .agg #[.float .f64 bx, .float .f64 b_y]] w fun e w' => e = .returned (.bool true) ∧ Bel w w' := by
  have z0_0 : (w.alloc (.cells #[.float .f64 nx, .float .f64 ny, .float .f64 fd] 26)).cell? ⟨w.heap.size, 0, none⟩ = some (.float .f64 nx) := by rw [World.cell?_alloc_new]; rfl
  replace z0_0 := up_alloc (o := .cells #[.float .f64 ax, .float .f64 ay] 24) z0_0
  replace z0_0 := up_alloc (o := .cells #[.float .f64 bx, .float .f64 b_y] 24) z0_0
  have z0_1 : (w.alloc (.cells #[.float .f64 nx, .float .f64 ny, .float .f64 fd] 26)).cell? ⟨w.heap.size, 1, none⟩ = some (.float .f64 ny) := by rw [World.cell?_alloc_new]; rfl
  replace z0_1 := up_alloc (o := .cells #[.float .f64 ax, .float .f64 ay] 24) z0_1
  replace z0_1 := up_alloc (o := .cells #[.float .f64 bx, .float .f64 b_y] 24) z0_1
  have z0_2 : (w.alloc (.cells #[.float .f64 nx, .float .f64 ny, .float .f64 fd] 26)).cell? ⟨w.heap.size, 2, none⟩ = some (.float .f64 fd) := by rw [World.cell?_alloc_new]; rfl
  replace z0_2 := up_alloc (o := .cells #[.float .f64 ax, .float .f64 ay] 24) z0_2
  replace z0_2 := up_alloc (o := .cells #[.float .f64 bx, .float .f64 b_y] 24) z0_2
  have z1_0 : ((w.alloc (.cells #[.float .f64 nx, .float .f64 ny, .float .f64 fd] 26)).alloc (.cells #[.float .f64 ax, .float .f64 ay] 24)).cell? ⟨w.heap.size + 1, 0, none⟩ = some (.float .f64 ax) := by rw [← (show (w.alloc (.cells #[.float .f64 nx, .float .f64 ny, .float .f64 fd] 26)).heap.size = w.heap.size + 1 by simp only [World.size_alloc]), World.cell?_alloc_new]; rfl
  replace z1_0 := up_alloc (o := .cells #[.float .f64 bx, .float .f64 b_y] 24) z1_0
  have z1_1 : ((w.alloc (.cells #[.float .f64 nx, .float .f64 ny, .float .f64 fd] 26)).alloc (.cells #[.float .f64 ax, .float .f64 ay] 24)).cell? ⟨w.heap.size + 1, 1, none⟩ = some (.float .f64 ay) := by rw [← (show (w.alloc (.cells #[.float .f64 nx, .float .f64 ny, .float .f64 fd] 26)).heap.size = w.heap.size + 1 by simp only [World.size_alloc]), World.cell?_alloc_new]; rfl
  replace z1_1 := up_alloc (o := .cells #[.float .f64 bx, .float .f64 b_y] 24) z1_1
  have z2_0 : (((w.alloc (.cells #[.float .f64 nx, .float .f64 ny, .float .f64 fd] 26)).alloc (.cells #[.float .f64 ax, .float .f64 ay] 24)).alloc (.cells #[.float .f64 bx, .float .f64 b_y] 24)).cell? ⟨w.heap.size + 1 + 1, 0, none⟩ = some (.float .f64 bx) := by rw [← (show ((w.alloc (.cells #[.float .f64 nx, .float .f64 ny, .float .f64 fd] 26)).alloc (.cells #[.float .f64 ax, .float .f64 ay] 24)).heap.size = w.heap.size + 1 + 1 by simp only [World.size_alloc]), World.cell?_alloc_new]; rfl
  have z2_1 : (((w.alloc (.cells #[.float .f64 nx, .float .f64 ny, .float .f64 fd] 26)).alloc (.cells #[.float .f64 ax, .float .f64 ay] 24)).alloc (.cells #[.float .f64 bx, .float .f64 b_y] 24)).cell? ⟨w.heap.size + 1 + 1, 1, none⟩ = some (.float .f64 b_y) := by rw [← (show ((w.alloc (.cells #[.float .f64 nx, .float .f64 ny, .float .f64 fd] 26)).alloc (.cells #[.float .f64 ax, .float .f64 ay] 24)).heap.size = w.heap.size + 1 + 1 by simp only [World.size_alloc]), World.cell?_alloc_new]; rfl
  have B0 : Bel w (((w.alloc (.cells #[.float .f64 nx, .float .f64 ny, .float .f64 fd] 26)).alloc (.cells #[.float .f64 ax, .float .f64 ay] 24)).alloc (.cells #[.float .f64 bx, .float .f64 b_y] 24)) := bl_alloc (bl_alloc (bl_alloc (bl_refl w) _ _) _ _) _ _
  go_enter Try.func3, Try.ntmps3
  go_wp2_with (first | (go_at_call 9; refine (awake9 _).mono ?_; rintro e w_1 ⟨rfl, hb⟩; replace z0_0 := keep hb z0_0; replace z0_1 := keep hb z0_1; replace z0_2 := keep hb z0_2; replace z1_0 := keep hb z1_0; replace z1_1 := keep hb z1_1; replace z2_0 := keep hb z2_0; replace z2_1 := keep hb z2_1; have B1 := bl_trans B0 hb; clear hb) | (go_at_call 10; refine (cfar_d nx ny fd ax ay _ o1 o2 o3 oa ob).mono ?_; rintro e w_2 ⟨rfl, hb⟩; replace z0_0 := keep hb z0_0; replace z0_1 := keep hb z0_1; replace z0_2 := keep hb z0_2; replace z1_0 := keep hb z1_0; replace z1_1 := keep hb z1_1; replace z2_0 := keep hb z2_0; replace z2_1 := keep hb z2_1; have B2 := bl_trans B1 hb; clear hb) | (go_at_call 11; refine (rcfar_d nx ny fd ax ay _ o1 o2 o3 oa ob).mono ?_; rintro e w_3 ⟨rfl, hb⟩; replace z0_0 := keep hb z0_0; replace z0_1 := keep hb z0_1; replace z0_2 := keep hb z0_2; replace z1_0 := keep hb z1_0; replace z1_1 := keep hb z1_1; replace z2_0 := keep hb z2_0; replace z2_1 := keep hb z2_1; have B3 := bl_trans B2 hb; clear hb) | (have zn := m5; clear zn; go_at_call 12; refine (seg_00 nx ny fd ax ay bx b_y _ o1 o2 o3 oa ob oc od h0 h1 h2).mono ?_; rintro e w_7 ⟨rfl, hb⟩; replace z0_0 := keep hb z0_0; replace z0_1 := keep hb z0_1; replace z0_2 := keep hb z0_2; replace z1_0 := keep hb z1_0; replace z1_1 := keep hb z1_1; replace z2_0 := keep hb z2_0; replace z2_1 := keep hb z2_1; have B7 := bl_trans B6 hb; clear hb) | (go_at_call 12; refine (seg_00 nx ny fd ax ay bx b_y _ o1 o2 o3 oa ob oc od h0 h1 h2).mono ?_; rintro e w_4 ⟨rfl, hb⟩; replace z0_0 := keep hb z0_0; replace z0_1 := keep hb z0_1; replace z0_2 := keep hb z0_2; replace z1_0 := keep hb z1_0; replace z1_1 := keep hb z1_1; replace z2_0 := keep hb z2_0; replace z2_1 := keep hb z2_1; have B4 := bl_trans B3 hb; clear hb) | (go_at_call 13; refine (rseg_00 nx ny fd ax ay bx b_y _ o1 o2 o3 oa ob oc od h0 h1 h2).mono ?_; rintro e w_5 ⟨rfl, hb⟩; replace z0_0 := keep hb z0_0; replace z0_1 := keep hb z0_1; replace z0_2 := keep hb z0_2; replace z1_0 := keep hb z1_0; replace z1_1 := keep hb z1_1; replace z2_0 := keep hb z2_0; replace z2_1 := keep hb z2_1; have B5 := bl_trans B4 hb; clear hb; have m5 := hide True.intro) | (go_at_call 14; refine (same_nil none none 0 0 _).mono ?_; rintro e w_6 ⟨rfl, hb⟩; replace z0_0 := keep hb z0_0; replace z0_1 := keep hb z0_1; replace z0_2 := keep hb z0_2; replace z1_0 := keep hb z1_0; replace z1_1 := keep hb z1_1; replace z2_0 := keep hb z2_0; replace z2_1 := keep hb z2_1; have B6 := bl_trans B5 hb; clear hb))
  refine wp_loop_rounds 1 ?_
  rw [rounds_succ]
  go_wp2_with (first | (go_at_call 15; refine (spoil_nil _).mono ?_; rintro e w_s ⟨rfl, hb⟩; replace z0_0 := keep hb z0_0; replace z0_1 := keep hb z0_1; replace z0_2 := keep hb z0_2; replace z1_0 := keep hb z1_0; replace z1_1 := keep hb z1_1; replace z2_0 := keep hb z2_0; replace z2_1 := keep hb z2_1; have B6 := bl_trans B6 hb; clear hb))
  refine wp_loop_rounds 1 ?_
  rw [rounds_succ]
  go_wp2_with (first | (go_at_call 12; refine (seg_00 nx ny fd ax ay bx b_y _ o1 o2 o3 oa ob oc od h0 h1 h2).mono ?_; rintro e w_7 ⟨rfl, hb⟩; replace z0_0 := keep hb z0_0; replace z0_1 := keep hb z0_1; replace z0_2 := keep hb z0_2; replace z1_0 := keep hb z1_0; replace z1_1 := keep hb z1_1; replace z2_0 := keep hb z2_0; replace z2_1 := keep hb z2_1; have B7 := bl_trans B6 hb; clear hb))
  have BE := B7
  haveI := belBy_some w_7
  have yz0_0 := belBy_cell z0_0
  have yz0_1 := belBy_cell z0_1
  have yz0_2 := belBy_cell z0_2
  refine wp_region_quiet_bel (by kernel_rfl) (by kernel_rfl) ?_
  repeat (go_big_quiet_step (first | (go_at_call 16; exact calls_bel (cchk_any _ _ _ _ o1 o2 o3)) | (go_at_call 17; exact calls_bel (rcchk_any _ _ _ _ o1 o2 o3)) | (go_at_call 18; exact calls_bel (ris9 _ _ _ (smK_self _ _))) | (go_at_call 14; exact calls_bel (same_nil none none 0 0 _))))
  refine wpQuiet_nil ?_
  rintro _ ⟨nq, rfl⟩
  go_wp2
  go_ret
  exact ⟨rfl, bl_trans BE nq.h⟩
set_option maxRecDepth 100000 in
set_option maxHeartbeats 8000000 in
theorem walk_11 (nx ny fd ax ay bx b_y : Nat) (w : World) (o1 : okK .f64 nx) (o2 : okK .f64 ny) (o3 : okK .f64 fd) (oa : okK .f64 ax) (ob : okK .f64 ay) (oc : okK .f64 bx) (od : okK .f64 b_y) (h0 : farE (nx, ny, fd) [(ax, ay), (bx, b_y)] = 0) (h1 : leK .f64 (frK (nx, ny, fd) (ax, ay)) 0 = true) (h2 : leK .f64 (frK (nx, ny, fd) (bx, b_y)) 0 = true) : Calls Try.prog 3 #[.agg #[.float .f64 nx, .float .f64 ny, .float .f64 fd], .agg #[.float .f64 ax, .float .f64 ay], .agg #[.float .f64 bx, .float .f64 b_y]] w fun e w' => e = .returned (.bool true) ∧ Bel w w' := by
  have z0_0 : (w.alloc (.cells #[.float .f64 nx, .float .f64 ny, .float .f64 fd] 26)).cell? ⟨w.heap.size, 0, none⟩ = some (.float .f64 nx) := by rw [World.cell?_alloc_new]; rfl
  replace z0_0 := up_alloc (o := .cells #[.float .f64 ax, .float .f64 ay] 24) z0_0
  replace z0_0 := up_alloc (o := .cells #[.float .f64 bx, .float .f64 b_y] 24) z0_0
  have z0_1 : (w.alloc (.cells #[.float .f64 nx, .float .f64 ny, .float .f64 fd] 26)).cell? ⟨w.heap.size, 1, none⟩ = some (.float .f64 ny) := by rw [World.cell?_alloc_new]; rfl
  replace z0_1 := up_alloc (o := .cells #[.float .f64 ax, .float .f64 ay] 24) z0_1
  replace z0_1 := up_alloc (o := .cells #[.float .f64 bx, .float .f64 b_y] 24) z0_1
  have z0_2 : (w.alloc (.cells #[.float .f64 nx, .float .f64 ny, .float .f64 fd] 26)).cell? ⟨w.heap.size, 2, none⟩ = some (.float .f64 fd) := by rw [World.cell?_alloc_new]; rfl
  replace z0_2 := up_alloc (o := .cells #[.float .f64 ax, .float .f64 ay] 24) z0_2
  replace z0_2 := up_alloc (o := .cells #[.float .f64 bx, .float .f64 b_y] 24) z0_2
  have z1_0 : ((w.alloc (.cells #[.float .f64 nx, .float .f64 ny, .float .f64 fd] 26)).alloc (.cells #[.float .f64 ax, .float .f64 ay] 24)).cell? ⟨w.heap.size + 1, 0, none⟩ = some (.float .f64 ax) := by rw [← (show (w.alloc (.cells #[.float .f64 nx, .float .f64 ny, .float .f64 fd] 26)).heap.size = w.heap.size + 1 by simp only [World.size_alloc]), World.cell?_alloc_new]; rfl
  replace z1_0 := up_alloc (o := .cells #[.float .f64 bx, .float .f64 b_y] 24) z1_0
  have z1_1 : ((w.alloc (.cells #[.float .f64 nx, .float .f64 ny, .float .f64 fd] 26)).alloc (.cells #[.float .f64 ax, .float .f64 ay] 24)).cell? ⟨w.heap.size + 1, 1, none⟩ = some (.float .f64 ay) := by rw [← (show (w.alloc (.cells #[.float .f64 nx, .float .f64 ny, .float .f64 fd] 26)).heap.size = w.heap.size + 1 by simp only [World.size_alloc]), World.cell?_alloc_new]; rfl
  replace z1_1 := up_alloc (o := .cells #[.float .f64 bx, .float .f64 b_y] 24) z1_1
  have z2_0 : (((w.alloc (.cells #[.float .f64 nx, .float .f64 ny, .float .f64 fd] 26)).alloc (.cells #[.float .f64 ax, .float .f64 ay] 24)).alloc (.cells #[.float .f64 bx, .float .f64 b_y] 24)).cell? ⟨w.heap.size + 1 + 1, 0, none⟩ = some (.float .f64 bx) := by rw [← (show ((w.alloc (.cells #[.float .f64 nx, .float .f64 ny, .float .f64 fd] 26)).alloc (.cells #[.float .f64 ax, .float .f64 ay] 24)).heap.size = w.heap.size + 1 + 1 by simp only [World.size_alloc]), World.cell?_alloc_new]; rfl
  have z2_1 : (((w.alloc (.cells #[.float .f64 nx, .float .f64 ny, .float .f64 fd] 26)).alloc (.cells #[.float .f64 ax, .float .f64 ay] 24)).alloc (.cells #[.float .f64 bx, .float .f64 b_y] 24)).cell? ⟨w.heap.size + 1 + 1, 1, none⟩ = some (.float .f64 b_y) := by rw [← (show ((w.alloc (.cells #[.float .f64 nx, .float .f64 ny, .float .f64 fd] 26)).alloc (.cells #[.float .f64 ax, .float .f64 ay] 24)).heap.size = w.heap.size + 1 + 1 by simp only [World.size_alloc]), World.cell?_alloc_new]; rfl
  have B0 : Bel w (((w.alloc (.cells #[.float .f64 nx, .float .f64 ny, .float .f64 fd] 26)).alloc (.cells #[.float .f64 ax, .float .f64 ay] 24)).alloc (.cells #[.float .f64 bx, .float .f64 b_y] 24)) := bl_alloc (bl_alloc (bl_alloc (bl_refl w) _ _) _ _) _ _
  go_enter Try.func3, Try.ntmps3
  go_wp2_with (first | (go_at_call 9; refine (awake9 _).mono ?_; rintro e w_1 ⟨rfl, hb⟩; replace z0_0 := keep hb z0_0; replace z0_1 := keep hb z0_1; replace z0_2 := keep hb z0_2; replace z1_0 := keep hb z1_0; replace z1_1 := keep hb z1_1; replace z2_0 := keep hb z2_0; replace z2_1 := keep hb z2_1; have B1 := bl_trans B0 hb; clear hb) | (go_at_call 10; refine (cfar_d nx ny fd ax ay _ o1 o2 o3 oa ob).mono ?_; rintro e w_2 ⟨rfl, hb⟩; replace z0_0 := keep hb z0_0; replace z0_1 := keep hb z0_1; replace z0_2 := keep hb z0_2; replace z1_0 := keep hb z1_0; replace z1_1 := keep hb z1_1; replace z2_0 := keep hb z2_0; replace z2_1 := keep hb z2_1; have B2 := bl_trans B1 hb; clear hb) | (go_at_call 11; refine (rcfar_d nx ny fd ax ay _ o1 o2 o3 oa ob).mono ?_; rintro e w_3 ⟨rfl, hb⟩; replace z0_0 := keep hb z0_0; replace z0_1 := keep hb z0_1; replace z0_2 := keep hb z0_2; replace z1_0 := keep hb z1_0; replace z1_1 := keep hb z1_1; replace z2_0 := keep hb z2_0; replace z2_1 := keep hb z2_1; have B3 := bl_trans B2 hb; clear hb) | (go_at_call 12; refine (seg_11 nx ny fd ax ay bx b_y _ o1 o2 o3 oa ob oc od h0 h1 h2).mono ?_; rintro e w_4 ⟨v4, g2, rfl, hF, hg2, hvg, f0, f1, hfz, hb⟩; obtain ⟨g1, rfl, h11, S1, h13⟩ := hF; have z3 := B3.size; have lb := World.block_lt_of_cell? _ _ z2_0; simp only at lb; have S1 := (show Sl w_4 g1 0 2 (px [(ax, ay), (bx, b_y)]) (py [(ax, ay), (bx, b_y)]) from S1); have l1 := S1.lt (by decide); have l2 := World.block_lt_of_cell? _ _ f0; simp only at l2; replace z0_0 := keep hb z0_0; replace z0_1 := keep hb z0_1; replace z0_2 := keep hb z0_2; replace z1_0 := keep hb z1_0; replace z1_1 := keep hb z1_1; replace z2_0 := keep hb z2_0; replace z2_1 := keep hb z2_1; have B4 := bl_trans B3 hb; clear hb) | (go_at_call 13; refine (rseg_11 nx ny fd ax ay bx b_y _ o1 o2 o3 oa ob oc od h0 h1 h2).mono ?_; rintro e w_5 ⟨g5, q5, rfl, hg5, S5, q50, q51, hb⟩; replace z0_0 := keep hb z0_0; replace z0_1 := keep hb z0_1; replace z0_2 := keep hb z0_2; replace z1_0 := keep hb z1_0; replace z1_1 := keep hb z1_1; replace z2_0 := keep hb z2_0; replace z2_1 := keep hb z2_1; replace S1 := S1.bel hb; replace f0 := keep hb f0; replace f1 := keep hb f1; have B5 := bl_trans B4 hb; have F5 : ∀ o, w_5.frozen? ⟨g2, o, none⟩ = false := fun o => (hb.2 _).trans (hfz o); have G5 : ∀ o, w_5.frozen? ⟨g1, o, none⟩ = false := fun o => (hb.2 _).trans (h13 o); clear hb) | (go_at_call 14; refine (same_eq g1 0 2 g5 0 2 2 (px [(ax, ay), (bx, b_y)]) (py [(ax, ay), (bx, b_y)]) _ S1 S5 (by unfold maxLen; omega) (Nat.le_refl _) (Nat.le_refl _)).mono ?_; rintro e w_6 ⟨rfl, hb⟩; replace z0_0 := keep hb z0_0; replace z0_1 := keep hb z0_1; replace z0_2 := keep hb z0_2; replace z1_0 := keep hb z1_0; replace z1_1 := keep hb z1_1; replace z2_0 := keep hb z2_0; replace z2_1 := keep hb z2_1; replace S1 := S1.bel hb; replace S5 := S5.bel hb; replace f0 := keep hb f0; replace f1 := keep hb f1; replace q50 := keep hb q50; replace q51 := keep hb q51; have B6 := bl_trans B5 hb; have F6 : ∀ o, w_6.frozen? ⟨g2, o, none⟩ = false := fun o => (hb.2 _).trans (F5 o); have G6 : ∀ o, w_6.frozen? ⟨g1, o, none⟩ = false := fun o => (hb.2 _).trans (G5 o); clear hb))
  have lq2 := World.block_lt_of_cell? _ _ f0
  have lq5 := World.block_lt_of_cell? _ _ q50
  simp only at lq2 lq5
  refine wp_loop_rounds 3 ?_
  rw [rounds_succ]
  haveI := belBy_some w_6
  have a0 := belBy_cell f0
  have a1 := belBy_cell q50
  have a2 := belBy_cell f1
  have a3 := belBy_cell q51
  go_wp2
  refine wp_region_quiet_bel (by kernel_rfl) (by kernel_rfl) ?_
  repeat (go_big_quiet_step (fail))
  refine wpQuiet_nil ?_
  rintro _ ⟨nq1, rfl⟩
  go_wp2
  rw [rounds_succ]
  haveI := belBy_some nq1.world
  have b0 := belBy_cell (keep nq1.h f0)
  have b1 := belBy_cell (keep nq1.h q50)
  have b2 := belBy_cell (keep nq1.h f1)
  have b3 := belBy_cell (keep nq1.h q51)
  have lq3 := Nat.lt_of_lt_of_le lq2 nq1.h.size
  have lq6 := Nat.lt_of_lt_of_le lq5 nq1.h.size
  go_wp2
  refine wp_region_quiet_bel (by kernel_rfl) (by kernel_rfl) ?_
  repeat (go_big_quiet_step (fail))
  refine wpQuiet_nil ?_
  rintro _ ⟨nq2, rfl⟩
  have hb12 := bl_trans nq1.h nq2.h
  replace z0_0 := keep hb12 z0_0
  replace z0_1 := keep hb12 z0_1
  replace z0_2 := keep hb12 z0_2
  replace z1_0 := keep hb12 z1_0
  replace z1_1 := keep hb12 z1_1
  replace z2_0 := keep hb12 z2_0
  replace z2_1 := keep hb12 z2_1
  replace S1 := S1.bel hb12
  replace S5 := S5.bel hb12
  replace f0 := keep hb12 f0
  replace f1 := keep hb12 f1
  have B7 := bl_trans B6 hb12
  have F7 : ∀ o, nq2.world.frozen? ⟨g2, o, none⟩ = false := fun o => (hb12.2 _).trans (F6 o)
  have G7 : ∀ o, nq2.world.frozen? ⟨g1, o, none⟩ = false := fun o => (hb12.2 _).trans (G6 o)
  have n12 : g1 ≠ g2 := fun h => hvg 0 2 (by rw [h]; rfl)
  have zg := hg2
  go_wp2
  rw [rounds_succ]
  go_wp2_with (first | (go_at_call 15; refine (spoil_full g1 2 (px [(ax, ay), (bx, b_y)]) (py [(ax, ay), (bx, b_y)]) nq2.world S1 (by decide) (by decide) G7).mono ?_; rintro e w_s ⟨rfl, hM⟩))
  have lz := World.block_lt_of_cell? _ _ z0_0
  have B8 := hM.bel w B7 (by omega)
  have mz : ∀ (c o : Nat) (u : Value), c ≠ g1 → nq2.world.cell? ⟨c, o, none⟩ = some u → w_s.cell? ⟨c, o, none⟩ = some u := fun c o u hc hu => (hM.cell c o (World.block_lt_of_cell? _ _ hu) hc).trans hu
  replace z0_0 := mz _ _ _ (by omega) z0_0
  replace z0_1 := mz _ _ _ (by omega) z0_1
  replace z0_2 := mz _ _ _ (by omega) z0_2
  replace z1_0 := mz _ _ _ (by omega) z1_0
  replace z1_1 := mz _ _ _ (by omega) z1_1
  replace z2_0 := mz _ _ _ (by omega) z2_0
  replace z2_1 := mz _ _ _ (by omega) z2_1
  replace f0 := mz _ _ _ (fun h => n12 h.symm) f0
  replace f1 := mz _ _ _ (fun h => n12 h.symm) f1
  have S5' : Sl w_s g5 0 2 (px [(ax, ay), (bx, b_y)]) (py [(ax, ay), (bx, b_y)]) := hM.sl S5 (by omega)
  have F8 : ∀ o, w_s.frozen? ⟨g2, o, none⟩ = false := fun o => (hM.fz _).trans (F7 o)
  have l8 := World.block_lt_of_cell? _ _ f0
  simp only at l8
  have f1' : (w_s.setCell ⟨g2, 0, none⟩ (.int .i64 9)).cell? ⟨g2, 1, none⟩ = some (.int .i64 1) := (far_off (by decide)).trans f1
  have F9 : ∀ o, (w_s.setCell ⟨g2, 0, none⟩ (.int .i64 9)).frozen? ⟨g2, o, none⟩ = false := fun o => (World.frozen?_setCell _ _ _ _).trans (F8 o)
  have l9 : g2 < (w_s.setCell ⟨g2, 0, none⟩ (.int .i64 9)).heap.size := by rw [World.size_setCell]; exact l8
  obtain ⟨W9, hW9⟩ : ∃ X, ((w_s.setCell ⟨g2, 0, none⟩ (.int .i64 9)).setCell ⟨g2, 1, none⟩ (.int .i64 9)) = X := ⟨_, rfl⟩
  have M9 : Mo g2 w_s W9 := by rw [← hW9]; exact ((Mo.refl g2 w_s).set).set
  refine wp_loop_rounds 3 ?_
  rw [rounds_succ]
  go_wp2
  rw [rounds_succ]
  go_wp2
  rw [rounds_succ]
  have B9 := M9.bel w B8 (by omega)
  have mw : ∀ (c o : Nat) (u : Value), c ≠ g2 → w_s.cell? ⟨c, o, none⟩ = some u → W9.cell? ⟨c, o, none⟩ = some u := fun c o u hc hu => (M9.cell c o (World.block_lt_of_cell? _ _ hu) hc).trans hu
  replace z0_0 := mw _ _ _ (by omega) z0_0
  replace z0_1 := mw _ _ _ (by omega) z0_1
  replace z0_2 := mw _ _ _ (by omega) z0_2
  replace z1_0 := mw _ _ _ (by omega) z1_0
  replace z1_1 := mw _ _ _ (by omega) z1_1
  replace z2_0 := mw _ _ _ (by omega) z2_0
  replace z2_1 := mw _ _ _ (by omega) z2_1
  have S9 : Sl W9 g5 0 2 (px [(ax, ay), (bx, b_y)]) (py [(ax, ay), (bx, b_y)]) := M9.sl S5' (by omega)
  clear hW9
  go_wp2_with (first | (go_at_call 12; refine (seg_11 nx ny fd ax ay bx b_y _ o1 o2 o3 oa ob oc od h0 h1 h2).mono ?_; rintro e w_9 ⟨v9, g9, rfl, hF9, hg9, hvg9, f09, f19, hfz9, hb⟩; obtain ⟨g91, rfl, h91, S91, h93⟩ := hF9; have S91 := (show Sl w_9 g91 0 2 (px [(ax, ay), (bx, b_y)]) (py [(ax, ay), (bx, b_y)]) from S91); replace z0_0 := keep hb z0_0; replace z0_1 := keep hb z0_1; replace z0_2 := keep hb z0_2; replace z1_0 := keep hb z1_0; replace z1_1 := keep hb z1_1; replace z2_0 := keep hb z2_0; replace z2_1 := keep hb z2_1; replace S9 := S9.bel hb; have BE := bl_trans B9 hb; clear hb))
  haveI := belBy_some w_9
  have yz0_0 := belBy_cell z0_0
  have yz0_1 := belBy_cell z0_1
  have yz0_2 := belBy_cell z0_2
  refine wp_region_quiet_bel (by kernel_rfl) (by kernel_rfl) ?_
  repeat (go_big_quiet_step (first | (go_at_call 16; exact calls_bel (cchk_any _ _ _ _ o1 o2 o3)) | (go_at_call 17; exact calls_bel (rcchk_any _ _ _ _ o1 o2 o3)) | (go_at_call 18; exact calls_bel (ris9 _ _ _ (smK_self _ _))) | (go_at_call 14; exact calls_bel (same_eq g91 0 2 g5 0 2 2 (px [(ax, ay), (bx, b_y)]) (py [(ax, ay), (bx, b_y)]) _ (S91.bel (BelBy.h _)) (S9.bel (BelBy.h _)) (by unfold maxLen; omega) (Nat.le_refl _) (Nat.le_refl _)))))
  refine wpQuiet_nil ?_
  rintro _ ⟨nq, rfl⟩
  go_wp2
  go_ret
  exact ⟨rfl, bl_trans BE nq.h⟩
set_option maxRecDepth 100000 in
set_option maxHeartbeats 8000000 in
theorem walk_10 (nx ny fd ax ay bx b_y : Nat) (w : World) (o1 : okK .f64 nx) (o2 : okK .f64 ny) (o3 : okK .f64 fd) (oa : okK .f64 ax) (ob : okK .f64 ay) (oc : okK .f64 bx) (od : okK .f64 b_y) (h0 : farE (nx, ny, fd) [(ax, ay), (bx, b_y)] = 0) (h1 : leK .f64 (frK (nx, ny, fd) (ax, ay)) 0 = true) (h2 : leK .f64 (frK (nx, ny, fd) (bx, b_y)) 0 = false) : Calls Try.prog 3 #[.agg #[.float .f64 nx, .float .f64 ny, .float .f64 fd], .agg #[.float .f64 ax, .float .f64 ay], .agg #[.float .f64 bx, .float .f64 b_y]] w fun e w' => e = .returned (.bool true) ∧ Bel w w' := by
  have z0_0 : (w.alloc (.cells #[.float .f64 nx, .float .f64 ny, .float .f64 fd] 26)).cell? ⟨w.heap.size, 0, none⟩ = some (.float .f64 nx) := by rw [World.cell?_alloc_new]; rfl
  replace z0_0 := up_alloc (o := .cells #[.float .f64 ax, .float .f64 ay] 24) z0_0
  replace z0_0 := up_alloc (o := .cells #[.float .f64 bx, .float .f64 b_y] 24) z0_0
  have z0_1 : (w.alloc (.cells #[.float .f64 nx, .float .f64 ny, .float .f64 fd] 26)).cell? ⟨w.heap.size, 1, none⟩ = some (.float .f64 ny) := by rw [World.cell?_alloc_new]; rfl
  replace z0_1 := up_alloc (o := .cells #[.float .f64 ax, .float .f64 ay] 24) z0_1
  replace z0_1 := up_alloc (o := .cells #[.float .f64 bx, .float .f64 b_y] 24) z0_1
  have z0_2 : (w.alloc (.cells #[.float .f64 nx, .float .f64 ny, .float .f64 fd] 26)).cell? ⟨w.heap.size, 2, none⟩ = some (.float .f64 fd) := by rw [World.cell?_alloc_new]; rfl
  replace z0_2 := up_alloc (o := .cells #[.float .f64 ax, .float .f64 ay] 24) z0_2
  replace z0_2 := up_alloc (o := .cells #[.float .f64 bx, .float .f64 b_y] 24) z0_2
  have z1_0 : ((w.alloc (.cells #[.float .f64 nx, .float .f64 ny, .float .f64 fd] 26)).alloc (.cells #[.float .f64 ax, .float .f64 ay] 24)).cell? ⟨w.heap.size + 1, 0, none⟩ = some (.float .f64 ax) := by rw [← (show (w.alloc (.cells #[.float .f64 nx, .float .f64 ny, .float .f64 fd] 26)).heap.size = w.heap.size + 1 by simp only [World.size_alloc]), World.cell?_alloc_new]; rfl
  replace z1_0 := up_alloc (o := .cells #[.float .f64 bx, .float .f64 b_y] 24) z1_0
  have z1_1 : ((w.alloc (.cells #[.float .f64 nx, .float .f64 ny, .float .f64 fd] 26)).alloc (.cells #[.float .f64 ax, .float .f64 ay] 24)).cell? ⟨w.heap.size + 1, 1, none⟩ = some (.float .f64 ay) := by rw [← (show (w.alloc (.cells #[.float .f64 nx, .float .f64 ny, .float .f64 fd] 26)).heap.size = w.heap.size + 1 by simp only [World.size_alloc]), World.cell?_alloc_new]; rfl
  replace z1_1 := up_alloc (o := .cells #[.float .f64 bx, .float .f64 b_y] 24) z1_1
  have z2_0 : (((w.alloc (.cells #[.float .f64 nx, .float .f64 ny, .float .f64 fd] 26)).alloc (.cells #[.float .f64 ax, .float .f64 ay] 24)).alloc (.cells #[.float .f64 bx, .float .f64 b_y] 24)).cell? ⟨w.heap.size + 1 + 1, 0, none⟩ = some (.float .f64 bx) := by rw [← (show ((w.alloc (.cells #[.float .f64 nx, .float .f64 ny, .float .f64 fd] 26)).alloc (.cells #[.float .f64 ax, .float .f64 ay] 24)).heap.size = w.heap.size + 1 + 1 by simp only [World.size_alloc]), World.cell?_alloc_new]; rfl
  have z2_1 : (((w.alloc (.cells #[.float .f64 nx, .float .f64 ny, .float .f64 fd] 26)).alloc (.cells #[.float .f64 ax, .float .f64 ay] 24)).alloc (.cells #[.float .f64 bx, .float .f64 b_y] 24)).cell? ⟨w.heap.size + 1 + 1, 1, none⟩ = some (.float .f64 b_y) := by rw [← (show ((w.alloc (.cells #[.float .f64 nx, .float .f64 ny, .float .f64 fd] 26)).alloc (.cells #[.float .f64 ax, .float .f64 ay] 24)).heap.size = w.heap.size + 1 + 1 by simp only [World.size_alloc]), World.cell?_alloc_new]; rfl
  have B0 : Bel w (((w.alloc (.cells #[.float .f64 nx, .float .f64 ny, .float .f64 fd] 26)).alloc (.cells #[.float .f64 ax, .float .f64 ay] 24)).alloc (.cells #[.float .f64 bx, .float .f64 b_y] 24)) := bl_alloc (bl_alloc (bl_alloc (bl_refl w) _ _) _ _) _ _
  go_enter Try.func3, Try.ntmps3
  go_wp2_with (first | (go_at_call 9; refine (awake9 _).mono ?_; rintro e w_1 ⟨rfl, hb⟩; replace z0_0 := keep hb z0_0; replace z0_1 := keep hb z0_1; replace z0_2 := keep hb z0_2; replace z1_0 := keep hb z1_0; replace z1_1 := keep hb z1_1; replace z2_0 := keep hb z2_0; replace z2_1 := keep hb z2_1; have B1 := bl_trans B0 hb; clear hb) | (go_at_call 10; refine (cfar_d nx ny fd ax ay _ o1 o2 o3 oa ob).mono ?_; rintro e w_2 ⟨rfl, hb⟩; replace z0_0 := keep hb z0_0; replace z0_1 := keep hb z0_1; replace z0_2 := keep hb z0_2; replace z1_0 := keep hb z1_0; replace z1_1 := keep hb z1_1; replace z2_0 := keep hb z2_0; replace z2_1 := keep hb z2_1; have B2 := bl_trans B1 hb; clear hb) | (go_at_call 11; refine (rcfar_d nx ny fd ax ay _ o1 o2 o3 oa ob).mono ?_; rintro e w_3 ⟨rfl, hb⟩; replace z0_0 := keep hb z0_0; replace z0_1 := keep hb z0_1; replace z0_2 := keep hb z0_2; replace z1_0 := keep hb z1_0; replace z1_1 := keep hb z1_1; replace z2_0 := keep hb z2_0; replace z2_1 := keep hb z2_1; have B3 := bl_trans B2 hb; clear hb) | (go_at_call 12; refine (seg_10 nx ny fd ax ay bx b_y _ o1 o2 o3 oa ob oc od h0 h1 h2).mono ?_; rintro e w_4 ⟨v4, g2, rfl, hF, hg2, hvg, f0, f1, hfz, hb⟩; obtain ⟨g1, rfl, h11, S1, h13⟩ := hF; have z3 := B3.size; have lb := World.block_lt_of_cell? _ _ z2_0; simp only at lb; have S1 := (show Sl w_4 g1 0 2 (px [(ax, ay), (cuP (nx, ny, fd) (ax, ay) (bx, b_y))]) (py [(ax, ay), (cuP (nx, ny, fd) (ax, ay) (bx, b_y))]) from S1); have l1 := S1.lt (by decide); have l2 := World.block_lt_of_cell? _ _ f0; simp only at l2; replace z0_0 := keep hb z0_0; replace z0_1 := keep hb z0_1; replace z0_2 := keep hb z0_2; replace z1_0 := keep hb z1_0; replace z1_1 := keep hb z1_1; replace z2_0 := keep hb z2_0; replace z2_1 := keep hb z2_1; have B4 := bl_trans B3 hb; clear hb) | (go_at_call 13; refine (rseg_10 nx ny fd ax ay bx b_y _ o1 o2 o3 oa ob oc od h0 h1 h2).mono ?_; rintro e w_5 ⟨g5, q5, rfl, hg5, S5, q50, q51, hb⟩; replace z0_0 := keep hb z0_0; replace z0_1 := keep hb z0_1; replace z0_2 := keep hb z0_2; replace z1_0 := keep hb z1_0; replace z1_1 := keep hb z1_1; replace z2_0 := keep hb z2_0; replace z2_1 := keep hb z2_1; replace S1 := S1.bel hb; replace f0 := keep hb f0; replace f1 := keep hb f1; have B5 := bl_trans B4 hb; have F5 : ∀ o, w_5.frozen? ⟨g2, o, none⟩ = false := fun o => (hb.2 _).trans (hfz o); have G5 : ∀ o, w_5.frozen? ⟨g1, o, none⟩ = false := fun o => (hb.2 _).trans (h13 o); clear hb) | (go_at_call 14; refine (same_eq g1 0 2 g5 0 2 2 (px [(ax, ay), (cuP (nx, ny, fd) (ax, ay) (bx, b_y))]) (py [(ax, ay), (cuP (nx, ny, fd) (ax, ay) (bx, b_y))]) _ S1 S5 (by unfold maxLen; omega) (Nat.le_refl _) (Nat.le_refl _)).mono ?_; rintro e w_6 ⟨rfl, hb⟩; replace z0_0 := keep hb z0_0; replace z0_1 := keep hb z0_1; replace z0_2 := keep hb z0_2; replace z1_0 := keep hb z1_0; replace z1_1 := keep hb z1_1; replace z2_0 := keep hb z2_0; replace z2_1 := keep hb z2_1; replace S1 := S1.bel hb; replace S5 := S5.bel hb; replace f0 := keep hb f0; replace f1 := keep hb f1; replace q50 := keep hb q50; replace q51 := keep hb q51; have B6 := bl_trans B5 hb; have F6 : ∀ o, w_6.frozen? ⟨g2, o, none⟩ = false := fun o => (hb.2 _).trans (F5 o); have G6 : ∀ o, w_6.frozen? ⟨g1, o, none⟩ = false := fun o => (hb.2 _).trans (G5 o); clear hb))
  have lq2 := World.block_lt_of_cell? _ _ f0
  have lq5 := World.block_lt_of_cell? _ _ q50
  simp only at lq2 lq5
  refine wp_loop_rounds 3 ?_
  rw [rounds_succ]
  haveI := belBy_some w_6
  have a0 := belBy_cell f0
  have a1 := belBy_cell q50
  have a2 := belBy_cell f1
  have a3 := belBy_cell q51
  go_wp2
  refine wp_region_quiet_bel (by kernel_rfl) (by kernel_rfl) ?_
  repeat (go_big_quiet_step (fail))
  refine wpQuiet_nil ?_
  rintro _ ⟨nq1, rfl⟩
  go_wp2
  rw [rounds_succ]
  haveI := belBy_some nq1.world
  have b0 := belBy_cell (keep nq1.h f0)
  have b1 := belBy_cell (keep nq1.h q50)
  have b2 := belBy_cell (keep nq1.h f1)
  have b3 := belBy_cell (keep nq1.h q51)
  have lq3 := Nat.lt_of_lt_of_le lq2 nq1.h.size
  have lq6 := Nat.lt_of_lt_of_le lq5 nq1.h.size
  go_wp2
  refine wp_region_quiet_bel (by kernel_rfl) (by kernel_rfl) ?_
  repeat (go_big_quiet_step (fail))
  refine wpQuiet_nil ?_
  rintro _ ⟨nq2, rfl⟩
  have hb12 := bl_trans nq1.h nq2.h
  replace z0_0 := keep hb12 z0_0
  replace z0_1 := keep hb12 z0_1
  replace z0_2 := keep hb12 z0_2
  replace z1_0 := keep hb12 z1_0
  replace z1_1 := keep hb12 z1_1
  replace z2_0 := keep hb12 z2_0
  replace z2_1 := keep hb12 z2_1
  replace S1 := S1.bel hb12
  replace S5 := S5.bel hb12
  replace f0 := keep hb12 f0
  replace f1 := keep hb12 f1
  have B7 := bl_trans B6 hb12
  have F7 : ∀ o, nq2.world.frozen? ⟨g2, o, none⟩ = false := fun o => (hb12.2 _).trans (F6 o)
  have G7 : ∀ o, nq2.world.frozen? ⟨g1, o, none⟩ = false := fun o => (hb12.2 _).trans (G6 o)
  have n12 : g1 ≠ g2 := fun h => hvg 0 2 (by rw [h]; rfl)
  have zg := hg2
  go_wp2
  rw [rounds_succ]
  go_wp2_with (first | (go_at_call 15; refine (spoil_full g1 2 (px [(ax, ay), (cuP (nx, ny, fd) (ax, ay) (bx, b_y))]) (py [(ax, ay), (cuP (nx, ny, fd) (ax, ay) (bx, b_y))]) nq2.world S1 (by decide) (by decide) G7).mono ?_; rintro e w_s ⟨rfl, hM⟩))
  have lz := World.block_lt_of_cell? _ _ z0_0
  have B8 := hM.bel w B7 (by omega)
  have mz : ∀ (c o : Nat) (u : Value), c ≠ g1 → nq2.world.cell? ⟨c, o, none⟩ = some u → w_s.cell? ⟨c, o, none⟩ = some u := fun c o u hc hu => (hM.cell c o (World.block_lt_of_cell? _ _ hu) hc).trans hu
  replace z0_0 := mz _ _ _ (by omega) z0_0
  replace z0_1 := mz _ _ _ (by omega) z0_1
  replace z0_2 := mz _ _ _ (by omega) z0_2
  replace z1_0 := mz _ _ _ (by omega) z1_0
  replace z1_1 := mz _ _ _ (by omega) z1_1
  replace z2_0 := mz _ _ _ (by omega) z2_0
  replace z2_1 := mz _ _ _ (by omega) z2_1
  replace f0 := mz _ _ _ (fun h => n12 h.symm) f0
  replace f1 := mz _ _ _ (fun h => n12 h.symm) f1
  have S5' : Sl w_s g5 0 2 (px [(ax, ay), (cuP (nx, ny, fd) (ax, ay) (bx, b_y))]) (py [(ax, ay), (cuP (nx, ny, fd) (ax, ay) (bx, b_y))]) := hM.sl S5 (by omega)
  have F8 : ∀ o, w_s.frozen? ⟨g2, o, none⟩ = false := fun o => (hM.fz _).trans (F7 o)
  have l8 := World.block_lt_of_cell? _ _ f0
  simp only at l8
  have f1' : (w_s.setCell ⟨g2, 0, none⟩ (.int .i64 9)).cell? ⟨g2, 1, none⟩ = some (.int .i64 2) := (far_off (by decide)).trans f1
  have F9 : ∀ o, (w_s.setCell ⟨g2, 0, none⟩ (.int .i64 9)).frozen? ⟨g2, o, none⟩ = false := fun o => (World.frozen?_setCell _ _ _ _).trans (F8 o)
  have l9 : g2 < (w_s.setCell ⟨g2, 0, none⟩ (.int .i64 9)).heap.size := by rw [World.size_setCell]; exact l8
  obtain ⟨W9, hW9⟩ : ∃ X, ((w_s.setCell ⟨g2, 0, none⟩ (.int .i64 9)).setCell ⟨g2, 1, none⟩ (.int .i64 9)) = X := ⟨_, rfl⟩
  have M9 : Mo g2 w_s W9 := by rw [← hW9]; exact ((Mo.refl g2 w_s).set).set
  refine wp_loop_rounds 3 ?_
  rw [rounds_succ]
  go_wp2
  rw [rounds_succ]
  go_wp2
  rw [rounds_succ]
  have B9 := M9.bel w B8 (by omega)
  have mw : ∀ (c o : Nat) (u : Value), c ≠ g2 → w_s.cell? ⟨c, o, none⟩ = some u → W9.cell? ⟨c, o, none⟩ = some u := fun c o u hc hu => (M9.cell c o (World.block_lt_of_cell? _ _ hu) hc).trans hu
  replace z0_0 := mw _ _ _ (by omega) z0_0
  replace z0_1 := mw _ _ _ (by omega) z0_1
  replace z0_2 := mw _ _ _ (by omega) z0_2
  replace z1_0 := mw _ _ _ (by omega) z1_0
  replace z1_1 := mw _ _ _ (by omega) z1_1
  replace z2_0 := mw _ _ _ (by omega) z2_0
  replace z2_1 := mw _ _ _ (by omega) z2_1
  have S9 : Sl W9 g5 0 2 (px [(ax, ay), (cuP (nx, ny, fd) (ax, ay) (bx, b_y))]) (py [(ax, ay), (cuP (nx, ny, fd) (ax, ay) (bx, b_y))]) := M9.sl S5' (by omega)
  clear hW9
  go_wp2_with (first | (go_at_call 12; refine (seg_10 nx ny fd ax ay bx b_y _ o1 o2 o3 oa ob oc od h0 h1 h2).mono ?_; rintro e w_9 ⟨v9, g9, rfl, hF9, hg9, hvg9, f09, f19, hfz9, hb⟩; obtain ⟨g91, rfl, h91, S91, h93⟩ := hF9; have S91 := (show Sl w_9 g91 0 2 (px [(ax, ay), (cuP (nx, ny, fd) (ax, ay) (bx, b_y))]) (py [(ax, ay), (cuP (nx, ny, fd) (ax, ay) (bx, b_y))]) from S91); replace z0_0 := keep hb z0_0; replace z0_1 := keep hb z0_1; replace z0_2 := keep hb z0_2; replace z1_0 := keep hb z1_0; replace z1_1 := keep hb z1_1; replace z2_0 := keep hb z2_0; replace z2_1 := keep hb z2_1; replace S9 := S9.bel hb; have BE := bl_trans B9 hb; clear hb))
  haveI := belBy_some w_9
  have yz0_0 := belBy_cell z0_0
  have yz0_1 := belBy_cell z0_1
  have yz0_2 := belBy_cell z0_2
  refine wp_region_quiet_bel (by kernel_rfl) (by kernel_rfl) ?_
  repeat (go_big_quiet_step (first | (go_at_call 16; exact calls_bel (cchk_any _ _ _ _ o1 o2 o3)) | (go_at_call 17; exact calls_bel (rcchk_any _ _ _ _ o1 o2 o3)) | (go_at_call 18; exact calls_bel (ris9 _ _ _ (smK_self _ _))) | (go_at_call 14; exact calls_bel (same_eq g91 0 2 g5 0 2 2 (px [(ax, ay), (cuP (nx, ny, fd) (ax, ay) (bx, b_y))]) (py [(ax, ay), (cuP (nx, ny, fd) (ax, ay) (bx, b_y))]) _ (S91.bel (BelBy.h _)) (S9.bel (BelBy.h _)) (by unfold maxLen; omega) (Nat.le_refl _) (Nat.le_refl _)))))
  refine wpQuiet_nil ?_
  rintro _ ⟨nq, rfl⟩
  go_wp2
  go_ret
  exact ⟨rfl, bl_trans BE nq.h⟩
set_option maxRecDepth 100000 in
set_option maxHeartbeats 8000000 in
theorem walk_01 (nx ny fd ax ay bx b_y : Nat) (w : World) (o1 : okK .f64 nx) (o2 : okK .f64 ny) (o3 : okK .f64 fd) (oa : okK .f64 ax) (ob : okK .f64 ay) (oc : okK .f64 bx) (od : okK .f64 b_y) (h0 : farE (nx, ny, fd) [(ax, ay), (bx, b_y)] = 0) (h1 : leK .f64 (frK (nx, ny, fd) (ax, ay)) 0 = false) (h2 : leK .f64 (frK (nx, ny, fd) (bx, b_y)) 0 = true) : Calls Try.prog 3 #[.agg #[.float .f64 nx, .float .f64 ny, .float .f64 fd], .agg #[.float .f64 ax, .float .f64 ay], .agg #[.float .f64 bx, .float .f64 b_y]] w fun e w' => e = .returned (.bool true) ∧ Bel w w' := by
  have z0_0 : (w.alloc (.cells #[.float .f64 nx, .float .f64 ny, .float .f64 fd] 26)).cell? ⟨w.heap.size, 0, none⟩ = some (.float .f64 nx) := by rw [World.cell?_alloc_new]; rfl
  replace z0_0 := up_alloc (o := .cells #[.float .f64 ax, .float .f64 ay] 24) z0_0
  replace z0_0 := up_alloc (o := .cells #[.float .f64 bx, .float .f64 b_y] 24) z0_0
  have z0_1 : (w.alloc (.cells #[.float .f64 nx, .float .f64 ny, .float .f64 fd] 26)).cell? ⟨w.heap.size, 1, none⟩ = some (.float .f64 ny) := by rw [World.cell?_alloc_new]; rfl
  replace z0_1 := up_alloc (o := .cells #[.float .f64 ax, .float .f64 ay] 24) z0_1
  replace z0_1 := up_alloc (o := .cells #[.float .f64 bx, .float .f64 b_y] 24) z0_1
  have z0_2 : (w.alloc (.cells #[.float .f64 nx, .float .f64 ny, .float .f64 fd] 26)).cell? ⟨w.heap.size, 2, none⟩ = some (.float .f64 fd) := by rw [World.cell?_alloc_new]; rfl
  replace z0_2 := up_alloc (o := .cells #[.float .f64 ax, .float .f64 ay] 24) z0_2
  replace z0_2 := up_alloc (o := .cells #[.float .f64 bx, .float .f64 b_y] 24) z0_2
  have z1_0 : ((w.alloc (.cells #[.float .f64 nx, .float .f64 ny, .float .f64 fd] 26)).alloc (.cells #[.float .f64 ax, .float .f64 ay] 24)).cell? ⟨w.heap.size + 1, 0, none⟩ = some (.float .f64 ax) := by rw [← (show (w.alloc (.cells #[.float .f64 nx, .float .f64 ny, .float .f64 fd] 26)).heap.size = w.heap.size + 1 by simp only [World.size_alloc]), World.cell?_alloc_new]; rfl
  replace z1_0 := up_alloc (o := .cells #[.float .f64 bx, .float .f64 b_y] 24) z1_0
  have z1_1 : ((w.alloc (.cells #[.float .f64 nx, .float .f64 ny, .float .f64 fd] 26)).alloc (.cells #[.float .f64 ax, .float .f64 ay] 24)).cell? ⟨w.heap.size + 1, 1, none⟩ = some (.float .f64 ay) := by rw [← (show (w.alloc (.cells #[.float .f64 nx, .float .f64 ny, .float .f64 fd] 26)).heap.size = w.heap.size + 1 by simp only [World.size_alloc]), World.cell?_alloc_new]; rfl
  replace z1_1 := up_alloc (o := .cells #[.float .f64 bx, .float .f64 b_y] 24) z1_1
  have z2_0 : (((w.alloc (.cells #[.float .f64 nx, .float .f64 ny, .float .f64 fd] 26)).alloc (.cells #[.float .f64 ax, .float .f64 ay] 24)).alloc (.cells #[.float .f64 bx, .float .f64 b_y] 24)).cell? ⟨w.heap.size + 1 + 1, 0, none⟩ = some (.float .f64 bx) := by rw [← (show ((w.alloc (.cells #[.float .f64 nx, .float .f64 ny, .float .f64 fd] 26)).alloc (.cells #[.float .f64 ax, .float .f64 ay] 24)).heap.size = w.heap.size + 1 + 1 by simp only [World.size_alloc]), World.cell?_alloc_new]; rfl
  have z2_1 : (((w.alloc (.cells #[.float .f64 nx, .float .f64 ny, .float .f64 fd] 26)).alloc (.cells #[.float .f64 ax, .float .f64 ay] 24)).alloc (.cells #[.float .f64 bx, .float .f64 b_y] 24)).cell? ⟨w.heap.size + 1 + 1, 1, none⟩ = some (.float .f64 b_y) := by rw [← (show ((w.alloc (.cells #[.float .f64 nx, .float .f64 ny, .float .f64 fd] 26)).alloc (.cells #[.float .f64 ax, .float .f64 ay] 24)).heap.size = w.heap.size + 1 + 1 by simp only [World.size_alloc]), World.cell?_alloc_new]; rfl
  have B0 : Bel w (((w.alloc (.cells #[.float .f64 nx, .float .f64 ny, .float .f64 fd] 26)).alloc (.cells #[.float .f64 ax, .float .f64 ay] 24)).alloc (.cells #[.float .f64 bx, .float .f64 b_y] 24)) := bl_alloc (bl_alloc (bl_alloc (bl_refl w) _ _) _ _) _ _
  go_enter Try.func3, Try.ntmps3
  go_wp2_with (first | (go_at_call 9; refine (awake9 _).mono ?_; rintro e w_1 ⟨rfl, hb⟩; replace z0_0 := keep hb z0_0; replace z0_1 := keep hb z0_1; replace z0_2 := keep hb z0_2; replace z1_0 := keep hb z1_0; replace z1_1 := keep hb z1_1; replace z2_0 := keep hb z2_0; replace z2_1 := keep hb z2_1; have B1 := bl_trans B0 hb; clear hb) | (go_at_call 10; refine (cfar_d nx ny fd ax ay _ o1 o2 o3 oa ob).mono ?_; rintro e w_2 ⟨rfl, hb⟩; replace z0_0 := keep hb z0_0; replace z0_1 := keep hb z0_1; replace z0_2 := keep hb z0_2; replace z1_0 := keep hb z1_0; replace z1_1 := keep hb z1_1; replace z2_0 := keep hb z2_0; replace z2_1 := keep hb z2_1; have B2 := bl_trans B1 hb; clear hb) | (go_at_call 11; refine (rcfar_d nx ny fd ax ay _ o1 o2 o3 oa ob).mono ?_; rintro e w_3 ⟨rfl, hb⟩; replace z0_0 := keep hb z0_0; replace z0_1 := keep hb z0_1; replace z0_2 := keep hb z0_2; replace z1_0 := keep hb z1_0; replace z1_1 := keep hb z1_1; replace z2_0 := keep hb z2_0; replace z2_1 := keep hb z2_1; have B3 := bl_trans B2 hb; clear hb) | (go_at_call 12; refine (seg_01 nx ny fd ax ay bx b_y _ o1 o2 o3 oa ob oc od h0 h1 h2).mono ?_; rintro e w_4 ⟨v4, g2, rfl, hF, hg2, hvg, f0, f1, hfz, hb⟩; obtain ⟨g1, rfl, h11, S1, h13⟩ := hF; have z3 := B3.size; have lb := World.block_lt_of_cell? _ _ z2_0; simp only at lb; have S1 := (show Sl w_4 g1 0 2 (px [(cuP (nx, ny, fd) (ax, ay) (bx, b_y)), (bx, b_y)]) (py [(cuP (nx, ny, fd) (ax, ay) (bx, b_y)), (bx, b_y)]) from S1); have l1 := S1.lt (by decide); have l2 := World.block_lt_of_cell? _ _ f0; simp only at l2; replace z0_0 := keep hb z0_0; replace z0_1 := keep hb z0_1; replace z0_2 := keep hb z0_2; replace z1_0 := keep hb z1_0; replace z1_1 := keep hb z1_1; replace z2_0 := keep hb z2_0; replace z2_1 := keep hb z2_1; have B4 := bl_trans B3 hb; clear hb) | (go_at_call 13; refine (rseg_01 nx ny fd ax ay bx b_y _ o1 o2 o3 oa ob oc od h0 h1 h2).mono ?_; rintro e w_5 ⟨g5, q5, rfl, hg5, S5, q50, q51, hb⟩; replace z0_0 := keep hb z0_0; replace z0_1 := keep hb z0_1; replace z0_2 := keep hb z0_2; replace z1_0 := keep hb z1_0; replace z1_1 := keep hb z1_1; replace z2_0 := keep hb z2_0; replace z2_1 := keep hb z2_1; replace S1 := S1.bel hb; replace f0 := keep hb f0; replace f1 := keep hb f1; have B5 := bl_trans B4 hb; have F5 : ∀ o, w_5.frozen? ⟨g2, o, none⟩ = false := fun o => (hb.2 _).trans (hfz o); have G5 : ∀ o, w_5.frozen? ⟨g1, o, none⟩ = false := fun o => (hb.2 _).trans (h13 o); clear hb) | (go_at_call 14; refine (same_eq g1 0 2 g5 0 2 2 (px [(cuP (nx, ny, fd) (ax, ay) (bx, b_y)), (bx, b_y)]) (py [(cuP (nx, ny, fd) (ax, ay) (bx, b_y)), (bx, b_y)]) _ S1 S5 (by unfold maxLen; omega) (Nat.le_refl _) (Nat.le_refl _)).mono ?_; rintro e w_6 ⟨rfl, hb⟩; replace z0_0 := keep hb z0_0; replace z0_1 := keep hb z0_1; replace z0_2 := keep hb z0_2; replace z1_0 := keep hb z1_0; replace z1_1 := keep hb z1_1; replace z2_0 := keep hb z2_0; replace z2_1 := keep hb z2_1; replace S1 := S1.bel hb; replace S5 := S5.bel hb; replace f0 := keep hb f0; replace f1 := keep hb f1; replace q50 := keep hb q50; replace q51 := keep hb q51; have B6 := bl_trans B5 hb; have F6 : ∀ o, w_6.frozen? ⟨g2, o, none⟩ = false := fun o => (hb.2 _).trans (F5 o); have G6 : ∀ o, w_6.frozen? ⟨g1, o, none⟩ = false := fun o => (hb.2 _).trans (G5 o); clear hb))
  have lq2 := World.block_lt_of_cell? _ _ f0
  have lq5 := World.block_lt_of_cell? _ _ q50
  simp only at lq2 lq5
  refine wp_loop_rounds 3 ?_
  rw [rounds_succ]
  haveI := belBy_some w_6
  have a0 := belBy_cell f0
  have a1 := belBy_cell q50
  have a2 := belBy_cell f1
  have a3 := belBy_cell q51
  go_wp2
  refine wp_region_quiet_bel (by kernel_rfl) (by kernel_rfl) ?_
  repeat (go_big_quiet_step (fail))
  refine wpQuiet_nil ?_
  rintro _ ⟨nq1, rfl⟩
  go_wp2
  rw [rounds_succ]
  haveI := belBy_some nq1.world
  have b0 := belBy_cell (keep nq1.h f0)
  have b1 := belBy_cell (keep nq1.h q50)
  have b2 := belBy_cell (keep nq1.h f1)
  have b3 := belBy_cell (keep nq1.h q51)
  have lq3 := Nat.lt_of_lt_of_le lq2 nq1.h.size
  have lq6 := Nat.lt_of_lt_of_le lq5 nq1.h.size
  go_wp2
  refine wp_region_quiet_bel (by kernel_rfl) (by kernel_rfl) ?_
  repeat (go_big_quiet_step (fail))
  refine wpQuiet_nil ?_
  rintro _ ⟨nq2, rfl⟩
  have hb12 := bl_trans nq1.h nq2.h
  replace z0_0 := keep hb12 z0_0
  replace z0_1 := keep hb12 z0_1
  replace z0_2 := keep hb12 z0_2
  replace z1_0 := keep hb12 z1_0
  replace z1_1 := keep hb12 z1_1
  replace z2_0 := keep hb12 z2_0
  replace z2_1 := keep hb12 z2_1
  replace S1 := S1.bel hb12
  replace S5 := S5.bel hb12
  replace f0 := keep hb12 f0
  replace f1 := keep hb12 f1
  have B7 := bl_trans B6 hb12
  have F7 : ∀ o, nq2.world.frozen? ⟨g2, o, none⟩ = false := fun o => (hb12.2 _).trans (F6 o)
  have G7 : ∀ o, nq2.world.frozen? ⟨g1, o, none⟩ = false := fun o => (hb12.2 _).trans (G6 o)
  have n12 : g1 ≠ g2 := fun h => hvg 0 2 (by rw [h]; rfl)
  have zg := hg2
  go_wp2
  rw [rounds_succ]
  go_wp2_with (first | (go_at_call 15; refine (spoil_full g1 2 (px [(cuP (nx, ny, fd) (ax, ay) (bx, b_y)), (bx, b_y)]) (py [(cuP (nx, ny, fd) (ax, ay) (bx, b_y)), (bx, b_y)]) nq2.world S1 (by decide) (by decide) G7).mono ?_; rintro e w_s ⟨rfl, hM⟩))
  have lz := World.block_lt_of_cell? _ _ z0_0
  have B8 := hM.bel w B7 (by omega)
  have mz : ∀ (c o : Nat) (u : Value), c ≠ g1 → nq2.world.cell? ⟨c, o, none⟩ = some u → w_s.cell? ⟨c, o, none⟩ = some u := fun c o u hc hu => (hM.cell c o (World.block_lt_of_cell? _ _ hu) hc).trans hu
  replace z0_0 := mz _ _ _ (by omega) z0_0
  replace z0_1 := mz _ _ _ (by omega) z0_1
  replace z0_2 := mz _ _ _ (by omega) z0_2
  replace z1_0 := mz _ _ _ (by omega) z1_0
  replace z1_1 := mz _ _ _ (by omega) z1_1
  replace z2_0 := mz _ _ _ (by omega) z2_0
  replace z2_1 := mz _ _ _ (by omega) z2_1
  replace f0 := mz _ _ _ (fun h => n12 h.symm) f0
  replace f1 := mz _ _ _ (fun h => n12 h.symm) f1
  have S5' : Sl w_s g5 0 2 (px [(cuP (nx, ny, fd) (ax, ay) (bx, b_y)), (bx, b_y)]) (py [(cuP (nx, ny, fd) (ax, ay) (bx, b_y)), (bx, b_y)]) := hM.sl S5 (by omega)
  have F8 : ∀ o, w_s.frozen? ⟨g2, o, none⟩ = false := fun o => (hM.fz _).trans (F7 o)
  have l8 := World.block_lt_of_cell? _ _ f0
  simp only at l8
  have f1' : (w_s.setCell ⟨g2, 0, none⟩ (.int .i64 9)).cell? ⟨g2, 1, none⟩ = some (.int .i64 1) := (far_off (by decide)).trans f1
  have F9 : ∀ o, (w_s.setCell ⟨g2, 0, none⟩ (.int .i64 9)).frozen? ⟨g2, o, none⟩ = false := fun o => (World.frozen?_setCell _ _ _ _).trans (F8 o)
  have l9 : g2 < (w_s.setCell ⟨g2, 0, none⟩ (.int .i64 9)).heap.size := by rw [World.size_setCell]; exact l8
  obtain ⟨W9, hW9⟩ : ∃ X, ((w_s.setCell ⟨g2, 0, none⟩ (.int .i64 9)).setCell ⟨g2, 1, none⟩ (.int .i64 9)) = X := ⟨_, rfl⟩
  have M9 : Mo g2 w_s W9 := by rw [← hW9]; exact ((Mo.refl g2 w_s).set).set
  refine wp_loop_rounds 3 ?_
  rw [rounds_succ]
  go_wp2
  rw [rounds_succ]
  go_wp2
  rw [rounds_succ]
  have B9 := M9.bel w B8 (by omega)
  have mw : ∀ (c o : Nat) (u : Value), c ≠ g2 → w_s.cell? ⟨c, o, none⟩ = some u → W9.cell? ⟨c, o, none⟩ = some u := fun c o u hc hu => (M9.cell c o (World.block_lt_of_cell? _ _ hu) hc).trans hu
  replace z0_0 := mw _ _ _ (by omega) z0_0
  replace z0_1 := mw _ _ _ (by omega) z0_1
  replace z0_2 := mw _ _ _ (by omega) z0_2
  replace z1_0 := mw _ _ _ (by omega) z1_0
  replace z1_1 := mw _ _ _ (by omega) z1_1
  replace z2_0 := mw _ _ _ (by omega) z2_0
  replace z2_1 := mw _ _ _ (by omega) z2_1
  have S9 : Sl W9 g5 0 2 (px [(cuP (nx, ny, fd) (ax, ay) (bx, b_y)), (bx, b_y)]) (py [(cuP (nx, ny, fd) (ax, ay) (bx, b_y)), (bx, b_y)]) := M9.sl S5' (by omega)
  clear hW9
  go_wp2_with (first | (go_at_call 12; refine (seg_01 nx ny fd ax ay bx b_y _ o1 o2 o3 oa ob oc od h0 h1 h2).mono ?_; rintro e w_9 ⟨v9, g9, rfl, hF9, hg9, hvg9, f09, f19, hfz9, hb⟩; obtain ⟨g91, rfl, h91, S91, h93⟩ := hF9; have S91 := (show Sl w_9 g91 0 2 (px [(cuP (nx, ny, fd) (ax, ay) (bx, b_y)), (bx, b_y)]) (py [(cuP (nx, ny, fd) (ax, ay) (bx, b_y)), (bx, b_y)]) from S91); replace z0_0 := keep hb z0_0; replace z0_1 := keep hb z0_1; replace z0_2 := keep hb z0_2; replace z1_0 := keep hb z1_0; replace z1_1 := keep hb z1_1; replace z2_0 := keep hb z2_0; replace z2_1 := keep hb z2_1; replace S9 := S9.bel hb; have BE := bl_trans B9 hb; clear hb))
  haveI := belBy_some w_9
  have yz0_0 := belBy_cell z0_0
  have yz0_1 := belBy_cell z0_1
  have yz0_2 := belBy_cell z0_2
  refine wp_region_quiet_bel (by kernel_rfl) (by kernel_rfl) ?_
  repeat (go_big_quiet_step (first | (go_at_call 16; exact calls_bel (cchk_any _ _ _ _ o1 o2 o3)) | (go_at_call 17; exact calls_bel (rcchk_any _ _ _ _ o1 o2 o3)) | (go_at_call 18; exact calls_bel (ris9 _ _ _ (smK_self _ _))) | (go_at_call 14; exact calls_bel (same_eq g91 0 2 g5 0 2 2 (px [(cuP (nx, ny, fd) (ax, ay) (bx, b_y)), (bx, b_y)]) (py [(cuP (nx, ny, fd) (ax, ay) (bx, b_y)), (bx, b_y)]) _ (S91.bel (BelBy.h _)) (S9.bel (BelBy.h _)) (by unfold maxLen; omega) (Nat.le_refl _) (Nat.le_refl _)))))
  refine wpQuiet_nil ?_
  rintro _ ⟨nq, rfl⟩
  go_wp2
  go_ret
  exact ⟨rfl, bl_trans BE nq.h⟩

set_option maxRecDepth 100000 in
set_option maxHeartbeats 400000 in
theorem walk (nx0 ny0 fd0 : Nat) (x1 y1 : Nat) (x2 y2 : Nat) (onx0 : okK .f64 nx0) (ony0 : okK .f64 ny0) (ofd0 : okK .f64 fd0) (ox1 : okK .f64 x1) (oy1 : okK .f64 y1) (ox2 : okK .f64 x2) (oy2 : okK .f64 y2) (w : World) :
    Calls Try.prog 3 #[.agg #[.float .f64 nx0, .float .f64 ny0, .float .f64 fd0], .agg #[.float .f64 x1, .float .f64 y1], .agg #[.float .f64 x2, .float .f64 y2]] w fun e w' => e = .returned (.bool true) ∧ Bel w w' := by
  by_cases h0 : farE (nx0, ny0, fd0) [(x1, y1), (x2, y2)] = 0
  · cases h1 : leK .f64 (frK (nx0, ny0, fd0) (x1, y1)) 0 <;> cases h2 : leK .f64 (frK (nx0, ny0, fd0) (x2, y2)) 0
    · exact walk_00 nx0 ny0 fd0 x1 y1 x2 y2 w onx0 ony0 ofd0 ox1 oy1 ox2 oy2 h0 h1 h2
    · exact walk_01 nx0 ny0 fd0 x1 y1 x2 y2 w onx0 ony0 ofd0 ox1 oy1 ox2 oy2 h0 h1 h2
    · exact walk_10 nx0 ny0 fd0 x1 y1 x2 y2 w onx0 ony0 ofd0 ox1 oy1 ox2 oy2 h0 h1 h2
    · exact walk_11 nx0 ny0 fd0 x1 y1 x2 y2 w onx0 ony0 ofd0 ox1 oy1 ox2 oy2 h0 h1 h2
  · exact walk_err nx0 ny0 fd0 x1 y1 x2 y2 w onx0 ony0 ofd0 ox1 oy1 ox2 oy2 h0

set_option maxRecDepth 100000 in
theorem lifted (os : Os) (started : os.Started) (H : Type) (enc : TypeId × Value → H) :
    ReturnsInHanded {} Try.checked os 3 .any (Rows.clipSegmentSpec.pre6 enc Try.prog Try.f3 Rows.clipSegmentRow.domain false) (Rows.clipSegmentSpec.post enc Try.prog Try.f3 false true false false) := by
  refine returnsInHanded_of_change (C := Try.checked) own started (by kernel_rfl) Try.func3
    (ChangeSpec.witness6 (enc := enc) (C := Try.checked) false ⟨#[], #[.agg #[.float .f64 0, .float .f64 0, .float .f64 0], .agg #[.float .f64 0, .float .f64 0], .agg #[.float .f64 0, .float .f64 0]], []⟩ 8 (by kernel_rfl) (by kernel_rfl) (by kernel_rfl) (by kernel_rfl)) ?_
  intro W base args ds gs before hval0 hW hcnd _
  have hval : ∀ (j : Nat) t v, Try.f3.params[j]? = some t → args[j]? = some v → Value.okWide Try.prog W .any base t v := hval0
  have hW' := hW
  obtain ⟨p, q, hA0, hV, rfl, hfz, hnd⟩ := hW
  have hA : DataW.TrodAll enc Try.prog W 0 (fun _ => true) true Try.f3.params.toList args.toList ds p := hA0
  rw [Try.params3] at hA hval
  obtain ⟨v0, vs0, d0, ds0, p0, q0, hargs, rfl, rfl, h0, r0⟩ := trodAll_cons hA
  obtain ⟨v1, vs1, d1, ds1, p1, q1, rfl, rfl, rfl, h1, r1⟩ := trodAll_cons r0
  obtain ⟨v2, vs2, d2, ds2, p2, q2, rfl, rfl, rfl, h2, r2⟩ := trodAll_cons r1
  obtain ⟨rfl, rfl, rfl⟩ := trodAll_nil r2
  obtain rfl : args = #[v0, v1, v2] := by cases args; simp_all
  obtain ⟨rfl, rfl⟩ := trodVars_none hV
  obtain ⟨nx0, ny0, fd0, rfl, rfl, rfl, wnx0, wny0, wfd0⟩ := open_plane (hval 0 26 v0 rfl rfl) h0
  obtain ⟨c1, k1, z1, u1, m1, rfl, rfl, rfl, hz1, hu1⟩ := open_agg2 Try.underlying24 (by kernel_rfl) cellsV (hval 1 24 v1 rfl rfl) h1
  obtain ⟨x1, e0, rfl, wx1⟩ := trod_fl Try.underlying22 hz1
  obtain ⟨y1, e1, rfl, wy1⟩ := trod_fl Try.underlying22 hu1
  simp at e0 e1
  subst e0 e1
  obtain ⟨c2, k2, z2, u2, m2, rfl, rfl, rfl, hz2, hu2⟩ := open_agg2 Try.underlying24 (by kernel_rfl) cellsV (hval 2 24 v2 rfl rfl) h2
  obtain ⟨x2, e0, rfl, wx2⟩ := trod_fl Try.underlying22 hz2
  obtain ⟨y2, e1, rfl, wy2⟩ := trod_fl Try.underlying22 hu2
  simp at e0 e1
  subst e0 e1
  clear hA0 hval0
  simp only [List.append_nil] at hW'
  refine (walk nx0 ny0 fd0 x1 y1 x2 y2 (wf_f64 wnx0) (wf_f64 wny0) (wf_f64 wfd0) (wf_f64 wx1) (wf_f64 wy1) (wf_f64 wx2) (wf_f64 wy2) W).mono fun e W' ⟨he, hg0⟩ => ?_
  have hg := hg0.grown
  subst he
  exact ⟨_, rfl, post_of_same (pa := []) (pv := []) hW' (fun _ _ _ => (trodAll_cons_mk (shut_bool Try.underlying4 _) trodAll_mk0)) (fun sp _ => (trodAll_cons_mk (shut_plane wnx0 wny0 wfd0) (trodAll_cons_mk (shut_agg2 (y0 := (.lit (.float .f64 x1), [])) (y1 := (.lit (.float .f64 y1), [])) Try.underlying24 (by kernel_rfl) cellsV ⟨1, by simp [DataW.trod, Try.underlying22, wx1]⟩ ⟨1, by simp [DataW.trod, Try.underlying22, wy1]⟩) (trodAll_cons_mk (shut_agg2 (y0 := (.lit (.float .f64 x2), [])) (y1 := (.lit (.float .f64 y2), [])) Try.underlying24 (by kernel_rfl) cellsV ⟨1, by simp [DataW.trod, Try.underlying22, wx2]⟩ ⟨1, by simp [DataW.trod, Try.underlying22, wy2]⟩) trodAll_mk0)))) (fun _ _ => rfl) rfl
    (hg.frame _) hg.2.1 (ok_one (by kernel_rfl) rfl (okWide_bool_mk Try.underlying4 _))⟩

theorem over : Rows.clipSegmentRow.holds Try.pinned (OpenSpec.ofChange Rows.clipSegmentSpec) :=
  OpenClaim.holds_of_wide 3 Try.f3 rfl rfl rfl rfl rfl rfl rfl ⟨rfl, rfl, rfl, rfl, rfl⟩ rfl rfl rfl rfl rfl (by kernel_rfl) Try.func3 (by kernel_rfl)
    (of_decide_eq_true (by kernel_rfl)) (by unfold Func.isWrapper; first | (rw [if_pos (by decide +kernel)]; kernel_rfl) | (rw [if_neg (by decide +kernel)]; exact ⟨rfl, rfl⟩))
    (fun os started H enc _ => lifted os started H enc)

theorem proved : Rows.ClipSegmentSaid :=
  over
#print axioms proved
end Go.Proofs.Ytmgoancijepeoaa.clipSegment
