/-
  TurnRow: the row of turns is a row: each is like itself, of two the one stands ahead just if the other stands behind, ahead of what stands ahead is ahead, and what is the same stands at the same place; for all bits, no condition.
-/
import Derived.Test.YtbphmjfgpkjecabRows
import Derived.Test.YtbphmjfgpkjecabTref
import Derived.Test.YtbphmjfgpkjecabTawake
import Derived.WalkKit
import Derived.ProofKit
import Derived.OpenShut
import Derived.WalkLawsBesides
import Derived.WalkSpells
import Derived.Lib.SmallJoins
import Derived.Laws.Cover2
import Derived.Laws.Cover3
import Derived.Deep.RegionHeld3
namespace Go.Proofs.Ytbphmjfgpkjecab.turnRow
open Go.ChangeShapes Go.WideShapes Go.ChangeAt Go.RowKit Go.Joins
set_option linter.unusedVariables false
set_option linter.unusedSimpArgs false

theorem own : ownKnob Try.prog.godebug = none := by kernel_rfl
theorem cellsP : Try.prog.cellsOf 24 = 2 := by kernel_rfl
theorem nat_u64 {n : Int} (h : (Lit.int .u64 n).wf = true) : ∃ x : Nat, n = (x : Int) := by
  simp only [Lit.wf, Bool.and_eq_true, decide_eq_true_eq] at h
  have e1 : IntKind.u64.min = 0 := by decide +kernel
  rw [e1] at h
  exact ⟨n.toNat, by omega⟩
theorem wf_u64 {x : Nat} (h : (Lit.int .u64 (x : Int)).wf = true) : okK .f64 x := by
  rw [okK64]
  simp only [Lit.wf, Bool.and_eq_true, decide_eq_true_eq] at h
  have e1 : IntKind.u64.max = 18446744073709551615 := by decide +kernel
  rw [e1] at h
  omega
theorem trod_in {H : Type} {enc : TypeId × Value → H} {P : Program} {w : World} {base fuel : Nat} {spare : Nat → Bool} {held : Bool} {t : TypeId} {cs : List Value} {x : DataW H × List MemPlace} {k : IntKind} (ht : P.underlying t = some (.int k)) (h : DataW.trod enc P w base spare held fuel t cs = some x) : ∃ n, cs = [.int k n] ∧ x = (.lit (.int k n), []) ∧ (Lit.int k n).wf = true := by
  cases fuel with
  | zero => simp [DataW.trod] at h
  | succ n =>
    unfold DataW.trod at h
    rw [ht] at h
    split at h <;> simp_all
theorem wf_f64 {x : Nat} (h : (Lit.float .f64 x).wf = true) : okK .f64 x := by
  rw [okK64]; simpa [Lit.wf] using h
theorem trod_fl {H : Type} {enc : TypeId × Value → H} {P : Program} {w : World} {base fuel : Nat} {spare : Nat → Bool} {held : Bool} {t : TypeId} {cs : List Value} {x : DataW H × List MemPlace} {k : FloatKind} (ht : P.underlying t = some (.float k)) (h : DataW.trod enc P w base spare held fuel t cs = some x) : ∃ n, cs = [.float k n] ∧ x = (.lit (.float k n), []) ∧ (Lit.float k n).wf = true := by
  cases fuel with
  | zero => simp [DataW.trod] at h
  | succ n =>
    unfold DataW.trod at h
    rw [ht] at h
    split at h <;> simp_all

theorem up_set {W : World} {p a : Addr} {v x : Value} (hne : p.block ≠ a.block) (h : W.cell? a = some v) : (W.setCell p x).cell? a = some v := (World.cell?_setCell_far W p a x hne).trans h
theorem up_set2 {W : World} {b c o o' : Nat} {v x : Value} (hne : b ≠ c) (h : W.cell? ⟨c, o', none⟩ = some v) : (W.setCell ⟨b, o, none⟩ x).cell? ⟨c, o', none⟩ = some v := up_set hne h
theorem up_alloc {W : World} {a : Addr} {v : Value} {o : Obj} (h : W.cell? a = some v) : (W.alloc o).cell? a = some v := (World.cell?_alloc_some W a o (by rw [h]; rfl)).trans h
theorem up_drew {W : World} {a : Addr} {v : Value} (h : W.cell? a = some v) : W.drew.cell? a = some v := h
theorem up_drewN {W : World} {a : Addr} {v : Value} {n : Nat} (h : W.cell? a = some v) : (W.drewN n).cell? a = some v := h
theorem cell_own {W : World} {n : Nat} (h : n = W.heap.size) (a b : Value) (t : TypeId) : (W.alloc (Obj.cells #[a, b] t)).cell? ⟨n, 0, none⟩ = some a ∧ (W.alloc (Obj.cells #[a, b] t)).cell? ⟨n, 1, none⟩ = some b := by
  subst h
  exact ⟨by go_keep, by go_keep⟩

set_option maxRecDepth 100000 in
set_option maxHeartbeats 20000000 in
theorem walk (x0 y0 : Nat) (x1 y1 : Nat) (x2 y2 : Nat) (ox0 : okK .f64 x0) (oy0 : okK .f64 y0) (ox1 : okK .f64 x1) (oy1 : okK .f64 y1) (ox2 : okK .f64 x2) (oy2 : okK .f64 y2) (w : World) :
    Calls Try.prog 3 #[.agg #[.int .u64 (x0 : Nat), .int .u64 (y0 : Nat)], .agg #[.int .u64 (x1 : Nat), .int .u64 (y1 : Nat)], .agg #[.int .u64 (x2 : Nat), .int .u64 (y2 : Nat)]] w fun e w' => e = .returned (.bool true) ∧ Bel w w' := by
  have hself := ord_self x0 y0
  go_enter Try.func3, Try.ntmps3
  go_wp2_with (first | (go_at_call 4; refine (awake_any _).mono ?_; rintro e w1 ⟨rfl, hb⟩; have k_0_0 := keep hb (a := ⟨w.heap.size, 0, none⟩) (v := .int .u64 ((x0 : Nat) : Int)) (by first | assumption | go_keep | exact (cell_own (by simp) _ _ _).1 | exact (cell_own (by simp) _ _ _).2); have k_0_1 := keep hb (a := ⟨w.heap.size, 1, none⟩) (v := .int .u64 ((y0 : Nat) : Int)) (by first | assumption | go_keep | exact (cell_own (by simp) _ _ _).1 | exact (cell_own (by simp) _ _ _).2); have k_1_0 := keep hb (a := ⟨w.heap.size + 1, 0, none⟩) (v := .int .u64 ((x1 : Nat) : Int)) (by first | assumption | go_keep | exact (cell_own (by simp) _ _ _).1 | exact (cell_own (by simp) _ _ _).2); have k_1_1 := keep hb (a := ⟨w.heap.size + 1, 1, none⟩) (v := .int .u64 ((y1 : Nat) : Int)) (by first | assumption | go_keep | exact (cell_own (by simp) _ _ _).1 | exact (cell_own (by simp) _ _ _).2); have k_2_0 := keep hb (a := ⟨w.heap.size + 1 + 1, 0, none⟩) (v := .int .u64 ((x2 : Nat) : Int)) (by first | assumption | go_keep | exact (cell_own (by simp) _ _ _).1 | exact (cell_own (by simp) _ _ _).2); have k_2_1 := keep hb (a := ⟨w.heap.size + 1 + 1, 1, none⟩) (v := .int .u64 ((y2 : Nat) : Int)) (by first | assumption | go_keep | exact (cell_own (by simp) _ _ _).1 | exact (cell_own (by simp) _ _ _).2); have B := hide (bl_trans (a := w) (by repeat (first | exact unhide B | exact bl_refl _ | apply bl_drew | apply bl_drewN | apply bl_alloc | refine bl_set ?_ (by simp <;> omega))) hb); clear hb) | (go_at_call 5; refine (lnumber_any _ _ _).mono ?_; rintro e w1 ⟨rfl, hb⟩; have k_0_0 := keep hb (a := ⟨w.heap.size, 0, none⟩) (v := .int .u64 ((x0 : Nat) : Int)) (by first | assumption | go_keep | exact (cell_own (by simp) _ _ _).1 | exact (cell_own (by simp) _ _ _).2); have k_0_1 := keep hb (a := ⟨w.heap.size, 1, none⟩) (v := .int .u64 ((y0 : Nat) : Int)) (by first | assumption | go_keep | exact (cell_own (by simp) _ _ _).1 | exact (cell_own (by simp) _ _ _).2); have k_1_0 := keep hb (a := ⟨w.heap.size + 1, 0, none⟩) (v := .int .u64 ((x1 : Nat) : Int)) (by first | assumption | go_keep | exact (cell_own (by simp) _ _ _).1 | exact (cell_own (by simp) _ _ _).2); have k_1_1 := keep hb (a := ⟨w.heap.size + 1, 1, none⟩) (v := .int .u64 ((y1 : Nat) : Int)) (by first | assumption | go_keep | exact (cell_own (by simp) _ _ _).1 | exact (cell_own (by simp) _ _ _).2); have k_2_0 := keep hb (a := ⟨w.heap.size + 1 + 1, 0, none⟩) (v := .int .u64 ((x2 : Nat) : Int)) (by first | assumption | go_keep | exact (cell_own (by simp) _ _ _).1 | exact (cell_own (by simp) _ _ _).2); have k_2_1 := keep hb (a := ⟨w.heap.size + 1 + 1, 1, none⟩) (v := .int .u64 ((y2 : Nat) : Int)) (by first | assumption | go_keep | exact (cell_own (by simp) _ _ _).1 | exact (cell_own (by simp) _ _ _).2); have B := hide (bl_trans (a := w) (by repeat (first | exact unhide B | exact bl_refl _ | apply bl_drew | apply bl_drewN | apply bl_alloc | refine bl_set ?_ (by simp <;> omega))) hb); clear hb) | (go_at_call 6; have z := r1; clear z; refine (tOrder_any _ _ _ _ _).mono ?_; rintro e w1 ⟨rfl, hb⟩; have B := hide (bl_trans (a := w) (by repeat (first | exact unhide B | exact bl_refl _ | apply bl_drew | apply bl_drewN | apply bl_alloc | refine bl_set ?_ (by simp <;> omega))) hb); clear hb) | (go_at_call 6; refine (tOrder_any _ _ _ _ _).mono ?_; rintro e w1 ⟨rfl, hb⟩; have B := hide (bl_trans (a := w) (by repeat (first | exact unhide B | exact bl_refl _ | apply bl_drew | apply bl_drewN | apply bl_alloc | refine bl_set ?_ (by simp <;> omega))) hb); clear hb; rcases row_cases x0 y0 x1 y1 x2 y2 with ⟨r1, r2, r3, ⟨r4, r5⟩ | ⟨r4, r5⟩ | r4⟩ | ⟨r1, r2, ⟨r4, r5⟩ | ⟨r4, r5⟩ | ⟨r4, r5⟩⟩ | ⟨r1, r2, r3, r4 | ⟨r4, r5⟩ | ⟨r4, r5⟩⟩) | (go_at_call 7; refine (tSame_any _ _ _ _ (by assumption) (by assumption) (by assumption) (by assumption) _).mono ?_; rintro e w1 ⟨rfl, hb⟩; have B := hide (bl_trans (a := w) (by repeat (first | exact unhide B | exact bl_refl _ | apply bl_drew | apply bl_drewN | apply bl_alloc | refine bl_set ?_ (by simp <;> omega))) hb); clear hb; cases hsm : (smK .f64 x0 x1 && smK .f64 y0 y1)))
  all_goals first | (go_ret; exact ⟨rfl, (by repeat (first | exact unhide B | exact bl_refl _ | apply bl_drew | apply bl_drewN | apply bl_alloc | refine bl_set ?_ (by simp <;> omega)))⟩) | exact absurd (r3.symm.trans hsm) (by decide)

set_option maxRecDepth 100000 in
theorem lifted (os : Os) (started : os.Started) (H : Type) (enc : TypeId × Value → H) :
    ReturnsInHanded {} Try.checked os 3 .any (Rows.turnRowSpec.pre6 enc Try.prog Try.f3 Rows.turnRowRow.domain false) (Rows.turnRowSpec.post enc Try.prog Try.f3 false true false false) := by
  refine returnsInHanded_of_change (C := Try.checked) own started (by kernel_rfl) Try.func3
    (ChangeSpec.witness6 (enc := enc) (C := Try.checked) false ⟨#[], #[.agg #[.int .u64 0, .int .u64 0], .agg #[.int .u64 0, .int .u64 0], .agg #[.int .u64 0, .int .u64 0]], []⟩ 8 (by kernel_rfl) (by kernel_rfl) (by kernel_rfl) (by kernel_rfl)) ?_
  intro W base args ds gs before hval0 hW hcnd _
  have hval : ∀ (j : Nat) t v, Try.f3.params[j]? = some t → args[j]? = some v → Value.okWide Try.prog W .any base t v := hval0
  have hW' := hW
  obtain ⟨p, q, hA0, hV, rfl, hfz, hnd⟩ := hW
  have hA : DataW.TrodAll enc Try.prog W 0 (fun _ => true) true Try.f3.params.toList args.toList ds p := hA0
  rw [Try.params3] at hA hval
  obtain ⟨v0, vs0, d0, ds0, p0, q0, hargs, rfl, rfl, h0, r0⟩ := trodAll_cons hA
  obtain ⟨v1, vs1, d1, ds1, p1, q1, rfl, rfl, rfl, h1, r1⟩ := trodAll_cons r0
  obtain ⟨v2, vs2, d2, ds2, p2, q2, rfl, rfl, rfl, h2, r2⟩ := trodAll_cons r1
  obtain ⟨rfl, rfl, rfl⟩ := trodAll_nil r2
  obtain rfl : args = #[v0, v1, v2] := by cases args; simp_all
  obtain ⟨rfl, rfl⟩ := trodVars_none hV
  obtain ⟨c0, k0, z0, u0, m0, rfl, rfl, rfl, hz0, hu0⟩ := open_agg2 Try.underlying24 (by kernel_rfl) cellsP (hval 0 24 v0 rfl rfl) h0
  obtain ⟨x0, e0, rfl, wx0⟩ := trod_in Try.underlying22 hz0
  obtain ⟨y0, e1, rfl, wy0⟩ := trod_in Try.underlying22 hu0
  simp at e0 e1
  subst e0 e1
  obtain ⟨x0, rfl⟩ := nat_u64 wx0
  obtain ⟨y0, rfl⟩ := nat_u64 wy0
  obtain ⟨c1, k1, z1, u1, m1, rfl, rfl, rfl, hz1, hu1⟩ := open_agg2 Try.underlying24 (by kernel_rfl) cellsP (hval 1 24 v1 rfl rfl) h1
  obtain ⟨x1, e0, rfl, wx1⟩ := trod_in Try.underlying22 hz1
  obtain ⟨y1, e1, rfl, wy1⟩ := trod_in Try.underlying22 hu1
  simp at e0 e1
  subst e0 e1
  obtain ⟨x1, rfl⟩ := nat_u64 wx1
  obtain ⟨y1, rfl⟩ := nat_u64 wy1
  obtain ⟨c2, k2, z2, u2, m2, rfl, rfl, rfl, hz2, hu2⟩ := open_agg2 Try.underlying24 (by kernel_rfl) cellsP (hval 2 24 v2 rfl rfl) h2
  obtain ⟨x2, e0, rfl, wx2⟩ := trod_in Try.underlying22 hz2
  obtain ⟨y2, e1, rfl, wy2⟩ := trod_in Try.underlying22 hu2
  simp at e0 e1
  subst e0 e1
  obtain ⟨x2, rfl⟩ := nat_u64 wx2
  obtain ⟨y2, rfl⟩ := nat_u64 wy2
  clear hA0 hval0
  simp only [List.append_nil] at hW'
  refine (walk x0 y0 x1 y1 x2 y2 (wf_u64 wx0) (wf_u64 wy0) (wf_u64 wx1) (wf_u64 wy1) (wf_u64 wx2) (wf_u64 wy2) W).mono fun e W' ⟨he, hg0⟩ => ?_
  have hg := hg0.grown
  subst he
  exact ⟨_, rfl, post_of_same (pa := []) (pv := []) hW' (fun _ _ _ => (trodAll_cons_mk (shut_bool Try.underlying4 _) trodAll_mk0)) (fun sp _ => (trodAll_cons_mk (shut_agg2 (y0 := (.lit (.int .u64 x0), [])) (y1 := (.lit (.int .u64 y0), [])) Try.underlying24 (by kernel_rfl) cellsP ⟨1, by simp [DataW.trod, Try.underlying22, wx0]⟩ ⟨1, by simp [DataW.trod, Try.underlying22, wy0]⟩) (trodAll_cons_mk (shut_agg2 (y0 := (.lit (.int .u64 x1), [])) (y1 := (.lit (.int .u64 y1), [])) Try.underlying24 (by kernel_rfl) cellsP ⟨1, by simp [DataW.trod, Try.underlying22, wx1]⟩ ⟨1, by simp [DataW.trod, Try.underlying22, wy1]⟩) (trodAll_cons_mk (shut_agg2 (y0 := (.lit (.int .u64 x2), [])) (y1 := (.lit (.int .u64 y2), [])) Try.underlying24 (by kernel_rfl) cellsP ⟨1, by simp [DataW.trod, Try.underlying22, wx2]⟩ ⟨1, by simp [DataW.trod, Try.underlying22, wy2]⟩) trodAll_mk0)))) (fun _ _ => rfl) rfl
    (hg.frame _) hg.2.1 (ok_one (by kernel_rfl) rfl (okWide_bool_mk Try.underlying4 _))⟩

theorem over : Rows.turnRowRow.holds Try.pinned (OpenSpec.ofChange Rows.turnRowSpec) :=
  OpenClaim.holds_of_wide 3 Try.f3 rfl rfl rfl rfl rfl rfl rfl ⟨rfl, rfl, rfl, rfl, rfl⟩ rfl rfl rfl rfl rfl (by kernel_rfl) Try.func3 (by kernel_rfl)
    (of_decide_eq_true (by kernel_rfl)) (by unfold Func.isWrapper; first | (rw [if_pos (by decide +kernel)]; kernel_rfl) | (rw [if_neg (by decide +kernel)]; exact ⟨rfl, rfl⟩))
    (fun os started H enc _ => lifted os started H enc)

theorem proved : Rows.TurnRowSaid :=
  over
#print axioms proved
end Go.Proofs.Ytbphmjfgpkjecab.turnRow
