/-
  TurnQuarter: behind any turn a quarter exchanges its parts, no turn leaves it, four quarters are none, in either grouping; a quarter turns a way to the left wherever its parts are within 2^300; for all bits, no condition.
-/
import Derived.Test.YtbphmjfgpkjecaaRows
import Derived.Test.YtbphmjfgpkjecaaTlong
import Derived.Test.YtbphmjfgpkjecaaTref
import Derived.Test.YtbphmjfgpkjecaaTawake
import Derived.WalkKit
import Derived.ProofKit
import Derived.OpenShut
import Derived.WalkLawsBesides
import Derived.WalkSpells
import Derived.Lib.SmallJoins
import Derived.Laws.Cover2
import Derived.Laws.Cover3
import Derived.Deep.RegionHeld3
namespace Go.Proofs.Ytbphmjfgpkjecaa.turnQuarter
open Go.ChangeShapes Go.WideShapes Go.ChangeAt Go.RowKit Go.Joins
set_option linter.unusedVariables false
set_option linter.unusedSimpArgs false

theorem own : ownKnob Try.prog.godebug = none := by kernel_rfl
theorem cellsP : Try.prog.cellsOf 24 = 2 := by kernel_rfl
theorem nat_u64 {n : Int} (h : (Lit.int .u64 n).wf = true) : ∃ x : Nat, n = (x : Int) := by
  simp only [Lit.wf, Bool.and_eq_true, decide_eq_true_eq] at h
  have e1 : IntKind.u64.min = 0 := by decide +kernel
  rw [e1] at h
  exact ⟨n.toNat, by omega⟩
theorem wf_u64 {x : Nat} (h : (Lit.int .u64 (x : Int)).wf = true) : okK .f64 x := by
  rw [okK64]
  simp only [Lit.wf, Bool.and_eq_true, decide_eq_true_eq] at h
  have e1 : IntKind.u64.max = 18446744073709551615 := by decide +kernel
  rw [e1] at h
  omega
theorem trod_in {H : Type} {enc : TypeId × Value → H} {P : Program} {w : World} {base fuel : Nat} {spare : Nat → Bool} {held : Bool} {t : TypeId} {cs : List Value} {x : DataW H × List MemPlace} {k : IntKind} (ht : P.underlying t = some (.int k)) (h : DataW.trod enc P w base spare held fuel t cs = some x) : ∃ n, cs = [.int k n] ∧ x = (.lit (.int k n), []) ∧ (Lit.int k n).wf = true := by
  cases fuel with
  | zero => simp [DataW.trod] at h
  | succ n =>
    unfold DataW.trod at h
    rw [ht] at h
    split at h <;> simp_all
theorem wf_f64 {x : Nat} (h : (Lit.float .f64 x).wf = true) : okK .f64 x := by
  rw [okK64]; simpa [Lit.wf] using h
theorem trod_fl {H : Type} {enc : TypeId × Value → H} {P : Program} {w : World} {base fuel : Nat} {spare : Nat → Bool} {held : Bool} {t : TypeId} {cs : List Value} {x : DataW H × List MemPlace} {k : FloatKind} (ht : P.underlying t = some (.float k)) (h : DataW.trod enc P w base spare held fuel t cs = some x) : ∃ n, cs = [.float k n] ∧ x = (.lit (.float k n), []) ∧ (Lit.float k n).wf = true := by
  cases fuel with
  | zero => simp [DataW.trod] at h
  | succ n =>
    unfold DataW.trod at h
    rw [ht] at h
    split at h <;> simp_all

set_option maxRecDepth 100000 in
set_option maxHeartbeats 20000000 in
theorem walk (x0 y0 : Nat) (x1 y1 : Nat) (ox0 : okK .f64 x0) (oy0 : okK .f64 y0) (ox1 : okK .f64 x1) (oy1 : okK .f64 y1) (w : World) :
    Calls Try.prog 7 #[.agg #[.int .u64 (x0 : Nat), .int .u64 (y0 : Nat)], .agg #[.int .u64 (x1 : Nat), .int .u64 (y1 : Nat)]] w fun e w' => e = .returned (.bool true) ∧ Bel w w' := by
  have al := World.cell?_alloc_some
  have qn := run_neg Try.prog
  have c1 := cmp_eq .f64
  have c1' := cmp_ne .f64
  have c4 := cmp_lt .f64
  have c5 := lt_or_eq' .f64
  have e1 : errT true = 0 := rfl
  have e2 : errT false = 30 := rfl
  obtain ⟨X, sx⟩ : ∃ X, svK .f64 x0 = X := ⟨_, rfl⟩
  obtain ⟨Y, sy⟩ : ∃ Y, svK .f64 y0 = Y := ⟨_, rfl⟩
  cases hl1 : leK .f64 (rgK .f64 x1) 5958262307011166208 <;> cases hl2 : leK .f64 (rgK .f64 y1) 5958262307011166208
  all_goals
    go_enter Try.func7, Try.ntmps7
    go_wp2_with (first | (go_at_call 9; refine (awake_any _).mono ?_; rintro e w1 ⟨rfl, hb⟩; have k_0_0 := keep hb (a := ⟨w.heap.size, 0, none⟩) (v := .int .u64 ((x0 : Nat) : Int)) (by first | assumption | go_keep); have k_0_1 := keep hb (a := ⟨w.heap.size, 1, none⟩) (v := .int .u64 ((y0 : Nat) : Int)) (by first | assumption | go_keep); have k_1_0 := keep hb (a := ⟨w.heap.size + 1, 0, none⟩) (v := .int .u64 ((x1 : Nat) : Int)) (by first | assumption | go_keep); have k_1_1 := keep hb (a := ⟨w.heap.size + 1, 1, none⟩) (v := .int .u64 ((y1 : Nat) : Int)) (by first | assumption | go_keep); have B := hide (bl_trans (a := w) (by repeat (first | exact unhide B | exact bl_refl _ | apply bl_drew | apply bl_drewN | apply bl_alloc | refine bl_set ?_ (by simp <;> omega))) hb); clear hb) | (go_at_call 11; refine (lnumber_any _ _ _).mono ?_; rintro e w1 ⟨rfl, hb⟩; have k_0_0 := keep hb (a := ⟨w.heap.size, 0, none⟩) (v := .int .u64 ((x0 : Nat) : Int)) (by first | assumption | go_keep); have k_0_1 := keep hb (a := ⟨w.heap.size, 1, none⟩) (v := .int .u64 ((y0 : Nat) : Int)) (by first | assumption | go_keep); have k_1_0 := keep hb (a := ⟨w.heap.size + 1, 0, none⟩) (v := .int .u64 ((x1 : Nat) : Int)) (by first | assumption | go_keep); have k_1_1 := keep hb (a := ⟨w.heap.size + 1, 1, none⟩) (v := .int .u64 ((y1 : Nat) : Int)) (by first | assumption | go_keep); have B := hide (bl_trans (a := w) (by repeat (first | exact unhide B | exact bl_refl _ | apply bl_drew | apply bl_drewN | apply bl_alloc | refine bl_set ?_ (by simp <;> omega))) hb); clear hb) | (go_at_call 22; refine (tCheck_any _ _ _).mono ?_; rintro e w1 ⟨t1, hC, rfl, hb⟩; have hF := chk_fin hC; have k_1_0 := keep hb (a := ⟨w.heap.size + 1, 0, none⟩) (v := .int .u64 ((x1 : Nat) : Int)) (by first | assumption | go_keep); have k_1_1 := keep hb (a := ⟨w.heap.size + 1, 1, none⟩) (v := .int .u64 ((y1 : Nat) : Int)) (by first | assumption | go_keep); have B := hide (bl_trans (a := w) (by repeat (first | exact unhide B | exact bl_refl _ | apply bl_drew | apply bl_drewN | apply bl_alloc | refine bl_set ?_ (by simp <;> omega))) hb); clear hb; cases h1 : chk t1) | (go_at_call 38; refine (tQuarter_any _).mono ?_; rintro e w1 ⟨rfl, rfl⟩) | (go_at_call 39; refine (tOne_any _).mono ?_; rintro e w1 ⟨rfl, rfl⟩) | (go_at_call 24; refine (tThen_any _ _ _ _ _).mono ?_; rintro e w1 ⟨r, i, h, rfl, hb⟩; obtain ⟨rfl, rfl⟩ := then_ii h; clear h; have k_1_0 := keep hb (a := ⟨w.heap.size + 1, 0, none⟩) (v := .int .u64 ((x1 : Nat) : Int)) (by first | assumption | go_keep); have k_1_1 := keep hb (a := ⟨w.heap.size + 1, 1, none⟩) (v := .int .u64 ((y1 : Nat) : Int)) (by first | assumption | go_keep); have B := hide (bl_trans (a := w) (by repeat (first | exact unhide B | exact bl_refl _ | apply bl_drew | apply bl_drewN | apply bl_alloc | refine bl_set ?_ (by simp <;> omega))) hb); clear hb) | (go_at_call 24; refine (tThen_any _ _ _ _ _).mono ?_; rintro e w1 ⟨r, i, h, rfl, hb⟩; obtain ⟨rfl, rfl⟩ := then_iii h; clear h; have k_1_0 := keep hb (a := ⟨w.heap.size + 1, 0, none⟩) (v := .int .u64 ((x1 : Nat) : Int)) (by first | assumption | go_keep); have k_1_1 := keep hb (a := ⟨w.heap.size + 1, 1, none⟩) (v := .int .u64 ((y1 : Nat) : Int)) (by first | assumption | go_keep); have B := hide (bl_trans (a := w) (by repeat (first | exact unhide B | exact bl_refl _ | apply bl_drew | apply bl_drewN | apply bl_alloc | refine bl_set ?_ (by simp <;> omega))) hb); clear hb) | (go_at_call 24; refine (tThen_any _ _ _ _ _).mono ?_; rintro e w1 ⟨yr, yi, h, rfl, hb⟩; obtain ⟨fyr, fyi, eyr, eyi⟩ := stepQ oy0 (hF h1).1 (hF h1).2 sx sy h; obtain ⟨oyr, oyi⟩ := h.ok; have g1 := sv_eq_neg oy0 fyr (hF h1).2 eyr sy; have g2 := sv_eq fyi (hF h1).1 (eyi.trans sx.symm); clear h; have k_1_0 := keep hb (a := ⟨w.heap.size + 1, 0, none⟩) (v := .int .u64 ((x1 : Nat) : Int)) (by first | assumption | go_keep); have k_1_1 := keep hb (a := ⟨w.heap.size + 1, 1, none⟩) (v := .int .u64 ((y1 : Nat) : Int)) (by first | assumption | go_keep); have B := hide (bl_trans (a := w) (by repeat (first | exact unhide B | exact bl_refl _ | apply bl_drew | apply bl_drewN | apply bl_alloc | refine bl_set ?_ (by simp <;> omega))) hb); clear hb) | (go_at_call 24; refine (tThen_any _ _ _ _ _).mono ?_; rintro e w1 ⟨pr, pi, h, rfl, hb⟩; obtain ⟨fpr, fpi, epr, epi⟩ := stepQ oyi fyr fyi eyr eyi h; obtain ⟨opr, opi⟩ := h.ok; clear h; have k_1_0 := keep hb (a := ⟨w.heap.size + 1, 0, none⟩) (v := .int .u64 ((x1 : Nat) : Int)) (by first | assumption | go_keep); have k_1_1 := keep hb (a := ⟨w.heap.size + 1, 1, none⟩) (v := .int .u64 ((y1 : Nat) : Int)) (by first | assumption | go_keep); have B := hide (bl_trans (a := w) (by repeat (first | exact unhide B | exact bl_refl _ | apply bl_drew | apply bl_drewN | apply bl_alloc | refine bl_set ?_ (by simp <;> omega))) hb); clear hb) | (go_at_call 24; refine (tThen_any _ _ _ _ _).mono ?_; rintro e w1 ⟨zr, zi, h, rfl, hb⟩; obtain ⟨fzr, fzi, ezr, ezi⟩ := stepN opr opi fpr fpi epr epi h; have g3 := sv_eq fzr (hF h1).1 (by rw [ezr, sx]; omega); have g4 := sv_eq fzi (hF h1).2 (by rw [ezi, sy]; omega); clear h; have k_1_0 := keep hb (a := ⟨w.heap.size + 1, 0, none⟩) (v := .int .u64 ((x1 : Nat) : Int)) (by first | assumption | go_keep); have k_1_1 := keep hb (a := ⟨w.heap.size + 1, 1, none⟩) (v := .int .u64 ((y1 : Nat) : Int)) (by first | assumption | go_keep); have B := hide (bl_trans (a := w) (by repeat (first | exact unhide B | exact bl_refl _ | apply bl_drew | apply bl_drewN | apply bl_alloc | refine bl_set ?_ (by simp <;> omega))) hb); clear hb) | (go_at_call 24; refine (tThen_any _ _ _ _ _).mono ?_; rintro e w1 ⟨nr, ni, h, rfl, hb⟩; obtain ⟨fnr, fni, enr, eni⟩ := stepO (hF h1).1 (hF h1).2 sx sy h; have g5 := sv_eq fnr (hF h1).1 (by rw [enr, sx]); have g6 := sv_eq fni (hF h1).2 (by rw [eni, sy]); clear h; have k_1_0 := keep hb (a := ⟨w.heap.size + 1, 0, none⟩) (v := .int .u64 ((x1 : Nat) : Int)) (by first | assumption | go_keep); have k_1_1 := keep hb (a := ⟨w.heap.size + 1, 1, none⟩) (v := .int .u64 ((y1 : Nat) : Int)) (by first | assumption | go_keep); have B := hide (bl_trans (a := w) (by repeat (first | exact unhide B | exact bl_refl _ | apply bl_drew | apply bl_drewN | apply bl_alloc | refine bl_set ?_ (by simp <;> omega))) hb); clear hb) | (go_at_call 24; refine (tThen_any _ _ _ _ _).mono ?_; rintro e w1 ⟨tr, ti, h, rfl, hb⟩; obtain ⟨ftr, fti, etr, eti⟩ := stepT oyr fyr fyi eyr eyi h; have g7 := sv_eq fzr ftr (by rw [ezr, etr]; omega); have g8 := sv_eq fzi fti (by rw [ezi, eti]); clear h; have k_1_0 := keep hb (a := ⟨w.heap.size + 1, 0, none⟩) (v := .int .u64 ((x1 : Nat) : Int)) (by first | assumption | go_keep); have k_1_1 := keep hb (a := ⟨w.heap.size + 1, 1, none⟩) (v := .int .u64 ((y1 : Nat) : Int)) (by first | assumption | go_keep); have B := hide (bl_trans (a := w) (by repeat (first | exact unhide B | exact bl_refl _ | apply bl_drew | apply bl_drewN | apply bl_alloc | refine bl_set ?_ (by simp <;> omega))) hb); clear hb) | (go_at_call 14; refine (lway_any _ _ _).mono ?_; rintro e wu ⟨rfl, hb⟩; have B := hide (bl_trans (a := w) (by repeat (first | exact unhide B | exact bl_refl _ | apply bl_drew | apply bl_drewN | apply bl_alloc | refine bl_set ?_ (by simp <;> omega))) hb); clear hb) | (go_at_call 40; refine (abs_any _ _ (by assumption)).mono ?_; rintro e w1 ⟨rfl, rfl⟩))
  all_goals (try (go_ret; exact ⟨rfl, (by repeat (first | exact unhide B | exact bl_refl _ | apply bl_drew | apply bl_drewN | apply bl_alloc | refine bl_set ?_ (by simp <;> omega)))⟩))
  have zw := (unhide B).size
  have fw1 := small_fin hl1 (by decide +kernel) (by decide +kernel)
  have fw2 := small_fin hl2 (by decide +kernel) (by decide +kernel)
  go_region_held3 (fun w1 => w1.cell? ⟨wu.heap.size, 0, none⟩ = some (.float .f64 x1) ∧ w1.cell? ⟨wu.heap.size, 1, none⟩ = some (.float .f64 y1)) (first | go_keep | (go_split_ands; exact ⟨keep hb (by assumption), keep hb (by assumption)⟩))
    (first | (go_at_call 33; refine (tApply_any _ _ _ _ _).mono ?_; rintro e w1 ⟨ar, ai, h, rfl, hb⟩; obtain ⟨far, fai, ear, eai⟩ := stepQ oy1 fw1 fw2 rfl rfl (then_comm h); have g9 := sv_eq_neg oy1 far fw2 ear rfl; have g10 := sv_eq fai fw1 eai; obtain ⟨hc, hf⟩ := bcell hb; have hz := hb.size; simp at hz; have B := hide (bl_trans (a := w) (by repeat (first | exact unhide B | exact bl_refl _ | apply bl_drew | apply bl_drewN | apply bl_alloc | refine bl_set ?_ (by simp <;> omega))) hb)) | (go_at_call 38; refine (tQuarter_any _).mono ?_; rintro e w1 ⟨rfl, rfl⟩))
  all_goals go_wp2
  all_goals (go_ret; exact ⟨rfl, (by repeat (first | exact unhide B | exact bl_refl _ | apply bl_drew | apply bl_drewN | apply bl_alloc | refine bl_set ?_ (by simp <;> omega)))⟩)

set_option maxRecDepth 100000 in
theorem lifted (os : Os) (started : os.Started) (H : Type) (enc : TypeId × Value → H) :
    ReturnsInHanded {} Try.checked os 7 .any (Rows.turnQuarterSpec.pre6 enc Try.prog Try.f7 Rows.turnQuarterRow.domain false) (Rows.turnQuarterSpec.post enc Try.prog Try.f7 false true false false) := by
  refine returnsInHanded_of_change (C := Try.checked) own started (by kernel_rfl) Try.func7
    (ChangeSpec.witness6 (enc := enc) (C := Try.checked) false ⟨#[], #[.agg #[.int .u64 0, .int .u64 0], .agg #[.int .u64 0, .int .u64 0]], []⟩ 8 (by kernel_rfl) (by kernel_rfl) (by kernel_rfl) (by kernel_rfl)) ?_
  intro W base args ds gs before hval0 hW hcnd _
  have hval : ∀ (j : Nat) t v, Try.f7.params[j]? = some t → args[j]? = some v → Value.okWide Try.prog W .any base t v := hval0
  have hW' := hW
  obtain ⟨p, q, hA0, hV, rfl, hfz, hnd⟩ := hW
  have hA : DataW.TrodAll enc Try.prog W 0 (fun _ => true) true Try.f7.params.toList args.toList ds p := hA0
  rw [Try.params7] at hA hval
  obtain ⟨v0, vs0, d0, ds0, p0, q0, hargs, rfl, rfl, h0, r0⟩ := trodAll_cons hA
  obtain ⟨v1, vs1, d1, ds1, p1, q1, rfl, rfl, rfl, h1, r1⟩ := trodAll_cons r0
  obtain ⟨rfl, rfl, rfl⟩ := trodAll_nil r1
  obtain rfl : args = #[v0, v1] := by cases args; simp_all
  obtain ⟨rfl, rfl⟩ := trodVars_none hV
  obtain ⟨c0, k0, z0, u0, m0, rfl, rfl, rfl, hz0, hu0⟩ := open_agg2 Try.underlying24 (by kernel_rfl) cellsP (hval 0 24 v0 rfl rfl) h0
  obtain ⟨x0, e0, rfl, wx0⟩ := trod_in Try.underlying22 hz0
  obtain ⟨y0, e1, rfl, wy0⟩ := trod_in Try.underlying22 hu0
  simp at e0 e1
  subst e0 e1
  obtain ⟨x0, rfl⟩ := nat_u64 wx0
  obtain ⟨y0, rfl⟩ := nat_u64 wy0
  obtain ⟨c1, k1, z1, u1, m1, rfl, rfl, rfl, hz1, hu1⟩ := open_agg2 Try.underlying24 (by kernel_rfl) cellsP (hval 1 24 v1 rfl rfl) h1
  obtain ⟨x1, e0, rfl, wx1⟩ := trod_in Try.underlying22 hz1
  obtain ⟨y1, e1, rfl, wy1⟩ := trod_in Try.underlying22 hu1
  simp at e0 e1
  subst e0 e1
  obtain ⟨x1, rfl⟩ := nat_u64 wx1
  obtain ⟨y1, rfl⟩ := nat_u64 wy1
  clear hA0 hval0
  simp only [List.append_nil] at hW'
  refine (walk x0 y0 x1 y1 (wf_u64 wx0) (wf_u64 wy0) (wf_u64 wx1) (wf_u64 wy1) W).mono fun e W' ⟨he, hg0⟩ => ?_
  have hg := hg0.grown
  subst he
  exact ⟨_, rfl, post_of_same (pa := []) (pv := []) hW' (fun _ _ _ => (trodAll_cons_mk (shut_bool Try.underlying4 _) trodAll_mk0)) (fun sp _ => (trodAll_cons_mk (shut_agg2 (y0 := (.lit (.int .u64 x0), [])) (y1 := (.lit (.int .u64 y0), [])) Try.underlying24 (by kernel_rfl) cellsP ⟨1, by simp [DataW.trod, Try.underlying22, wx0]⟩ ⟨1, by simp [DataW.trod, Try.underlying22, wy0]⟩) (trodAll_cons_mk (shut_agg2 (y0 := (.lit (.int .u64 x1), [])) (y1 := (.lit (.int .u64 y1), [])) Try.underlying24 (by kernel_rfl) cellsP ⟨1, by simp [DataW.trod, Try.underlying22, wx1]⟩ ⟨1, by simp [DataW.trod, Try.underlying22, wy1]⟩) trodAll_mk0))) (fun _ _ => rfl) rfl
    (hg.frame _) hg.2.1 (ok_one (by kernel_rfl) rfl (okWide_bool_mk Try.underlying4 _))⟩

theorem over : Rows.turnQuarterRow.holds Try.pinned (OpenSpec.ofChange Rows.turnQuarterSpec) :=
  OpenClaim.holds_of_wide 7 Try.f7 rfl rfl rfl rfl rfl rfl rfl ⟨rfl, rfl, rfl, rfl, rfl⟩ rfl rfl rfl rfl rfl (by kernel_rfl) Try.func7 (by kernel_rfl)
    (of_decide_eq_true (by kernel_rfl)) (by unfold Func.isWrapper; first | (rw [if_pos (by decide +kernel)]; kernel_rfl) | (rw [if_neg (by decide +kernel)]; exact ⟨rfl, rfl⟩))
    (fun os started H enc _ => lifted os started H enc)

theorem proved : Rows.TurnQuarterSaid :=
  over
#print axioms proved
end Go.Proofs.Ytbphmjfgpkjecaa.turnQuarter
