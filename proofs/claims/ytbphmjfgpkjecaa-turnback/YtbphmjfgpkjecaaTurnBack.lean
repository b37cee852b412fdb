/-
  TurnBack: what is turned is turned back: a way that a turn turned, and turned back, is the way, part by part up to 2^-38 of what its parts are together; so it is by the turn back; the angle from a to b is that from b to a with the other sign, and none from a to a; for all bits, no condition.
-/
import Derived.Test.YtbphmjfgpkjecaaRows
import Derived.Test.YtbphmjfgpkjecaaTback
import Derived.Test.YtbphmjfgpkjecaaTref
import Derived.Test.YtbphmjfgpkjecaaTawake
import Derived.WalkKit
import Derived.ProofKit
import Derived.OpenShut
import Derived.WalkLawsBesides
import Derived.WalkSpells
import Derived.Lib.SmallJoins
import Derived.Laws.Cover2
import Derived.Laws.Cover3
import Derived.Deep.RegionHeld3
namespace Go.Proofs.Ytbphmjfgpkjecaa.turnBack
open Go.ChangeShapes Go.WideShapes Go.ChangeAt Go.RowKit Go.Joins
set_option linter.unusedVariables false
set_option linter.unusedSimpArgs false

theorem own : ownKnob Try.prog.godebug = none := by kernel_rfl
theorem cellsP : Try.prog.cellsOf 24 = 2 := by kernel_rfl
theorem nat_u64 {n : Int} (h : (Lit.int .u64 n).wf = true) : ∃ x : Nat, n = (x : Int) := by
  simp only [Lit.wf, Bool.and_eq_true, decide_eq_true_eq] at h
  have e1 : IntKind.u64.min = 0 := by decide +kernel
  rw [e1] at h
  exact ⟨n.toNat, by omega⟩
theorem wf_u64 {x : Nat} (h : (Lit.int .u64 (x : Int)).wf = true) : okK .f64 x := by
  rw [okK64]
  simp only [Lit.wf, Bool.and_eq_true, decide_eq_true_eq] at h
  have e1 : IntKind.u64.max = 18446744073709551615 := by decide +kernel
  rw [e1] at h
  omega
theorem trod_in {H : Type} {enc : TypeId × Value → H} {P : Program} {w : World} {base fuel : Nat} {spare : Nat → Bool} {held : Bool} {t : TypeId} {cs : List Value} {x : DataW H × List MemPlace} {k : IntKind} (ht : P.underlying t = some (.int k)) (h : DataW.trod enc P w base spare held fuel t cs = some x) : ∃ n, cs = [.int k n] ∧ x = (.lit (.int k n), []) ∧ (Lit.int k n).wf = true := by
  cases fuel with
  | zero => simp [DataW.trod] at h
  | succ n =>
    unfold DataW.trod at h
    rw [ht] at h
    split at h <;> simp_all
theorem wf_f64 {x : Nat} (h : (Lit.float .f64 x).wf = true) : okK .f64 x := by
  rw [okK64]; simpa [Lit.wf] using h
theorem trod_fl {H : Type} {enc : TypeId × Value → H} {P : Program} {w : World} {base fuel : Nat} {spare : Nat → Bool} {held : Bool} {t : TypeId} {cs : List Value} {x : DataW H × List MemPlace} {k : FloatKind} (ht : P.underlying t = some (.float k)) (h : DataW.trod enc P w base spare held fuel t cs = some x) : ∃ n, cs = [.float k n] ∧ x = (.lit (.float k n), []) ∧ (Lit.float k n).wf = true := by
  cases fuel with
  | zero => simp [DataW.trod] at h
  | succ n =>
    unfold DataW.trod at h
    rw [ht] at h
    split at h <;> simp_all

theorem up_set {W : World} {p a : Addr} {v x : Value} (hne : p.block ≠ a.block) (h : W.cell? a = some v) : (W.setCell p x).cell? a = some v := (World.cell?_setCell_far W p a x hne).trans h
theorem up_set2 {W : World} {b c o o' : Nat} {v x : Value} (hne : b ≠ c) (h : W.cell? ⟨c, o', none⟩ = some v) : (W.setCell ⟨b, o, none⟩ x).cell? ⟨c, o', none⟩ = some v := up_set hne h
theorem up_alloc {W : World} {a : Addr} {v : Value} {o : Obj} (h : W.cell? a = some v) : (W.alloc o).cell? a = some v := (World.cell?_alloc_some W a o (by rw [h]; rfl)).trans h
theorem up_drew {W : World} {a : Addr} {v : Value} (h : W.cell? a = some v) : W.drew.cell? a = some v := h
theorem up_drewN {W : World} {a : Addr} {v : Value} {n : Nat} (h : W.cell? a = some v) : (W.drewN n).cell? a = some v := h
theorem cell_own {W : World} {n : Nat} (h : n = W.heap.size) (a b : Value) (t : TypeId) : (W.alloc (Obj.cells #[a, b] t)).cell? ⟨n, 0, none⟩ = some a ∧ (W.alloc (Obj.cells #[a, b] t)).cell? ⟨n, 1, none⟩ = some b := by
  subst h
  exact ⟨by go_keep, by go_keep⟩
theorem lsmall_k (x : Nat) (ox : okK .f64 x) (w : World) : Calls Try.prog 41 #[.float .f64 x] w fun e w' => e = .returned (.bool (smallK x)) ∧ w' = w := lsmall_any x ox w
theorem most_is {u v : Nat} (su : smallK u = true) (sv : smallK v = true) : ∃ m0 most, floatBits .add .f64 (rgK .f64 u) (rgK .f64 v) = some m0 ∧ floatBits .mul .f64 4436045632959938560 m0 = some most ∧ okK .f64 m0 ∧ okK .f64 most := by
  obtain ⟨fu, _, bu⟩ := small_num su
  obtain ⟨fv, _, bv⟩ := small_num sv
  have e := add_spec .f64 (rgK .f64 u) (rgK .f64 v) (by rw [rg_fin]; exact fu) (by rw [rg_fin]; exact fv)
  refine ⟨_, _, e, mul_spec _ _ (by decide +kernel) ?_, floatBits_ok e, word_okK _ _ _ (Nat.min_le_right _ _)⟩
  have r : resK .add .f64 (rgK .f64 u) (rgK .f64 v) _ := ⟨floatBits_ok e, .inl e⟩
  refine add_small2 (by rw [rg_fin]; exact fu) (by rw [rg_fin]; exact fv) r (B := 2 ^ 301) (by decide +kernel) ?_
  rw [rg_av, rg_av]
  have k : (2 : Rat) ^ 300 + 2 ^ 300 ≤ 2 ^ 301 := by decide +kernel
  generalize (2 : Rat) ^ 300 = H at *
  generalize (2 : Rat) ^ 301 = G at *
  grind
theorem res_of {op : BinOp} {x y r : Nat} (o : okK .f64 r) (h : floatBits op .f64 x y = some r) : resK op .f64 x y r := ⟨o, .inl h⟩

set_option maxRecDepth 100000 in
set_option maxHeartbeats 40000000 in
theorem walk (x0 y0 : Nat) (x1 y1 : Nat) (x2 y2 : Nat) (ox0 : okK .f64 x0) (oy0 : okK .f64 y0) (ox1 : okK .f64 x1) (oy1 : okK .f64 y1) (ox2 : okK .f64 x2) (oy2 : okK .f64 y2) (w : World) :
    Calls Try.prog 8 #[.agg #[.int .u64 (x0 : Nat), .int .u64 (y0 : Nat)], .agg #[.int .u64 (x1 : Nat), .int .u64 (y1 : Nat)], .agg #[.int .u64 (x2 : Nat), .int .u64 (y2 : Nat)]] w fun e w' => e = .returned (.bool true) ∧ Bel w w' := by
  have al := World.cell?_alloc_some
  have qn := run_neg Try.prog
  have qs := run_sub Try.prog
  have c1 := cmp_eq .f64
  have c1' := cmp_ne .f64
  have c2 := cmp_gt .f64
  have e1 : errT true = 0 := rfl
  have e2 : errT false = 30 := rfl
  have e3 := eqK_self .f64
  cases hs1 : smallK x2 <;> cases hs2 : smallK y2
  all_goals
    go_enter Try.func8, Try.ntmps8
    go_wp2_with (first | (go_at_call 9; refine (awake_any _).mono ?_; rintro e w1 ⟨rfl, hb⟩; have k_0_0 := keep hb (a := ⟨w.heap.size, 0, none⟩) (v := .int .u64 ((x0 : Nat) : Int)) (by first | assumption | go_keep | exact (cell_own (by simp) _ _ _).1 | exact (cell_own (by simp) _ _ _).2); have k_0_1 := keep hb (a := ⟨w.heap.size, 1, none⟩) (v := .int .u64 ((y0 : Nat) : Int)) (by first | assumption | go_keep | exact (cell_own (by simp) _ _ _).1 | exact (cell_own (by simp) _ _ _).2); have k_1_0 := keep hb (a := ⟨w.heap.size + 1, 0, none⟩) (v := .int .u64 ((x1 : Nat) : Int)) (by first | assumption | go_keep | exact (cell_own (by simp) _ _ _).1 | exact (cell_own (by simp) _ _ _).2); have k_1_1 := keep hb (a := ⟨w.heap.size + 1, 1, none⟩) (v := .int .u64 ((y1 : Nat) : Int)) (by first | assumption | go_keep | exact (cell_own (by simp) _ _ _).1 | exact (cell_own (by simp) _ _ _).2); have k_2_0 := keep hb (a := ⟨w.heap.size + 1 + 1, 0, none⟩) (v := .int .u64 ((x2 : Nat) : Int)) (by first | assumption | go_keep | exact (cell_own (by simp) _ _ _).1 | exact (cell_own (by simp) _ _ _).2); have k_2_1 := keep hb (a := ⟨w.heap.size + 1 + 1, 1, none⟩) (v := .int .u64 ((y2 : Nat) : Int)) (by first | assumption | go_keep | exact (cell_own (by simp) _ _ _).1 | exact (cell_own (by simp) _ _ _).2); have B := hide (bl_trans (a := w) (by repeat (first | exact unhide B | exact bl_refl _ | apply bl_drew | apply bl_drewN | apply bl_alloc | refine bl_set ?_ (by simp <;> omega))) hb); clear hb) | (go_at_call 11; refine (lnumber_any _ _ _).mono ?_; rintro e w1 ⟨rfl, hb⟩; have k_0_0 := keep hb (a := ⟨w.heap.size, 0, none⟩) (v := .int .u64 ((x0 : Nat) : Int)) (by first | assumption | go_keep | exact (cell_own (by simp) _ _ _).1 | exact (cell_own (by simp) _ _ _).2); have k_0_1 := keep hb (a := ⟨w.heap.size, 1, none⟩) (v := .int .u64 ((y0 : Nat) : Int)) (by first | assumption | go_keep | exact (cell_own (by simp) _ _ _).1 | exact (cell_own (by simp) _ _ _).2); have k_1_0 := keep hb (a := ⟨w.heap.size + 1, 0, none⟩) (v := .int .u64 ((x1 : Nat) : Int)) (by first | assumption | go_keep | exact (cell_own (by simp) _ _ _).1 | exact (cell_own (by simp) _ _ _).2); have k_1_1 := keep hb (a := ⟨w.heap.size + 1, 1, none⟩) (v := .int .u64 ((y1 : Nat) : Int)) (by first | assumption | go_keep | exact (cell_own (by simp) _ _ _).1 | exact (cell_own (by simp) _ _ _).2); have k_2_0 := keep hb (a := ⟨w.heap.size + 1 + 1, 0, none⟩) (v := .int .u64 ((x2 : Nat) : Int)) (by first | assumption | go_keep | exact (cell_own (by simp) _ _ _).1 | exact (cell_own (by simp) _ _ _).2); have k_2_1 := keep hb (a := ⟨w.heap.size + 1 + 1, 1, none⟩) (v := .int .u64 ((y2 : Nat) : Int)) (by first | assumption | go_keep | exact (cell_own (by simp) _ _ _).1 | exact (cell_own (by simp) _ _ _).2); have B := hide (bl_trans (a := w) (by repeat (first | exact unhide B | exact bl_refl _ | apply bl_drew | apply bl_drewN | apply bl_alloc | refine bl_set ?_ (by simp <;> omega))) hb); clear hb) | (go_at_call 14; refine (lway_any _ _ _).mono ?_; rintro e wu ⟨rfl, hb⟩; have k_1_0 := keep hb (a := ⟨w.heap.size + 1, 0, none⟩) (v := .int .u64 ((x1 : Nat) : Int)) (by first | assumption | go_keep | exact (cell_own (by simp) _ _ _).1 | exact (cell_own (by simp) _ _ _).2); have k_1_1 := keep hb (a := ⟨w.heap.size + 1, 1, none⟩) (v := .int .u64 ((y1 : Nat) : Int)) (by first | assumption | go_keep | exact (cell_own (by simp) _ _ _).1 | exact (cell_own (by simp) _ _ _).2); have B := hide (bl_trans (a := w) (by repeat (first | exact unhide B | exact bl_refl _ | apply bl_drew | apply bl_drewN | apply bl_alloc | refine bl_set ?_ (by simp <;> omega))) hb); clear hb) | (go_at_call 22; refine (tCheck_any _ _ _).mono ?_; rintro e wv ⟨t1, hC1, rfl, hb⟩; have k_1_0 := keep hb (a := ⟨w.heap.size + 1, 0, none⟩) (v := .int .u64 ((x1 : Nat) : Int)) (by first | assumption | go_keep | exact (cell_own (by simp) _ _ _).1 | exact (cell_own (by simp) _ _ _).2); have k_1_1 := keep hb (a := ⟨w.heap.size + 1, 1, none⟩) (v := .int .u64 ((y1 : Nat) : Int)) (by first | assumption | go_keep | exact (cell_own (by simp) _ _ _).1 | exact (cell_own (by simp) _ _ _).2); have k_wu_0 := keep hb (a := ⟨wu.heap.size, 0, none⟩) (v := .float .f64 x2) (by first | assumption | go_keep | exact (cell_own (by simp) _ _ _).1 | exact (cell_own (by simp) _ _ _).2); have k_wu_1 := keep hb (a := ⟨wu.heap.size, 1, none⟩) (v := .float .f64 y2) (by first | assumption | go_keep | exact (cell_own (by simp) _ _ _).1 | exact (cell_own (by simp) _ _ _).2); have B := hide (bl_trans (a := w) (by repeat (first | exact unhide B | exact bl_refl _ | apply bl_drew | apply bl_drewN | apply bl_alloc | refine bl_set ?_ (by simp <;> omega))) hb); clear hb; cases h1 : chk t1) | (go_at_call 41; refine (lsmall_k _ (by assumption) _).mono ?_; rintro e w1 ⟨rfl, rfl⟩))
  all_goals (try (go_ret; exact ⟨rfl, (by repeat (first | exact unhide B | exact bl_refl _ | apply bl_drew | apply bl_drewN | apply bl_alloc | refine bl_set ?_ (by simp <;> omega)))⟩))
  obtain ⟨m0, most, hm0, hmost, om0, omost⟩ := most_is hs1 hs2
  have qA := fun w => run_float_arith (P := Try.prog) w .add 31 .f64 (rgK .f64 x2) (rgK .f64 y2) m0 hm0
  have qM := fun w => run_float_arith (P := Try.prog) w .mul 31 .f64 4436045632959938560 m0 most hmost
  go_region_held3 (fun w1 => w1.cell? ⟨w.heap.size + 1, 0, none⟩ = some (.int .u64 ((x1 : Nat) : Int)) ∧ w1.cell? ⟨w.heap.size + 1, 1, none⟩ = some (.int .u64 ((y1 : Nat) : Int)) ∧ w1.cell? ⟨wu.heap.size, 0, none⟩ = some (.float .f64 x2) ∧ w1.cell? ⟨wu.heap.size, 1, none⟩ = some (.float .f64 y2)) (first | go_keep | (go_split_ands; exact ⟨keep hb (by assumption), keep hb (by assumption), keep hb (by assumption), keep hb (by assumption)⟩))
    (first | (go_at_call 40; refine (abs_any _ _ (by assumption)).mono ?_; rintro e w1 ⟨rfl, rfl⟩))
  all_goals go_wp2_with (first | (go_at_call 33; refine (tApply_any _ _ _ _ _).mono ?_; rintro e w1 ⟨A1, B1, hT1, rfl, hb⟩; have k_1_0 := keep hb (a := ⟨w.heap.size + 1, 0, none⟩) (v := .int .u64 ((x1 : Nat) : Int)) (by first | assumption | go_keep | exact (cell_own (by simp) _ _ _).1 | exact (cell_own (by simp) _ _ _).2); have k_1_1 := keep hb (a := ⟨w.heap.size + 1, 1, none⟩) (v := .int .u64 ((y1 : Nat) : Int)) (by first | assumption | go_keep | exact (cell_own (by simp) _ _ _).1 | exact (cell_own (by simp) _ _ _).2); have k_wu_0 := keep hb (a := ⟨wu.heap.size, 0, none⟩) (v := .float .f64 x2) (by first | assumption | go_keep | exact (cell_own (by simp) _ _ _).1 | exact (cell_own (by simp) _ _ _).2); have k_wu_1 := keep hb (a := ⟨wu.heap.size, 1, none⟩) (v := .float .f64 y2) (by first | assumption | go_keep | exact (cell_own (by simp) _ _ _).1 | exact (cell_own (by simp) _ _ _).2); have B := hide (bl_trans (a := w) (by repeat (first | exact unhide B | exact bl_refl _ | apply bl_drew | apply bl_drewN | apply bl_alloc | refine bl_set ?_ (by simp <;> omega))) hb); clear hb) | (go_at_call 35; refine (tUndo_any _ _ _ _ _).mono ?_; rintro e wa ⟨C1, D1, hT2, rfl, hb⟩; have k_1_0 := keep hb (a := ⟨w.heap.size + 1, 0, none⟩) (v := .int .u64 ((x1 : Nat) : Int)) (by first | assumption | go_keep | exact (cell_own (by simp) _ _ _).1 | exact (cell_own (by simp) _ _ _).2); have k_1_1 := keep hb (a := ⟨w.heap.size + 1, 1, none⟩) (v := .int .u64 ((y1 : Nat) : Int)) (by first | assumption | go_keep | exact (cell_own (by simp) _ _ _).1 | exact (cell_own (by simp) _ _ _).2); have k_wu_0 := keep hb (a := ⟨wu.heap.size, 0, none⟩) (v := .float .f64 x2) (by first | assumption | go_keep | exact (cell_own (by simp) _ _ _).1 | exact (cell_own (by simp) _ _ _).2); have k_wu_1 := keep hb (a := ⟨wu.heap.size, 1, none⟩) (v := .float .f64 y2) (by first | assumption | go_keep | exact (cell_own (by simp) _ _ _).1 | exact (cell_own (by simp) _ _ _).2); have B := hide (bl_trans (a := w) (by repeat (first | exact unhide B | exact bl_refl _ | apply bl_drew | apply bl_drewN | apply bl_alloc | refine bl_set ?_ (by simp <;> omega))) hb); clear hb))
  have zw := (unhide B).size
  have l1 : w.heap.size + 1 < wa.heap.size := World.block_lt_of_cell? wa _ k_1_0
  have l2 : wu.heap.size < wa.heap.size := World.block_lt_of_cell? wa _ k_wu_0
  have dA1 := fun w => (turn_back ox2 oy2 oy0 hC1 h1 hs1 hs2 (res_of om0 hm0) (res_of omost hmost) hT1 hT2 (fv_res .sub .f64 C1 x2 w) (fv_res .sub .f64 D1 y2 w)).1
  have dA2 := fun w => (turn_back ox2 oy2 oy0 hC1 h1 hs1 hs2 (res_of om0 hm0) (res_of omost hmost) hT1 hT2 (fv_res .sub .f64 C1 x2 w) (fv_res .sub .f64 D1 y2 w)).2.1
  have nC := (turn_back ox2 oy2 oy0 hC1 h1 hs1 hs2 (res_of om0 hm0) (res_of omost hmost) hT1 hT2 (fv_res .sub .f64 C1 x2 w) (fv_res .sub .f64 D1 y2 w)).2.2.1
  have nD := (turn_back ox2 oy2 oy0 hC1 h1 hs1 hs2 (res_of om0 hm0) (res_of omost hmost) hT1 hT2 (fv_res .sub .f64 C1 x2 w) (fv_res .sub .f64 D1 y2 w)).2.2.2
  go_region_held3 (fun w1 => w1.cell? ⟨w.heap.size + 1, 0, none⟩ = some (.int .u64 ((x1 : Nat) : Int)) ∧ w1.cell? ⟨w.heap.size + 1, 1, none⟩ = some (.int .u64 ((y1 : Nat) : Int)) ∧ w1.cell? ⟨wu.heap.size, 0, none⟩ = some (.float .f64 x2) ∧ w1.cell? ⟨wu.heap.size, 1, none⟩ = some (.float .f64 y2) ∧ w1.cell? ⟨wa.heap.size, 0, none⟩ = some (.float .f64 C1) ∧ w1.cell? ⟨wa.heap.size, 1, none⟩ = some (.float .f64 D1)) (first | ((try go_split_ands); refine ⟨?_, ?_, ?_, ?_, ?_, ?_⟩ <;> (first | ((repeat' (first | (with_reducible assumption) | (with_reducible refine up_drew ?_) | (with_reducible refine up_drewN ?_) | (with_reducible refine up_alloc ?_) | (with_reducible refine keep hb ?_) | (with_reducible refine up_set2 ?_ ?_) | omega)); done) | go_keep)))
    (first | (go_at_call 20; refine (tBack_any _ _ _).mono ?_; rintro e w1 ⟨rfl, rfl⟩) | (go_at_call 33; refine (tApply_any _ _ _ _ _).mono ?_; rintro e w1 ⟨C2, D2, hT4, rfl, hb⟩; have z := hT3; clear z; obtain ⟨hc, hf⟩ := bcell hb; have hz := hb.size; (try simp at hz); (try (refine (have hN : w1.cell? ⟨wa.heap.size + 1, 0, none⟩ = some (.float .f64 0) := ?_; ?_); focus (with_reducible refine keep hb ?_; (repeat' (first | (with_reducible assumption) | (with_reducible refine up_drew ?_) | (with_reducible refine up_drewN ?_) | (with_reducible refine (cell_own ?_ _ _ _).1) | (with_reducible refine (cell_own ?_ _ _ _).2) | (simp; done))); done))); (try (refine (have hN : w1.cell? ⟨wa.heap.size + 1, 1, none⟩ = some (.float .f64 0) := ?_; ?_); focus (with_reducible refine keep hb ?_; (repeat' (first | (with_reducible assumption) | (with_reducible refine up_drew ?_) | (with_reducible refine up_drewN ?_) | (with_reducible refine (cell_own ?_ _ _ _).1) | (with_reducible refine (cell_own ?_ _ _ _).2) | (simp; done))); done))); (try (refine (have hN : w1.cell? ⟨wc.heap.size, 0, none⟩ = some (.float .f64 0) := ?_; ?_); focus (with_reducible refine keep hb ?_; (repeat' (first | (with_reducible assumption) | (with_reducible refine up_drew ?_) | (with_reducible refine up_drewN ?_) | (with_reducible refine (cell_own ?_ _ _ _).1) | (with_reducible refine (cell_own ?_ _ _ _).2) | (simp; done))); done))); (try (refine (have hN : w1.cell? ⟨wc.heap.size, 1, none⟩ = some (.float .f64 0) := ?_; ?_); focus (with_reducible refine keep hb ?_; (repeat' (first | (with_reducible assumption) | (with_reducible refine up_drew ?_) | (with_reducible refine up_drewN ?_) | (with_reducible refine (cell_own ?_ _ _ _).1) | (with_reducible refine (cell_own ?_ _ _ _).2) | (simp; done))); done))); (refine (have hK : w1.cell? ⟨w.heap.size + 1, 0, none⟩ = some (.int .u64 ((x1 : Nat) : Int)) := ?_; ?_); focus (with_reducible refine keep hb ?_; (repeat' (first | (with_reducible assumption) | (with_reducible refine up_drew ?_) | (with_reducible refine up_drewN ?_) | (with_reducible refine (cell_own ?_ _ _ _).1) | (with_reducible refine (cell_own ?_ _ _ _).2) | (with_reducible refine up_alloc ?_) | (simp; done))); done)); (refine (have hK : w1.cell? ⟨w.heap.size + 1, 1, none⟩ = some (.int .u64 ((y1 : Nat) : Int)) := ?_; ?_); focus (with_reducible refine keep hb ?_; (repeat' (first | (with_reducible assumption) | (with_reducible refine up_drew ?_) | (with_reducible refine up_drewN ?_) | (with_reducible refine (cell_own ?_ _ _ _).1) | (with_reducible refine (cell_own ?_ _ _ _).2) | (with_reducible refine up_alloc ?_) | (simp; done))); done)); (refine (have hK : w1.cell? ⟨wu.heap.size, 0, none⟩ = some (.float .f64 x2) := ?_; ?_); focus (with_reducible refine keep hb ?_; (repeat' (first | (with_reducible assumption) | (with_reducible refine up_drew ?_) | (with_reducible refine up_drewN ?_) | (with_reducible refine (cell_own ?_ _ _ _).1) | (with_reducible refine (cell_own ?_ _ _ _).2) | (with_reducible refine up_alloc ?_) | (simp; done))); done)); (refine (have hK : w1.cell? ⟨wu.heap.size, 1, none⟩ = some (.float .f64 y2) := ?_; ?_); focus (with_reducible refine keep hb ?_; (repeat' (first | (with_reducible assumption) | (with_reducible refine up_drew ?_) | (with_reducible refine up_drewN ?_) | (with_reducible refine (cell_own ?_ _ _ _).1) | (with_reducible refine (cell_own ?_ _ _ _).2) | (with_reducible refine up_alloc ?_) | (simp; done))); done)); (refine (have hK : w1.cell? ⟨wa.heap.size, 0, none⟩ = some (.float .f64 C1) := ?_; ?_); focus (with_reducible refine keep hb ?_; (repeat' (first | (with_reducible assumption) | (with_reducible refine up_drew ?_) | (with_reducible refine up_drewN ?_) | (with_reducible refine (cell_own ?_ _ _ _).1) | (with_reducible refine (cell_own ?_ _ _ _).2) | (with_reducible refine up_alloc ?_) | (simp; done))); done)); (refine (have hK : w1.cell? ⟨wa.heap.size, 1, none⟩ = some (.float .f64 D1) := ?_; ?_); focus (with_reducible refine keep hb ?_; (repeat' (first | (with_reducible assumption) | (with_reducible refine up_drew ?_) | (with_reducible refine up_drewN ?_) | (with_reducible refine (cell_own ?_ _ _ _).1) | (with_reducible refine (cell_own ?_ _ _ _).2) | (with_reducible refine up_alloc ?_) | (simp; done))); done)); have B := hide (bl_trans (a := w) (by repeat (first | exact unhide B | exact bl_refl _ | apply bl_drew | apply bl_drewN | apply bl_alloc | refine bl_set ?_ (by simp <;> omega))) hb)) | (go_at_call 33; refine (tApply_any _ _ _ _ _).mono ?_; rintro e wc ⟨A2, B2, hT3, rfl, hb⟩; obtain ⟨hc, hf⟩ := bcell hb; have hz := hb.size; (try simp at hz); (try (refine (have hN : wc.cell? ⟨wa.heap.size + 1, 0, none⟩ = some (.float .f64 0) := ?_; ?_); focus (with_reducible refine keep hb ?_; (repeat' (first | (with_reducible assumption) | (with_reducible refine up_drew ?_) | (with_reducible refine up_drewN ?_) | (with_reducible refine (cell_own ?_ _ _ _).1) | (with_reducible refine (cell_own ?_ _ _ _).2) | (simp; done))); done))); (try (refine (have hN : wc.cell? ⟨wa.heap.size + 1, 1, none⟩ = some (.float .f64 0) := ?_; ?_); focus (with_reducible refine keep hb ?_; (repeat' (first | (with_reducible assumption) | (with_reducible refine up_drew ?_) | (with_reducible refine up_drewN ?_) | (with_reducible refine (cell_own ?_ _ _ _).1) | (with_reducible refine (cell_own ?_ _ _ _).2) | (simp; done))); done))); (refine (have hK : wc.cell? ⟨w.heap.size + 1, 0, none⟩ = some (.int .u64 ((x1 : Nat) : Int)) := ?_; ?_); focus (with_reducible refine keep hb ?_; (repeat' (first | (with_reducible assumption) | (with_reducible refine up_drew ?_) | (with_reducible refine up_drewN ?_) | (with_reducible refine (cell_own ?_ _ _ _).1) | (with_reducible refine (cell_own ?_ _ _ _).2) | (with_reducible refine up_alloc ?_) | (simp; done))); done)); (refine (have hK : wc.cell? ⟨w.heap.size + 1, 1, none⟩ = some (.int .u64 ((y1 : Nat) : Int)) := ?_; ?_); focus (with_reducible refine keep hb ?_; (repeat' (first | (with_reducible assumption) | (with_reducible refine up_drew ?_) | (with_reducible refine up_drewN ?_) | (with_reducible refine (cell_own ?_ _ _ _).1) | (with_reducible refine (cell_own ?_ _ _ _).2) | (with_reducible refine up_alloc ?_) | (simp; done))); done)); (refine (have hK : wc.cell? ⟨wu.heap.size, 0, none⟩ = some (.float .f64 x2) := ?_; ?_); focus (with_reducible refine keep hb ?_; (repeat' (first | (with_reducible assumption) | (with_reducible refine up_drew ?_) | (with_reducible refine up_drewN ?_) | (with_reducible refine (cell_own ?_ _ _ _).1) | (with_reducible refine (cell_own ?_ _ _ _).2) | (with_reducible refine up_alloc ?_) | (simp; done))); done)); (refine (have hK : wc.cell? ⟨wu.heap.size, 1, none⟩ = some (.float .f64 y2) := ?_; ?_); focus (with_reducible refine keep hb ?_; (repeat' (first | (with_reducible assumption) | (with_reducible refine up_drew ?_) | (with_reducible refine up_drewN ?_) | (with_reducible refine (cell_own ?_ _ _ _).1) | (with_reducible refine (cell_own ?_ _ _ _).2) | (with_reducible refine up_alloc ?_) | (simp; done))); done)); (refine (have hK : wc.cell? ⟨wa.heap.size, 0, none⟩ = some (.float .f64 C1) := ?_; ?_); focus (with_reducible refine keep hb ?_; (repeat' (first | (with_reducible assumption) | (with_reducible refine up_drew ?_) | (with_reducible refine up_drewN ?_) | (with_reducible refine (cell_own ?_ _ _ _).1) | (with_reducible refine (cell_own ?_ _ _ _).2) | (with_reducible refine up_alloc ?_) | (simp; done))); done)); (refine (have hK : wc.cell? ⟨wa.heap.size, 1, none⟩ = some (.float .f64 D1) := ?_; ?_); focus (with_reducible refine keep hb ?_; (repeat' (first | (with_reducible assumption) | (with_reducible refine up_drew ?_) | (with_reducible refine up_drewN ?_) | (with_reducible refine (cell_own ?_ _ _ _).1) | (with_reducible refine (cell_own ?_ _ _ _).2) | (with_reducible refine up_alloc ?_) | (simp; done))); done)); have B := hide (bl_trans (a := w) (by repeat (first | exact unhide B | exact bl_refl _ | apply bl_drew | apply bl_drewN | apply bl_alloc | refine bl_set ?_ (by simp <;> omega))) hb)))
  all_goals
    go_split_ands
    have dB1 := fun w => (turn_back ox2 oy2 oy0 hC1 h1 hs1 hs2 (res_of om0 hm0) (res_of omost hmost) hT3 hT4 (fv_res .sub .f64 C2 x2 w) (fv_res .sub .f64 D2 y2 w)).1
    have dB2 := fun w => (turn_back ox2 oy2 oy0 hC1 h1 hs1 hs2 (res_of om0 hm0) (res_of omost hmost) hT3 hT4 (fv_res .sub .f64 C2 x2 w) (fv_res .sub .f64 D2 y2 w)).2.1
    go_wp2_with (first | (go_at_call 40; refine (abs_any _ _ (by first | assumption | exact (fv_res _ _ _ _ _).1)).mono ?_; rintro e w1 ⟨rfl, rfl⟩) | (go_at_call 11; refine (lnumber_any _ _ _).mono ?_; rintro e w1 ⟨rfl, hb⟩; have B := hide (bl_trans (a := w) (by repeat (first | exact unhide B | exact bl_refl _ | apply bl_drew | apply bl_drewN | apply bl_alloc | refine bl_set ?_ (by simp <;> omega))) hb); clear hb) | (go_at_call 22; refine (tCheck_any _ _ _).mono ?_; rintro e w1 ⟨t2, hC2, rfl, hb⟩; have B := hide (bl_trans (a := w) (by repeat (first | exact unhide B | exact bl_refl _ | apply bl_drew | apply bl_drewN | apply bl_alloc | refine bl_set ?_ (by simp <;> omega))) hb); clear hb; cases h2 : chk t2) | (go_at_call 30; refine (tAngle_any _ _ _ _ _).mono ?_; rintro e w1 ⟨ar, ai, hA, rfl, hb⟩; have g2 := angle_self oy0 hC1 h1 hA; have B := hide (bl_trans (a := w) (by repeat (first | exact unhide B | exact bl_refl _ | apply bl_drew | apply bl_drewN | apply bl_alloc | refine bl_set ?_ (by simp <;> omega))) hb); clear hb) | (go_at_call 30; refine (tAngle_any _ _ _ _ _).mono ?_; rintro e w1 ⟨ar, ai, hA, rfl, hb⟩; have g1 := angle_anti oy0 oy1 hC1 h1 hC2 h2 hA1 hA; have B := hide (bl_trans (a := w) (by repeat (first | exact unhide B | exact bl_refl _ | apply bl_drew | apply bl_drewN | apply bl_alloc | refine bl_set ?_ (by simp <;> omega))) hb); clear hb) | (go_at_call 30; refine (tAngle_any _ _ _ _ _).mono ?_; rintro e w1 ⟨ar1, ai1, hA1, rfl, hb⟩; have B := hide (bl_trans (a := w) (by repeat (first | exact unhide B | exact bl_refl _ | apply bl_drew | apply bl_drewN | apply bl_alloc | refine bl_set ?_ (by simp <;> omega))) hb); clear hb))
  all_goals
    go_ret
    exact ⟨rfl, (by repeat (first | exact unhide B | exact bl_refl _ | apply bl_drew | apply bl_drewN | apply bl_alloc | refine bl_set ?_ (by simp <;> omega)))⟩

set_option maxRecDepth 100000 in
theorem lifted (os : Os) (started : os.Started) (H : Type) (enc : TypeId × Value → H) :
    ReturnsInHanded {} Try.checked os 8 .any (Rows.turnBackSpec.pre6 enc Try.prog Try.f8 Rows.turnBackRow.domain false) (Rows.turnBackSpec.post enc Try.prog Try.f8 false true false false) := by
  refine returnsInHanded_of_change (C := Try.checked) own started (by kernel_rfl) Try.func8
    (ChangeSpec.witness6 (enc := enc) (C := Try.checked) false ⟨#[], #[.agg #[.int .u64 0, .int .u64 0], .agg #[.int .u64 0, .int .u64 0], .agg #[.int .u64 0, .int .u64 0]], []⟩ 8 (by kernel_rfl) (by kernel_rfl) (by kernel_rfl) (by kernel_rfl)) ?_
  intro W base args ds gs before hval0 hW hcnd _
  have hval : ∀ (j : Nat) t v, Try.f8.params[j]? = some t → args[j]? = some v → Value.okWide Try.prog W .any base t v := hval0
  have hW' := hW
  obtain ⟨p, q, hA0, hV, rfl, hfz, hnd⟩ := hW
  have hA : DataW.TrodAll enc Try.prog W 0 (fun _ => true) true Try.f8.params.toList args.toList ds p := hA0
  rw [Try.params8] at hA hval
  obtain ⟨v0, vs0, d0, ds0, p0, q0, hargs, rfl, rfl, h0, r0⟩ := trodAll_cons hA
  obtain ⟨v1, vs1, d1, ds1, p1, q1, rfl, rfl, rfl, h1, r1⟩ := trodAll_cons r0
  obtain ⟨v2, vs2, d2, ds2, p2, q2, rfl, rfl, rfl, h2, r2⟩ := trodAll_cons r1
  obtain ⟨rfl, rfl, rfl⟩ := trodAll_nil r2
  obtain rfl : args = #[v0, v1, v2] := by cases args; simp_all
  obtain ⟨rfl, rfl⟩ := trodVars_none hV
  obtain ⟨c0, k0, z0, u0, m0, rfl, rfl, rfl, hz0, hu0⟩ := open_agg2 Try.underlying24 (by kernel_rfl) cellsP (hval 0 24 v0 rfl rfl) h0
  obtain ⟨x0, e0, rfl, wx0⟩ := trod_in Try.underlying22 hz0
  obtain ⟨y0, e1, rfl, wy0⟩ := trod_in Try.underlying22 hu0
  simp at e0 e1
  subst e0 e1
  obtain ⟨x0, rfl⟩ := nat_u64 wx0
  obtain ⟨y0, rfl⟩ := nat_u64 wy0
  obtain ⟨c1, k1, z1, u1, m1, rfl, rfl, rfl, hz1, hu1⟩ := open_agg2 Try.underlying24 (by kernel_rfl) cellsP (hval 1 24 v1 rfl rfl) h1
  obtain ⟨x1, e0, rfl, wx1⟩ := trod_in Try.underlying22 hz1
  obtain ⟨y1, e1, rfl, wy1⟩ := trod_in Try.underlying22 hu1
  simp at e0 e1
  subst e0 e1
  obtain ⟨x1, rfl⟩ := nat_u64 wx1
  obtain ⟨y1, rfl⟩ := nat_u64 wy1
  obtain ⟨c2, k2, z2, u2, m2, rfl, rfl, rfl, hz2, hu2⟩ := open_agg2 Try.underlying24 (by kernel_rfl) cellsP (hval 2 24 v2 rfl rfl) h2
  obtain ⟨x2, e0, rfl, wx2⟩ := trod_in Try.underlying22 hz2
  obtain ⟨y2, e1, rfl, wy2⟩ := trod_in Try.underlying22 hu2
  simp at e0 e1
  subst e0 e1
  obtain ⟨x2, rfl⟩ := nat_u64 wx2
  obtain ⟨y2, rfl⟩ := nat_u64 wy2
  clear hA0 hval0
  simp only [List.append_nil] at hW'
  refine (walk x0 y0 x1 y1 x2 y2 (wf_u64 wx0) (wf_u64 wy0) (wf_u64 wx1) (wf_u64 wy1) (wf_u64 wx2) (wf_u64 wy2) W).mono fun e W' ⟨he, hg0⟩ => ?_
  have hg := hg0.grown
  subst he
  exact ⟨_, rfl, post_of_same (pa := []) (pv := []) hW' (fun _ _ _ => (trodAll_cons_mk (shut_bool Try.underlying4 _) trodAll_mk0)) (fun sp _ => (trodAll_cons_mk (shut_agg2 (y0 := (.lit (.int .u64 x0), [])) (y1 := (.lit (.int .u64 y0), [])) Try.underlying24 (by kernel_rfl) cellsP ⟨1, by simp [DataW.trod, Try.underlying22, wx0]⟩ ⟨1, by simp [DataW.trod, Try.underlying22, wy0]⟩) (trodAll_cons_mk (shut_agg2 (y0 := (.lit (.int .u64 x1), [])) (y1 := (.lit (.int .u64 y1), [])) Try.underlying24 (by kernel_rfl) cellsP ⟨1, by simp [DataW.trod, Try.underlying22, wx1]⟩ ⟨1, by simp [DataW.trod, Try.underlying22, wy1]⟩) (trodAll_cons_mk (shut_agg2 (y0 := (.lit (.int .u64 x2), [])) (y1 := (.lit (.int .u64 y2), [])) Try.underlying24 (by kernel_rfl) cellsP ⟨1, by simp [DataW.trod, Try.underlying22, wx2]⟩ ⟨1, by simp [DataW.trod, Try.underlying22, wy2]⟩) trodAll_mk0)))) (fun _ _ => rfl) rfl
    (hg.frame _) hg.2.1 (ok_one (by kernel_rfl) rfl (okWide_bool_mk Try.underlying4 _))⟩

theorem over : Rows.turnBackRow.holds Try.pinned (OpenSpec.ofChange Rows.turnBackSpec) :=
  OpenClaim.holds_of_wide 8 Try.f8 rfl rfl rfl rfl rfl rfl rfl ⟨rfl, rfl, rfl, rfl, rfl⟩ rfl rfl rfl rfl rfl (by kernel_rfl) Try.func8 (by kernel_rfl)
    (of_decide_eq_true (by kernel_rfl)) (by unfold Func.isWrapper; first | (rw [if_pos (by decide +kernel)]; kernel_rfl) | (rw [if_neg (by decide +kernel)]; exact ⟨rfl, rfl⟩))
    (fun os started H enc _ => lifted os started H enc)

theorem proved : Rows.TurnBackSaid :=
  over
#print axioms proved
end Go.Proofs.Ytbphmjfgpkjecaa.turnBack
