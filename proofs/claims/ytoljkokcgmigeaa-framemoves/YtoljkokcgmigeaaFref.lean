/-
  What each function of package frame answers, and what the reference of its chapter answers: one contract a function, for every float: the answer stands in the relation of its formula to what was given; of the memory that was there nothing has turned.
-/
import Derived.Test.YtoljkokcgmigeaaVec
import Derived.Test.YtoljkokcgmigeaaTref
import Derived.Test.YtoljkokcgmigeaaFrames
import Derived.Below
import Derived.WalkKit
import Derived.WalkLawsBesides
import Derived.WalkSpells
import Derived.ProofKit
import Derived.OpenShut
import Derived.Deep.RegionHeld3
namespace Go.Proofs.Ytoljkokcgmigeaa
open Go.ChangeShapes Go.WideShapes Go.ChangeAt Go.RowKit
set_option linter.unusedVariables false
set_option linter.unusedSimpArgs false


theorem up_set {W : World} {p a : Addr} {v x : Value} (hne : p.block ≠ a.block) (h : W.cell? a = some v) : (W.setCell p x).cell? a = some v := (World.cell?_setCell_far W p a x hne).trans h
theorem up_set2 {W : World} {b c o o' : Nat} {v x : Value} (hne : b ≠ c) (h : W.cell? ⟨c, o', none⟩ = some v) : (W.setCell ⟨b, o, none⟩ x).cell? ⟨c, o', none⟩ = some v := up_set hne h
theorem up_alloc {W : World} {a : Addr} {v : Value} {o : Obj} (h : W.cell? a = some v) : (W.alloc o).cell? a = some v := (World.cell?_alloc_some W a o (by rw [h]; rfl)).trans h
theorem up_drew {W : World} {a : Addr} {v : Value} (h : W.cell? a = some v) : W.drew.cell? a = some v := h
theorem up_drewN {W : World} {a : Addr} {v : Value} {n : Nat} (h : W.cell? a = some v) : (W.drewN n).cell? a = some v := h
theorem far_off {W : World} {n o o' : Nat} {v : Value} (h : o ≠ o') : (W.setCell ⟨n, o, none⟩ v).cell? ⟨n, o', none⟩ = W.cell? ⟨n, o', none⟩ := by
  apply World.cell?_setCell_other
  intro e
  injection e with e1 e2 e3
  exact h e2
theorem set3 {W : World} {n : Nat} {p q r p0 q0 r0 : Value} (h0 : W.cell? ⟨n, 0, none⟩ = some p0) (h1 : W.cell? ⟨n, 1, none⟩ = some q0) (h2 : W.cell? ⟨n, 2, none⟩ = some r0) : (((W.setCell ⟨n, 0, none⟩ p).setCell ⟨n, 1, none⟩ q).setCell ⟨n, 2, none⟩ r).cell? ⟨n, 0, none⟩ = some p ∧ (((W.setCell ⟨n, 0, none⟩ p).setCell ⟨n, 1, none⟩ q).setCell ⟨n, 2, none⟩ r).cell? ⟨n, 1, none⟩ = some q ∧ (((W.setCell ⟨n, 0, none⟩ p).setCell ⟨n, 1, none⟩ q).setCell ⟨n, 2, none⟩ r).cell? ⟨n, 2, none⟩ = some r := by
  have f10 : ∀ {Z : World} {v : Value}, (Z.setCell ⟨n, 1, none⟩ v).cell? ⟨n, 0, none⟩ = Z.cell? ⟨n, 0, none⟩ := far_off (by decide)
  have f20 : ∀ {Z : World} {v : Value}, (Z.setCell ⟨n, 2, none⟩ v).cell? ⟨n, 0, none⟩ = Z.cell? ⟨n, 0, none⟩ := far_off (by decide)
  have f21 : ∀ {Z : World} {v : Value}, (Z.setCell ⟨n, 2, none⟩ v).cell? ⟨n, 1, none⟩ = Z.cell? ⟨n, 1, none⟩ := far_off (by decide)
  have f01 : ∀ {Z : World} {v : Value}, (Z.setCell ⟨n, 0, none⟩ v).cell? ⟨n, 1, none⟩ = Z.cell? ⟨n, 1, none⟩ := far_off (by decide)
  have f02 : ∀ {Z : World} {v : Value}, (Z.setCell ⟨n, 0, none⟩ v).cell? ⟨n, 2, none⟩ = Z.cell? ⟨n, 2, none⟩ := far_off (by decide)
  have f12 : ∀ {Z : World} {v : Value}, (Z.setCell ⟨n, 1, none⟩ v).cell? ⟨n, 2, none⟩ = Z.cell? ⟨n, 2, none⟩ := far_off (by decide)
  refine ⟨?_, ?_, ?_⟩
  · rw [f20, f10]; apply World.cell?_setCell_same; exact h0
  · rw [f21]; apply World.cell?_setCell_same; exact f01.trans h1
  · apply World.cell?_setCell_same; exact f12.trans (f02.trans h2)
theorem cell_own {W : World} {n : Nat} (h : n = W.heap.size) (a b : Value) (t : TypeId) : (W.alloc (Obj.cells #[a, b] t)).cell? ⟨n, 0, none⟩ = some a ∧ (W.alloc (Obj.cells #[a, b] t)).cell? ⟨n, 1, none⟩ = some b := by
  subst h
  exact ⟨by go_keep, by go_keep⟩
theorem cell_own3 {W : World} {n : Nat} (h : n = W.heap.size) (a b c : Value) (t : TypeId) : (W.alloc (Obj.cells #[a, b, c] t)).cell? ⟨n, 0, none⟩ = some a ∧ (W.alloc (Obj.cells #[a, b, c] t)).cell? ⟨n, 1, none⟩ = some b ∧ (W.alloc (Obj.cells #[a, b, c] t)).cell? ⟨n, 2, none⟩ = some c := by
  subst h
  exact ⟨by go_keep, by go_keep, by go_keep⟩

theorem run_store_complex (P : Program) (w : World) (a : Addr) (m : Mode) (k : FloatKind) (x y : Nat) : (store a (.complex k x y) m).run P w = stored P w a (.complex k x y) m := run_store P w a _ m rfl
attribute [go_sem] run_store_complex
theorem lf_any (x : Nat) (w : World) : Calls Try.prog 33 #[.int .u64 ((x : Nat) : Int)] w fun e w' => e = .returned (.float .f64 x) ∧ w' = w := by
  have q := from_run
  go_enter Try.func33, Try.ntmps33
  go_wp2
  go_ret
  exact ⟨rfl, rfl⟩
theorem lVec_any (x y : Nat) (w : World) : Calls Try.prog 20 #[.agg #[.int .u64 ((x : Nat) : Int), .int .u64 ((y : Nat) : Int)]] w fun e w' => e = .returned (.agg #[.float .f64 x, .float .f64 y]) ∧ Bel w w' := by
  go_enter Try.func20, Try.ntmps20
  go_wp2
  go_region_held3 (fun w1 => w1.cell? ⟨w.heap.size, 0, none⟩ = some (.int .u64 ((x : Nat) : Int)) ∧ w1.cell? ⟨w.heap.size, 1, none⟩ = some (.int .u64 ((y : Nat) : Int))) (first | ((try go_split_ands); refine ⟨?_, ?_⟩ <;> (first | ((repeat' (first | (with_reducible assumption) | (with_reducible refine up_drew ?_) | (with_reducible refine up_drewN ?_) | (with_reducible refine keep hb ?_) | (with_reducible refine up_set2 ?_ ?_) | (with_reducible refine (cell_own ?_ _ _ _).1) | (with_reducible refine (cell_own ?_ _ _ _).2) | (with_reducible refine up_alloc ?_) | omega | (simp; done))); done) | go_keep)))
    (first | (go_at_call 33; refine (lf_any _ _).mono ?_; rintro e w' ⟨rfl, rfl⟩))
  all_goals go_wp2
  refine bodyPost_ret (v := .agg #[.float .f64 x, .float .f64 y]) (by simp [results, Try.results20, go_sem] <;> exact ⟨rfl, rfl⟩) rfl ⟨rfl, ?_⟩
  repeat (first | exact bl_refl _ | assumption | apply bl_drewN | apply bl_drew | apply bl_alloc | refine bl_set ?_ (by simp <;> omega) | refine bl_trans ?_ (by assumption))
theorem lFrame_any (X Y x y : Nat) (w : World) : Calls Try.prog 19 #[.agg #[.int .u64 ((X : Nat) : Int), .int .u64 ((Y : Nat) : Int), .int .u64 ((x : Nat) : Int), .int .u64 ((y : Nat) : Int)]] w fun e w' => e = .returned (.agg #[.float .f64 X, .float .f64 Y, .complex .f64 x y]) ∧ Bel w w' := by
  go_enter Try.func19, Try.ntmps19
  go_wp2
  go_region_held3 (fun w1 => w1.cell? ⟨w.heap.size, 0, none⟩ = some (.int .u64 ((X : Nat) : Int)) ∧ w1.cell? ⟨w.heap.size, 1, none⟩ = some (.int .u64 ((Y : Nat) : Int)) ∧ w1.cell? ⟨w.heap.size, 2, none⟩ = some (.int .u64 ((x : Nat) : Int)) ∧ w1.cell? ⟨w.heap.size, 3, none⟩ = some (.int .u64 ((y : Nat) : Int))) (first | ((try go_split_ands); refine ⟨?_, ?_, ?_, ?_⟩ <;> (first | ((repeat' (first | (with_reducible assumption) | (with_reducible refine up_drew ?_) | (with_reducible refine up_drewN ?_) | (with_reducible refine keep hb ?_) | (with_reducible refine up_set2 ?_ ?_) | (with_reducible refine (cell_own ?_ _ _ _).1) | (with_reducible refine (cell_own ?_ _ _ _).2) | (with_reducible refine up_alloc ?_) | omega | (simp; done))); done) | go_keep)))
    (first | (go_at_call 33; refine (lf_any _ _).mono ?_; rintro e w' ⟨rfl, rfl⟩) | (go_at_call 20; refine (lVec_any _ _ _).mono ?_; rintro e w' ⟨rfl, hb⟩; have B := hb; obtain ⟨hc, hf⟩ := bcell B; have hz := B.size; (try simp at hz)))
  all_goals go_wp2
  refine bodyPost_ret (v := .agg #[.float .f64 X, .float .f64 Y, .complex .f64 x y]) (by simp [hc, results, Try.results19, go_sem] <;> (first | exact ⟨rfl, rfl⟩ | rfl)) rfl ⟨rfl, ?_⟩
  repeat (first | exact bl_refl _ | assumption | apply bl_drewN | apply bl_drew | apply bl_alloc | refine bl_set ?_ (by simp <;> omega) | refine bl_trans ?_ (by assumption))
theorem plus_any (ax ay bx b_y : Nat) (w : World) : Calls Try.prog 54 #[.agg #[.float .f64 ax, .float .f64 ay], .agg #[.float .f64 bx, .float .f64 b_y]] w fun e w' => ∃ x y, AddR ax ay bx b_y x y ∧ e = .returned (.agg #[.float .f64 x, .float .f64 y]) ∧ Bel w w' := by
  have q1 := run_add Try.prog
  have q2 := run_sub Try.prog
  have q3 := run_mul Try.prog
  have q4 := run_quo Try.prog
  go_enter Try.func54, Try.ntmps54
  go_wp2
  refine bodyPost_ret (v := .agg #[.float .f64 _, .float .f64 _]) (by simp [results, Try.results54, go_sem] <;> exact ⟨rfl, rfl⟩) rfl ⟨_, _, ⟨fv_res _ _ _ _ _, fv_res _ _ _ _ _⟩, rfl, ?_⟩
  repeat (first | exact bl_refl _ | assumption | apply bl_drewN | apply bl_drew | apply bl_alloc | refine bl_set ?_ (by simp <;> omega) | refine bl_trans ?_ (by assumption))
theorem minus_any (ax ay bx b_y : Nat) (w : World) : Calls Try.prog 59 #[.agg #[.float .f64 ax, .float .f64 ay], .agg #[.float .f64 bx, .float .f64 b_y]] w fun e w' => ∃ x y, SubR ax ay bx b_y x y ∧ e = .returned (.agg #[.float .f64 x, .float .f64 y]) ∧ Bel w w' := by
  have q1 := run_add Try.prog
  have q2 := run_sub Try.prog
  have q3 := run_mul Try.prog
  have q4 := run_quo Try.prog
  go_enter Try.func59, Try.ntmps59
  go_wp2
  refine bodyPost_ret (v := .agg #[.float .f64 _, .float .f64 _]) (by simp [results, Try.results59, go_sem] <;> exact ⟨rfl, rfl⟩) rfl ⟨_, _, ⟨fv_res _ _ _ _ _, fv_res _ _ _ _ _⟩, rfl, ?_⟩
  repeat (first | exact bl_refl _ | assumption | apply bl_drewN | apply bl_drew | apply bl_alloc | refine bl_set ?_ (by simp <;> omega) | refine bl_trans ?_ (by assumption))
set_option maxHeartbeats 400000 in
theorem rTo_any (X Y x y u v : Nat) (w : World) : Calls Try.prog 25 #[.agg #[.float .f64 X, .float .f64 Y, .complex .f64 x y], .agg #[.float .f64 u, .float .f64 v]] w fun e w' => ∃ tx ty, ToR X Y x y u v tx ty ∧ e = .returned (.agg #[.float .f64 tx, .float .f64 ty]) ∧ Bel w w' := by
  go_enter Try.func25, Try.ntmps25
  go_wp2
  go_region_held3 (fun w1 => w1.cell? ⟨w.heap.size, 0, none⟩ = some (.float .f64 X) ∧ w1.cell? ⟨w.heap.size, 1, none⟩ = some (.float .f64 Y) ∧ w1.cell? ⟨w.heap.size, 2, none⟩ = some (.complex .f64 x y) ∧ w1.cell? ⟨w.heap.size + 1, 0, none⟩ = some (.float .f64 u) ∧ w1.cell? ⟨w.heap.size + 1, 1, none⟩ = some (.float .f64 v)) (first | ((try go_split_ands); refine ⟨?_, ?_, ?_, ?_, ?_⟩ <;> (first | ((repeat' (first | (with_reducible assumption) | (with_reducible refine up_drew ?_) | (with_reducible refine up_drewN ?_) | (with_reducible refine keep hb ?_) | (with_reducible refine up_set2 ?_ ?_) | (with_reducible refine (cell_own ?_ _ _ _).1) | (with_reducible refine (cell_own ?_ _ _ _).2) | (with_reducible refine up_alloc ?_) | omega | (simp; done))); done) | go_keep)))
    (first | (go_at_call 55; refine (qApply_any _ _ _ _ _).mono ?_; rintro e w' ⟨A, B0, hA, rfl, hb⟩; have B := hb; obtain ⟨hc, hf⟩ := bcell B; have hz := B.size; (try simp at hz)) | (go_at_call 54; refine (plus_any _ _ _ _ _).mono ?_; rintro e w' ⟨tx, ty, hT, rfl, hb⟩; clear hc hf hz; have B := bl_trans B hb; obtain ⟨hc, hf⟩ := bcell B; have hz := B.size; (try simp at hz)))
  all_goals go_wp2
  refine bodyPost_ret (v := .agg #[.float .f64 _, .float .f64 _]) (by simp [hc, results, Try.results25, go_sem] <;> exact ⟨rfl, rfl⟩) rfl ⟨_, _, ⟨_, _, apply_then hA, hT.1, hT.2⟩, rfl, ?_⟩
  repeat (first | exact bl_refl _ | assumption | apply bl_drewN | apply bl_drew | apply bl_alloc | refine bl_set ?_ (by simp <;> omega) | refine bl_trans ?_ (by assumption))
set_option maxHeartbeats 400000 in
theorem rOwn_any (X Y x y u v : Nat) (w : World) : Calls Try.prog 27 #[.agg #[.float .f64 X, .float .f64 Y, .complex .f64 x y], .agg #[.float .f64 u, .float .f64 v]] w fun e w' => ∃ r i, OwnR X Y x y u v r i ∧ e = .returned (.agg #[.float .f64 r, .float .f64 i]) ∧ Bel w w' := by
  go_enter Try.func27, Try.ntmps27
  go_wp2
  go_region_held3 (fun w1 => w1.cell? ⟨w.heap.size, 0, none⟩ = some (.float .f64 X) ∧ w1.cell? ⟨w.heap.size, 1, none⟩ = some (.float .f64 Y) ∧ w1.cell? ⟨w.heap.size, 2, none⟩ = some (.complex .f64 x y) ∧ w1.cell? ⟨w.heap.size + 1, 0, none⟩ = some (.float .f64 u) ∧ w1.cell? ⟨w.heap.size + 1, 1, none⟩ = some (.float .f64 v)) (first | ((try go_split_ands); refine ⟨?_, ?_, ?_, ?_, ?_⟩ <;> (first | ((repeat' (first | (with_reducible assumption) | (with_reducible refine up_drew ?_) | (with_reducible refine up_drewN ?_) | (with_reducible refine keep hb ?_) | (with_reducible refine up_set2 ?_ ?_) | (with_reducible refine (cell_own ?_ _ _ _).1) | (with_reducible refine (cell_own ?_ _ _ _).2) | (with_reducible refine up_alloc ?_) | omega | (simp; done))); done) | go_keep)))
    (first | (go_at_call 59; refine (minus_any _ _ _ _ _).mono ?_; rintro e w' ⟨A, B0, hA, rfl, hb⟩; have B := hb; obtain ⟨hc, hf⟩ := bcell B; have hz := B.size; (try simp at hz)) | (go_at_call 58; refine (qUndo_any _ _ _ _ _).mono ?_; rintro e w' ⟨tx, ty, hT, rfl, hb⟩; clear hc hf hz; have B := bl_trans B hb; obtain ⟨hc, hf⟩ := bcell B; have hz := B.size; (try simp at hz)))
  all_goals go_wp2
  refine bodyPost_ret (v := .agg #[.float .f64 _, .float .f64 _]) (by simp [hc, results, Try.results27, go_sem] <;> exact ⟨rfl, rfl⟩) rfl ⟨_, _, ⟨_, _, hA.1, hA.2, hT⟩, rfl, ?_⟩
  repeat (first | exact bl_refl _ | assumption | apply bl_drewN | apply bl_drew | apply bl_alloc | refine bl_set ?_ (by simp <;> omega) | refine bl_trans ?_ (by assumption))

set_option maxHeartbeats 1000000 in
theorem rThen_any (X Y x y U V u v : Nat) (w : World) : Calls Try.prog 29 #[.agg #[.float .f64 X, .float .f64 Y, .complex .f64 x y], .agg #[.float .f64 U, .float .f64 V, .complex .f64 u v]] w fun e w' => ∃ tx ty r i, ToR X Y x y U V tx ty ∧ ThenR u v x y r i ∧ e = .returned (.agg #[.float .f64 tx, .float .f64 ty, .complex .f64 r i]) ∧ Bel w w' := by
  go_enter Try.func29, Try.ntmps29
  go_wp2
  go_region_held3 (fun w1 => w1.cell? ⟨w.heap.size, 0, none⟩ = some (.float .f64 X) ∧ w1.cell? ⟨w.heap.size, 1, none⟩ = some (.float .f64 Y) ∧ w1.cell? ⟨w.heap.size, 2, none⟩ = some (.complex .f64 x y) ∧ w1.cell? ⟨w.heap.size + 1, 0, none⟩ = some (.float .f64 U) ∧ w1.cell? ⟨w.heap.size + 1, 1, none⟩ = some (.float .f64 V) ∧ w1.cell? ⟨w.heap.size + 1, 2, none⟩ = some (.complex .f64 u v)) (first | ((try go_split_ands); refine ⟨?_, ?_, ?_, ?_, ?_, ?_⟩ <;> (first | ((repeat' (first | (with_reducible assumption) | (with_reducible refine up_drew ?_) | (with_reducible refine up_drewN ?_) | (with_reducible refine keep hb ?_) | (with_reducible refine up_set2 ?_ ?_) | (with_reducible refine (cell_own ?_ _ _ _).1) | (with_reducible refine (cell_own ?_ _ _ _).2) | (with_reducible refine up_alloc ?_) | omega | (simp; done))); done) | go_keep)))
    (first | (go_at_call 25; refine (rTo_any _ _ _ _ _ _ _).mono ?_; rintro e w' ⟨tx, ty, hT, rfl, hb⟩; have B := hb; obtain ⟨hc, hf⟩ := bcell B; have hz := B.size; (try simp at hz)) | (go_at_call 60; refine (qThen_any _ _ _ _ _).mono ?_; rintro e w' ⟨r, i, hR, rfl, hb⟩; clear hc hf hz; have B := bl_trans B hb; obtain ⟨hc, hf⟩ := bcell B; have hz := B.size; (try simp at hz)))
  all_goals go_wp2
  refine bodyPost_ret (v := .agg #[.float .f64 _, .float .f64 _, .complex .f64 _ _]) (by simp [hc, results, Try.results29, go_sem] <;> (first | exact ⟨rfl, rfl⟩ | rfl)) rfl ⟨_, _, _, _, hT, hR, rfl, ?_⟩
  repeat (first | exact bl_refl _ | assumption | apply bl_drewN | apply bl_drew | apply bl_alloc | refine bl_set ?_ (by simp <;> omega) | refine bl_trans ?_ (by assumption))
set_option maxHeartbeats 1000000 in
theorem rBack_any (X Y x y : Nat) (w : World) : Calls Try.prog 31 #[.agg #[.float .f64 X, .float .f64 Y, .complex .f64 x y]] w fun e w' => ∃ a b, UndoR x y X Y a b ∧ e = .returned (.agg #[.float .f64 (Op.negFloat .f64 a), .float .f64 (Op.negFloat .f64 b), .complex .f64 x (Op.negFloat .f64 y)]) ∧ Bel w w' := by
  have q := run_neg Try.prog
  go_enter Try.func31, Try.ntmps31
  go_wp2_with (first | (go_at_call 58; refine (qUndo_any _ _ _ _ _).mono ?_; rintro e wu ⟨a, b, hU, rfl, hb⟩; have B := hb; obtain ⟨hc, hf⟩ := bcell B; have hz := B.size; (try simp at hz); have k0 := keep hb (a := ⟨w.heap.size, 0, none⟩) (v := .float .f64 X) (by go_keep); have k1 := keep hb (a := ⟨w.heap.size, 1, none⟩) (v := .float .f64 Y) (by go_keep); have k2 := keep hb (a := ⟨w.heap.size, 2, none⟩) (v := .complex .f64 x y) (by go_keep); have r0 := keep hb (a := ⟨w.heap.size + 1, 0, none⟩) (v := .float .f64 0) (by go_keep); have r1 := keep hb (a := ⟨w.heap.size + 1, 1, none⟩) (v := .float .f64 0) (by go_keep); have r2 := keep hb (a := ⟨w.heap.size + 1, 2, none⟩) (v := .complex .f64 0 0) (by go_keep); have al := World.cell?_alloc_some))
  have r0' := up_alloc (o := Obj.cells #[.float .f64 a, .float .f64 b] 26) r0
  have r1' := up_alloc (o := Obj.cells #[.float .f64 a, .float .f64 b] 26) r1
  have r2' := up_alloc (o := Obj.cells #[.float .f64 a, .float .f64 b] 26) r2
  have hz' : w.heap.size + 1 < wu.heap.size := World.block_lt_of_cell? wu _ r0
  go_region_held3 (fun w1 => w1.cell? ⟨wu.heap.size, 0, none⟩ = some (.float .f64 a) ∧ w1.cell? ⟨wu.heap.size, 1, none⟩ = some (.float .f64 b) ∧ w1.cell? ⟨w.heap.size, 0, none⟩ = some (.float .f64 X) ∧ w1.cell? ⟨w.heap.size, 1, none⟩ = some (.float .f64 Y) ∧ w1.cell? ⟨w.heap.size, 2, none⟩ = some (.complex .f64 x y)) (first | ((try go_split_ands); refine ⟨?_, ?_, ?_, ?_, ?_⟩ <;> (first | ((repeat' (first | (with_reducible assumption) | (with_reducible refine up_drew ?_) | (with_reducible refine up_drewN ?_) | (with_reducible refine keep hb ?_) | (with_reducible refine up_set2 ?_ ?_) | (with_reducible refine (cell_own ?_ _ _ _).1) | (with_reducible refine (cell_own ?_ _ _ _).2) | (with_reducible refine up_alloc ?_) | omega | (simp; done))); done) | go_keep)))
    (first | (go_at_call 63; refine (qBack_any _ _ _).mono ?_; rintro e w' ⟨rfl, rfl⟩))
  all_goals go_wp2
  have s3 := set3 (p := .float .f64 (Op.negFloat .f64 a)) (q := .float .f64 (Op.negFloat .f64 b)) (r := .complex .f64 x (Op.negFloat .f64 y)) r0 r1 r2
  have u0 := up_alloc (o := Obj.cells #[.float .f64 a, .float .f64 b] 26) s3.1
  have u1 := up_alloc (o := Obj.cells #[.float .f64 a, .float .f64 b] 26) s3.2.1
  have u2 := up_alloc (o := Obj.cells #[.float .f64 a, .float .f64 b] 26) s3.2.2
  refine bodyPost_ret (v := .agg #[.float .f64 (Op.negFloat .f64 a), .float .f64 (Op.negFloat .f64 b), .complex .f64 x (Op.negFloat .f64 y)]) (by simp [u0, u1, u2, results, Try.results31, go_sem] <;> (first | exact ⟨rfl, rfl⟩ | rfl)) rfl ⟨_, _, hU, rfl, ?_⟩
  repeat (first | exact bl_refl _ | assumption | apply bl_drewN | apply bl_drew | apply bl_alloc | refine bl_set ?_ (by simp <;> omega) | refine bl_trans ?_ (by assumption))
set_option maxHeartbeats 2000000 in
theorem rMove_any (X Y x y sx sy wi ti : Nat) (w : World) : Calls Try.prog 34 #[.agg #[.float .f64 X, .float .f64 Y, .complex .f64 x y], .agg #[.float .f64 sx, .float .f64 sy], .float .f64 wi, .float .f64 ti] w fun e w' => ∃ px py qx qy, MoreR X Y ti sx sy px py ∧ TurnMR x y wi ti qx qy ∧ e = .returned (.agg #[.float .f64 px, .float .f64 py, .complex .f64 qx qy]) ∧ Bel w w' := by
  have q1 := run_add Try.prog
  have q2 := run_sub Try.prog
  have q3 := run_mul Try.prog
  have q4 := run_quo Try.prog
  go_enter Try.func34, Try.ntmps34
  go_wp2
  go_region
  all_goals go_wp2
  all_goals go_region_with (first | (go_at_call 64; refine (qBy_any _ _).mono ?_; rintro e w' ⟨bx, b_y, hBy, rfl, hb⟩; have B := hb; obtain ⟨hc, hf⟩ := bcell B; have hz := B.size; (try simp at hz)) | (go_at_call 60; refine (qThen_any _ _ _ _ _).mono ?_; rintro e w' ⟨r, i, hR, rfl, hb⟩; clear hc hf hz; have B := bl_trans B hb; obtain ⟨hc, hf⟩ := bcell B; have hz := B.size; (try simp at hz)))
  all_goals go_wp2_with (first | (go_at_call 65; refine (qUnit_any _ _ _).mono ?_; rintro e w' ⟨u, v, b, hU, rfl, hb⟩; clear hc hf hz; have B := bl_trans B hb; obtain ⟨hc, hf⟩ := bcell B; have hz := B.size; (try simp at hz); cases b))
  all_goals
    refine bodyPost_ret (v := .agg #[.float .f64 _, .float .f64 _, .complex .f64 _ _]) (by simp [hc, results, Try.results34, go_sem] <;> (first | exact ⟨rfl, rfl⟩ | rfl)) rfl ⟨_, _, _, _, ⟨_, _, fv_res _ _ _ _ _, fv_res _ _ _ _ _, fv_res _ _ _ _ _, fv_res _ _ _ _ _⟩, ⟨_, _, _, _, _, _, _, _, _, fv_res _ _ _ _ _, fv_res _ _ _ _ _, hBy, hR, hU, rfl, rfl⟩, rfl, ?_⟩
    repeat (first | exact bl_refl _ | assumption | apply bl_drewN | apply bl_drew | apply bl_alloc | refine bl_set ?_ (by simp <;> omega) | refine bl_trans ?_ (by assumption))
theorem rReal_any (a : Nat) (ha : okK .f64 a) (w : World) : Calls Try.prog 48 #[.float .f64 a] w fun e w' => e = .returned (.bool (withinK .f64 a 4787326403894837248)) ∧ w' = w := by
  have ob : okK .f64 4787326403894837248 := by rw [okK64]; omega
  go_enter Try.func48, Try.ntmps48
  go_wp2_with (first | (go_at_call 71; refine (rWithin_any _ _ _ (by assumption) (by assumption)).mono ?_; rintro e w' ⟨rfl, rfl⟩))
  go_ret
  exact ⟨rfl, rfl⟩
theorem rHome_any (w : World) : Calls Try.prog 32 #[] w fun e w' => e = .returned (.agg #[.float .f64 0, .float .f64 0, .complex .f64 4607182418800017408 0]) ∧ Bel w w' := by
  go_enter Try.func32, Try.ntmps32
  go_wp2
  refine bodyPost_ret (v := .agg #[.float .f64 0, .float .f64 0, .complex .f64 4607182418800017408 0]) (by simp [results, Try.results32, go_sem] <;> (first | exact ⟨rfl, rfl⟩ | rfl)) rfl ⟨rfl, ?_⟩
  repeat (first | exact bl_refl _ | assumption | apply bl_drewN | apply bl_drew | apply bl_alloc | refine bl_set ?_ (by simp <;> omega) | refine bl_trans ?_ (by assumption))
theorem rSameVec_any (x y u v : Nat) (hx : okK .f64 x) (hy : okK .f64 y) (hu : okK .f64 u) (hv : okK .f64 v) (w : World) : Calls Try.prog 23 #[.agg #[.float .f64 x, .float .f64 y], .agg #[.float .f64 u, .float .f64 v]] w fun e w' => e = .returned (.bool (smK .f64 x u && smK .f64 y v)) ∧ Bel w w' := by
  cases h1 : smK .f64 x u
  all_goals
    go_enter Try.func23, Try.ntmps23
    go_wp2_with (first | (go_at_call 51; refine (rSame_any _ _ _ (by assumption) (by assumption)).mono ?_; rintro e w' ⟨rfl, rfl⟩))
    go_ret
    refine ⟨rfl, ?_⟩
    repeat (first | exact bl_refl _ | assumption | apply bl_drewN | apply bl_drew | apply bl_alloc | refine bl_set ?_ (by simp <;> omega) | refine bl_trans ?_ (by assumption))
theorem rSameTurn_any (x y u v : Nat) (hx : okK .f64 x) (hy : okK .f64 y) (hu : okK .f64 u) (hv : okK .f64 v) (w : World) : Calls Try.prog 50 #[.complex .f64 x y, .complex .f64 u v] w fun e w' => e = .returned (.bool (smK .f64 x u && smK .f64 y v)) ∧ Bel w w' := by
  cases h1 : smK .f64 x u
  all_goals
    go_enter Try.func50, Try.ntmps50
    go_wp2_with (first | (go_at_call 51; refine (rSame_any _ _ _ (by assumption) (by assumption)).mono ?_; rintro e w' ⟨rfl, rfl⟩))
    go_ret
    refine ⟨rfl, ?_⟩
    repeat (first | exact bl_refl _ | assumption | apply bl_drewN | apply bl_drew | apply bl_alloc | refine bl_set ?_ (by simp <;> omega) | refine bl_trans ?_ (by assumption))

end Go.Proofs.Ytoljkokcgmigeaa
