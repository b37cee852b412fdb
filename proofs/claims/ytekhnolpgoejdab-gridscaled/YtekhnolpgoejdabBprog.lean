/-
  What each function of package box answers, and what the reference of its chapter answers: one contract a function, for every float: the answer stands in the relation of its formula to what was given; of the memory that was there nothing has turned.
-/
import Derived.Test.YtekhnolpgoejdabVec
import Derived.Test.YtekhnolpgoejdabBox
import Derived.Below
import Derived.WalkKit
import Derived.WalkLawsBesides
import Derived.WalkSpells
import Derived.ProofKit
import Derived.OpenShut
import Derived.Deep.RegionHeld3
namespace Go.Proofs.Ytekhnolpgoejdab
open Go.ChangeShapes Go.WideShapes Go.ChangeAt Go.RowKit
set_option linter.unusedVariables false
set_option linter.unusedSimpArgs false

theorem up_set {W : World} {p a : Addr} {v x : Value} (hne : p.block ≠ a.block) (h : W.cell? a = some v) : (W.setCell p x).cell? a = some v := (World.cell?_setCell_far W p a x hne).trans h
theorem up_set2 {W : World} {b c o o' : Nat} {v x : Value} (hne : b ≠ c) (h : W.cell? ⟨c, o', none⟩ = some v) : (W.setCell ⟨b, o, none⟩ x).cell? ⟨c, o', none⟩ = some v := up_set hne h
theorem up_alloc {W : World} {a : Addr} {v : Value} {o : Obj} (h : W.cell? a = some v) : (W.alloc o).cell? a = some v := (World.cell?_alloc_some W a o (by rw [h]; rfl)).trans h
theorem up_drew {W : World} {a : Addr} {v : Value} (h : W.cell? a = some v) : W.drew.cell? a = some v := h
theorem up_drewN {W : World} {a : Addr} {v : Value} {n : Nat} (h : W.cell? a = some v) : (W.drewN n).cell? a = some v := h
theorem far_off {W : World} {n o o' : Nat} {v : Value} (h : o ≠ o') : (W.setCell ⟨n, o, none⟩ v).cell? ⟨n, o', none⟩ = W.cell? ⟨n, o', none⟩ := by
  apply World.cell?_setCell_other
  intro e
  injection e with e1 e2 e3
  exact h e2
theorem set3 {W : World} {n : Nat} {p q r p0 q0 r0 : Value} (h0 : W.cell? ⟨n, 0, none⟩ = some p0) (h1 : W.cell? ⟨n, 1, none⟩ = some q0) (h2 : W.cell? ⟨n, 2, none⟩ = some r0) : (((W.setCell ⟨n, 0, none⟩ p).setCell ⟨n, 1, none⟩ q).setCell ⟨n, 2, none⟩ r).cell? ⟨n, 0, none⟩ = some p ∧ (((W.setCell ⟨n, 0, none⟩ p).setCell ⟨n, 1, none⟩ q).setCell ⟨n, 2, none⟩ r).cell? ⟨n, 1, none⟩ = some q ∧ (((W.setCell ⟨n, 0, none⟩ p).setCell ⟨n, 1, none⟩ q).setCell ⟨n, 2, none⟩ r).cell? ⟨n, 2, none⟩ = some r := by
  have f10 : ∀ {Z : World} {v : Value}, (Z.setCell ⟨n, 1, none⟩ v).cell? ⟨n, 0, none⟩ = Z.cell? ⟨n, 0, none⟩ := far_off (by decide)
  have f20 : ∀ {Z : World} {v : Value}, (Z.setCell ⟨n, 2, none⟩ v).cell? ⟨n, 0, none⟩ = Z.cell? ⟨n, 0, none⟩ := far_off (by decide)
  have f21 : ∀ {Z : World} {v : Value}, (Z.setCell ⟨n, 2, none⟩ v).cell? ⟨n, 1, none⟩ = Z.cell? ⟨n, 1, none⟩ := far_off (by decide)
  have f01 : ∀ {Z : World} {v : Value}, (Z.setCell ⟨n, 0, none⟩ v).cell? ⟨n, 1, none⟩ = Z.cell? ⟨n, 1, none⟩ := far_off (by decide)
  have f02 : ∀ {Z : World} {v : Value}, (Z.setCell ⟨n, 0, none⟩ v).cell? ⟨n, 2, none⟩ = Z.cell? ⟨n, 2, none⟩ := far_off (by decide)
  have f12 : ∀ {Z : World} {v : Value}, (Z.setCell ⟨n, 1, none⟩ v).cell? ⟨n, 2, none⟩ = Z.cell? ⟨n, 2, none⟩ := far_off (by decide)
  refine ⟨?_, ?_, ?_⟩
  · rw [f20, f10]; apply World.cell?_setCell_same; exact h0
  · rw [f21]; apply World.cell?_setCell_same; exact f01.trans h1
  · apply World.cell?_setCell_same; exact f12.trans (f02.trans h2)
theorem cell_own {W : World} {n : Nat} (h : n = W.heap.size) (a b : Value) (t : TypeId) : (W.alloc (Obj.cells #[a, b] t)).cell? ⟨n, 0, none⟩ = some a ∧ (W.alloc (Obj.cells #[a, b] t)).cell? ⟨n, 1, none⟩ = some b := by
  subst h
  exact ⟨by go_keep, by go_keep⟩
theorem cell_own3 {W : World} {n : Nat} (h : n = W.heap.size) (a b c : Value) (t : TypeId) : (W.alloc (Obj.cells #[a, b, c] t)).cell? ⟨n, 0, none⟩ = some a ∧ (W.alloc (Obj.cells #[a, b, c] t)).cell? ⟨n, 1, none⟩ = some b ∧ (W.alloc (Obj.cells #[a, b, c] t)).cell? ⟨n, 2, none⟩ = some c := by
  subst h
  exact ⟨by go_keep, by go_keep, by go_keep⟩

theorem xatMost_any (ax ay bx b_y : Nat) (w : World) : Calls Try.prog 29 #[.agg #[.float .f64 ax, .float .f64 ay], .agg #[.float .f64 bx, .float .f64 b_y]] w fun e w' => e = .returned (.bool (leK .f64 ax bx && leK .f64 ay b_y)) ∧ Bel w w' := by
  have c1 := cmp_le .f64
  cases h1 : leK .f64 ax bx
  all_goals
    go_enter Try.func29, Try.ntmps29
    go_wp2
    go_ret
    refine ⟨by simp [h1], ?_⟩
    repeat (first | exact bl_refl _ | assumption | apply bl_drewN | apply bl_drew | apply bl_alloc | refine bl_set ?_ (by simp <;> omega) | refine bl_trans ?_ (by assumption))
theorem xsides_any (lx ly hx hy : Nat) (w : World) : Calls Try.prog 57 #[.agg #[.float .f64 lx, .float .f64 ly, .float .f64 hx, .float .f64 hy]] w fun e w' => ∃ x y, SubR hx hy lx ly x y ∧ e = .returned (.agg #[.float .f64 x, .float .f64 y]) ∧ Bel w w' := by
  go_enter Try.func57, Try.ntmps57
  go_wp2_with (first | (go_at_call 78; refine (vSub_any _ _ _ _ _).mono ?_; rintro e w' ⟨x, y, hS, rfl, hb⟩; have B := hb; obtain ⟨hc, hf⟩ := bcell B; have hz := B.size; (try simp at hz)))
  refine bodyPost_ret (v := .agg #[.float .f64 _, .float .f64 _]) (by simp [hc, results, Try.results57, go_sem] <;> (first | exact ⟨rfl, rfl⟩ | rfl)) rfl ⟨_, _, hS, rfl, ?_⟩
  repeat (first | exact bl_refl _ | assumption | apply bl_drewN | apply bl_drew | apply bl_alloc | refine bl_set ?_ (by simp <;> omega) | refine bl_trans ?_ (by assumption))

theorem xSize_any (lx ly hx hy : Nat) (w : World) : Calls Try.prog 38 #[.agg #[.float .f64 lx, .float .f64 ly, .float .f64 hx, .float .f64 hy]] w fun e w' => ∃ r, SizeR lx ly hx hy r ∧ e = .returned (.float .f64 r) ∧ Bel w w' := by
  have q1 := run_add Try.prog
  have q2 := run_sub Try.prog
  have q3 := run_mul Try.prog
  have q4 := run_quo Try.prog
  go_enter Try.func38, Try.ntmps38
  go_wp2_with (first | (go_at_call 57; refine (xsides_any _ _ _ _ _).mono ?_; rintro e w' ⟨x, y, hS, rfl, hb⟩; have B := hb; obtain ⟨hc, hf⟩ := bcell B; have hz := B.size; (try simp at hz)))
  go_ret
  refine ⟨_, ⟨_, _, hS, fv_res _ _ _ _ _⟩, rfl, ?_⟩
  repeat (first | exact bl_refl _ | assumption | apply bl_drewN | apply bl_drew | apply bl_alloc | refine bl_set ?_ (by simp <;> omega) | refine bl_trans ?_ (by assumption))
set_option maxHeartbeats 1000000 in
theorem xCheck_any (lx ly hx hy : Nat) (w : World) : Calls Try.prog 9 #[.agg #[.float .f64 lx, .float .f64 ly, .float .f64 hx, .float .f64 hy]] w fun e w' => e = .returned (.int .i64 (chkN (bChk lx ly hx hy))) ∧ Bel w w' := by
  rw [← bChk_eq]
  cases h1 : (finK .f64 lx && finK .f64 ly) <;> cases h2 : (finK .f64 hx && finK .f64 hy) <;> cases h3 : (leK .f64 lx hx && leK .f64 ly hy)
  all_goals
    go_enter Try.func9, Try.ntmps9
    go_wp2_with (first | (go_at_call 28; refine (vFinite_any _ _ _).mono ?_; rintro e w' ⟨rfl, hb⟩; have k0 := keep hb (a := ⟨w.heap.size, 0, none⟩) (v := .float .f64 lx) (by first | assumption | go_keep | exact up_alloc (by go_keep) | exact (cell_own (by simp) _ _ _).1 | exact (cell_own (by simp) _ _ _).2 | exact up_alloc (cell_own (by simp) _ _ _).1 | exact up_alloc (cell_own (by simp) _ _ _).2); have k1 := keep hb (a := ⟨w.heap.size, 1, none⟩) (v := .float .f64 ly) (by first | assumption | go_keep | exact up_alloc (by go_keep) | exact (cell_own (by simp) _ _ _).1 | exact (cell_own (by simp) _ _ _).2 | exact up_alloc (cell_own (by simp) _ _ _).1 | exact up_alloc (cell_own (by simp) _ _ _).2); have k2 := keep hb (a := ⟨w.heap.size, 2, none⟩) (v := .float .f64 hx) (by first | assumption | go_keep | exact up_alloc (by go_keep) | exact (cell_own (by simp) _ _ _).1 | exact (cell_own (by simp) _ _ _).2 | exact up_alloc (cell_own (by simp) _ _ _).1 | exact up_alloc (cell_own (by simp) _ _ _).2); have k3 := keep hb (a := ⟨w.heap.size, 3, none⟩) (v := .float .f64 hy) (by first | assumption | go_keep | exact up_alloc (by go_keep) | exact (cell_own (by simp) _ _ _).1 | exact (cell_own (by simp) _ _ _).2 | exact up_alloc (cell_own (by simp) _ _ _).1 | exact up_alloc (cell_own (by simp) _ _ _).2)) | (go_at_call 29; refine (xatMost_any _ _ _ _ _).mono ?_; rintro e w' ⟨rfl, hb⟩; have k0 := keep hb (a := ⟨w.heap.size, 0, none⟩) (v := .float .f64 lx) (by first | assumption | go_keep | exact up_alloc (by go_keep) | exact (cell_own (by simp) _ _ _).1 | exact (cell_own (by simp) _ _ _).2 | exact up_alloc (cell_own (by simp) _ _ _).1 | exact up_alloc (cell_own (by simp) _ _ _).2); have k1 := keep hb (a := ⟨w.heap.size, 1, none⟩) (v := .float .f64 ly) (by first | assumption | go_keep | exact up_alloc (by go_keep) | exact (cell_own (by simp) _ _ _).1 | exact (cell_own (by simp) _ _ _).2 | exact up_alloc (cell_own (by simp) _ _ _).1 | exact up_alloc (cell_own (by simp) _ _ _).2); have k2 := keep hb (a := ⟨w.heap.size, 2, none⟩) (v := .float .f64 hx) (by first | assumption | go_keep | exact up_alloc (by go_keep) | exact (cell_own (by simp) _ _ _).1 | exact (cell_own (by simp) _ _ _).2 | exact up_alloc (cell_own (by simp) _ _ _).1 | exact up_alloc (cell_own (by simp) _ _ _).2); have k3 := keep hb (a := ⟨w.heap.size, 3, none⟩) (v := .float .f64 hy) (by first | assumption | go_keep | exact up_alloc (by go_keep) | exact (cell_own (by simp) _ _ _).1 | exact (cell_own (by simp) _ _ _).2 | exact up_alloc (cell_own (by simp) _ _ _).1 | exact up_alloc (cell_own (by simp) _ _ _).2)))
    go_ret
    refine ⟨by first | rfl | simp [chkN], ?_⟩
    repeat (first | exact bl_refl _ | assumption | apply bl_drewN | apply bl_drew | apply bl_alloc | refine bl_set ?_ (by simp <;> omega) | refine bl_trans ?_ (by assumption))

set_option maxHeartbeats 1000000 in
theorem xOver_any (alx aly ahx ahy blx bly bhx bhy : Nat) (w : World) : Calls Try.prog 27 #[.agg #[.float .f64 alx, .float .f64 aly, .float .f64 ahx, .float .f64 ahy], .agg #[.float .f64 blx, .float .f64 bly, .float .f64 bhx, .float .f64 bhy]] w fun e w' => e = .returned (.bool (bOver alx aly ahx ahy blx bly bhx bhy)) ∧ Bel w w' := by
  rw [← bOver_eq]
  cases h1 : (leK .f64 alx bhx && leK .f64 aly bhy)
  all_goals
    go_enter Try.func27, Try.ntmps27
    go_wp2_with (first | (go_at_call 29; refine (xatMost_any _ _ _ _ _).mono ?_; rintro e w' ⟨rfl, hb⟩; have ka0 := keep hb (a := ⟨w.heap.size, 0, none⟩) (v := .float .f64 alx) (by first | assumption | go_keep | exact up_alloc (by go_keep) | exact (cell_own (by simp) _ _ _).1 | exact (cell_own (by simp) _ _ _).2 | exact up_alloc (cell_own (by simp) _ _ _).1 | exact up_alloc (cell_own (by simp) _ _ _).2); have ka1 := keep hb (a := ⟨w.heap.size, 1, none⟩) (v := .float .f64 aly) (by first | assumption | go_keep | exact up_alloc (by go_keep) | exact (cell_own (by simp) _ _ _).1 | exact (cell_own (by simp) _ _ _).2 | exact up_alloc (cell_own (by simp) _ _ _).1 | exact up_alloc (cell_own (by simp) _ _ _).2); have ka2 := keep hb (a := ⟨w.heap.size, 2, none⟩) (v := .float .f64 ahx) (by first | assumption | go_keep | exact up_alloc (by go_keep) | exact (cell_own (by simp) _ _ _).1 | exact (cell_own (by simp) _ _ _).2 | exact up_alloc (cell_own (by simp) _ _ _).1 | exact up_alloc (cell_own (by simp) _ _ _).2); have ka3 := keep hb (a := ⟨w.heap.size, 3, none⟩) (v := .float .f64 ahy) (by first | assumption | go_keep | exact up_alloc (by go_keep) | exact (cell_own (by simp) _ _ _).1 | exact (cell_own (by simp) _ _ _).2 | exact up_alloc (cell_own (by simp) _ _ _).1 | exact up_alloc (cell_own (by simp) _ _ _).2); have kb0 := keep hb (a := ⟨w.heap.size + 1, 0, none⟩) (v := .float .f64 blx) (by first | assumption | go_keep | exact up_alloc (by go_keep) | exact (cell_own (by simp) _ _ _).1 | exact (cell_own (by simp) _ _ _).2 | exact up_alloc (cell_own (by simp) _ _ _).1 | exact up_alloc (cell_own (by simp) _ _ _).2); have kb1 := keep hb (a := ⟨w.heap.size + 1, 1, none⟩) (v := .float .f64 bly) (by first | assumption | go_keep | exact up_alloc (by go_keep) | exact (cell_own (by simp) _ _ _).1 | exact (cell_own (by simp) _ _ _).2 | exact up_alloc (cell_own (by simp) _ _ _).1 | exact up_alloc (cell_own (by simp) _ _ _).2); have kb2 := keep hb (a := ⟨w.heap.size + 1, 2, none⟩) (v := .float .f64 bhx) (by first | assumption | go_keep | exact up_alloc (by go_keep) | exact (cell_own (by simp) _ _ _).1 | exact (cell_own (by simp) _ _ _).2 | exact up_alloc (cell_own (by simp) _ _ _).1 | exact up_alloc (cell_own (by simp) _ _ _).2); have kb3 := keep hb (a := ⟨w.heap.size + 1, 3, none⟩) (v := .float .f64 bhy) (by first | assumption | go_keep | exact up_alloc (by go_keep) | exact (cell_own (by simp) _ _ _).1 | exact (cell_own (by simp) _ _ _).2 | exact up_alloc (cell_own (by simp) _ _ _).1 | exact up_alloc (cell_own (by simp) _ _ _).2)))
    go_ret
    refine ⟨by first | rfl | simp [h1], ?_⟩
    repeat (first | exact bl_refl _ | assumption | apply bl_drewN | apply bl_drew | apply bl_alloc | refine bl_set ?_ (by simp <;> omega) | refine bl_trans ?_ (by assumption))


end Go.Proofs.Ytekhnolpgoejdab
