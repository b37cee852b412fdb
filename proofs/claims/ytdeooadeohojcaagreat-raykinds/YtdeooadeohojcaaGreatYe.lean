/-
  What each function of package poly answers, and what the reference of its chapter answers: one contract a function, for every float: the answer stands in the relation of its formula to what was given; of the memory that was there nothing has turned.
-/
import Derived.Test.YtdeooadeohojcaaGreatVec
import Derived.Test.YtdeooadeohojcaaGreatYd
import Derived.Test.YtdeooadeohojcaaGreatPd
import Derived.Test.YtdeooadeohojcaaGreatOnce
import Derived.Below
import Derived.WalkKit
import Derived.WalkLawsBesides
import Derived.WalkSpells
import Derived.ProofKit
import Derived.OpenShut
import Derived.Deep.RegionHeld3
namespace Go.Proofs.YtdeooadeohojcaaGreat
open Go.ChangeShapes Go.WideShapes Go.ChangeAt Go.RowKit
set_option linter.unusedVariables false
set_option linter.unusedSimpArgs false


theorem bxYe0 (w : World) (fx fy wx wy : Nat) (W : World) (hW : W = (((w.alloc (.cells #[.float .f64 fx, .float .f64 fy] 24)).alloc (.cells #[.float .f64 wx, .float .f64 wy] 24)).alloc (.cells #[.float .f64 0, .float .f64 0, .float .f64 0, .float .f64 0, .float .f64 0] 28))) : W.cell? ⟨w.heap.size, 0, none⟩ = some (.float .f64 fx) ∧ W.cell? ⟨w.heap.size, 1, none⟩ = some (.float .f64 fy) ∧ W.cell? ⟨w.heap.size + 1, 0, none⟩ = some (.float .f64 wx) ∧ W.cell? ⟨w.heap.size + 1, 1, none⟩ = some (.float .f64 wy) ∧ W.cell? ⟨w.heap.size + 1 + 1, 0, none⟩ = some (.float .f64 0) ∧ W.cell? ⟨w.heap.size + 1 + 1, 1, none⟩ = some (.float .f64 0) ∧ W.cell? ⟨w.heap.size + 1 + 1, 2, none⟩ = some (.float .f64 0) ∧ W.cell? ⟨w.heap.size + 1 + 1, 3, none⟩ = some (.float .f64 0) ∧ W.cell? ⟨w.heap.size + 1 + 1, 4, none⟩ = some (.float .f64 0) ∧ Bel w W := by
  have z0_0 : (w.alloc (.cells #[.float .f64 fx, .float .f64 fy] 24)).cell? ⟨w.heap.size, 0, none⟩ = some (.float .f64 fx) := by rw [World.cell?_alloc_new]; rfl
  replace z0_0 := up_alloc (o := .cells #[.float .f64 wx, .float .f64 wy] 24) z0_0
  replace z0_0 := up_alloc (o := .cells #[.float .f64 0, .float .f64 0, .float .f64 0, .float .f64 0, .float .f64 0] 28) z0_0
  have z0_1 : (w.alloc (.cells #[.float .f64 fx, .float .f64 fy] 24)).cell? ⟨w.heap.size, 1, none⟩ = some (.float .f64 fy) := by rw [World.cell?_alloc_new]; rfl
  replace z0_1 := up_alloc (o := .cells #[.float .f64 wx, .float .f64 wy] 24) z0_1
  replace z0_1 := up_alloc (o := .cells #[.float .f64 0, .float .f64 0, .float .f64 0, .float .f64 0, .float .f64 0] 28) z0_1
  have z1_0 : ((w.alloc (.cells #[.float .f64 fx, .float .f64 fy] 24)).alloc (.cells #[.float .f64 wx, .float .f64 wy] 24)).cell? ⟨w.heap.size + 1, 0, none⟩ = some (.float .f64 wx) := by rw [← (show (w.alloc (.cells #[.float .f64 fx, .float .f64 fy] 24)).heap.size = w.heap.size + 1 by simp only [World.size_alloc]), World.cell?_alloc_new]; rfl
  replace z1_0 := up_alloc (o := .cells #[.float .f64 0, .float .f64 0, .float .f64 0, .float .f64 0, .float .f64 0] 28) z1_0
  have z1_1 : ((w.alloc (.cells #[.float .f64 fx, .float .f64 fy] 24)).alloc (.cells #[.float .f64 wx, .float .f64 wy] 24)).cell? ⟨w.heap.size + 1, 1, none⟩ = some (.float .f64 wy) := by rw [← (show (w.alloc (.cells #[.float .f64 fx, .float .f64 fy] 24)).heap.size = w.heap.size + 1 by simp only [World.size_alloc]), World.cell?_alloc_new]; rfl
  replace z1_1 := up_alloc (o := .cells #[.float .f64 0, .float .f64 0, .float .f64 0, .float .f64 0, .float .f64 0] 28) z1_1
  have z2_0 : (((w.alloc (.cells #[.float .f64 fx, .float .f64 fy] 24)).alloc (.cells #[.float .f64 wx, .float .f64 wy] 24)).alloc (.cells #[.float .f64 0, .float .f64 0, .float .f64 0, .float .f64 0, .float .f64 0] 28)).cell? ⟨w.heap.size + 1 + 1, 0, none⟩ = some (.float .f64 0) := by rw [← (show ((w.alloc (.cells #[.float .f64 fx, .float .f64 fy] 24)).alloc (.cells #[.float .f64 wx, .float .f64 wy] 24)).heap.size = w.heap.size + 1 + 1 by simp only [World.size_alloc]), World.cell?_alloc_new]; rfl
  have z2_1 : (((w.alloc (.cells #[.float .f64 fx, .float .f64 fy] 24)).alloc (.cells #[.float .f64 wx, .float .f64 wy] 24)).alloc (.cells #[.float .f64 0, .float .f64 0, .float .f64 0, .float .f64 0, .float .f64 0] 28)).cell? ⟨w.heap.size + 1 + 1, 1, none⟩ = some (.float .f64 0) := by rw [← (show ((w.alloc (.cells #[.float .f64 fx, .float .f64 fy] 24)).alloc (.cells #[.float .f64 wx, .float .f64 wy] 24)).heap.size = w.heap.size + 1 + 1 by simp only [World.size_alloc]), World.cell?_alloc_new]; rfl
  have z2_2 : (((w.alloc (.cells #[.float .f64 fx, .float .f64 fy] 24)).alloc (.cells #[.float .f64 wx, .float .f64 wy] 24)).alloc (.cells #[.float .f64 0, .float .f64 0, .float .f64 0, .float .f64 0, .float .f64 0] 28)).cell? ⟨w.heap.size + 1 + 1, 2, none⟩ = some (.float .f64 0) := by rw [← (show ((w.alloc (.cells #[.float .f64 fx, .float .f64 fy] 24)).alloc (.cells #[.float .f64 wx, .float .f64 wy] 24)).heap.size = w.heap.size + 1 + 1 by simp only [World.size_alloc]), World.cell?_alloc_new]; rfl
  have z2_3 : (((w.alloc (.cells #[.float .f64 fx, .float .f64 fy] 24)).alloc (.cells #[.float .f64 wx, .float .f64 wy] 24)).alloc (.cells #[.float .f64 0, .float .f64 0, .float .f64 0, .float .f64 0, .float .f64 0] 28)).cell? ⟨w.heap.size + 1 + 1, 3, none⟩ = some (.float .f64 0) := by rw [← (show ((w.alloc (.cells #[.float .f64 fx, .float .f64 fy] 24)).alloc (.cells #[.float .f64 wx, .float .f64 wy] 24)).heap.size = w.heap.size + 1 + 1 by simp only [World.size_alloc]), World.cell?_alloc_new]; rfl
  have z2_4 : (((w.alloc (.cells #[.float .f64 fx, .float .f64 fy] 24)).alloc (.cells #[.float .f64 wx, .float .f64 wy] 24)).alloc (.cells #[.float .f64 0, .float .f64 0, .float .f64 0, .float .f64 0, .float .f64 0] 28)).cell? ⟨w.heap.size + 1 + 1, 4, none⟩ = some (.float .f64 0) := by rw [← (show ((w.alloc (.cells #[.float .f64 fx, .float .f64 fy] 24)).alloc (.cells #[.float .f64 wx, .float .f64 wy] 24)).heap.size = w.heap.size + 1 + 1 by simp only [World.size_alloc]), World.cell?_alloc_new]; rfl
  have B0 : Bel w (((w.alloc (.cells #[.float .f64 fx, .float .f64 fy] 24)).alloc (.cells #[.float .f64 wx, .float .f64 wy] 24)).alloc (.cells #[.float .f64 0, .float .f64 0, .float .f64 0, .float .f64 0, .float .f64 0] 28)) := bl_alloc (bl_alloc (bl_alloc (bl_refl w) _ _) _ _) _ _
  subst hW
  exact ⟨z0_0, z0_1, z1_0, z1_1, z2_0, z2_1, z2_2, z2_3, z2_4, B0⟩

theorem ckYe1 (w : World) (fx fy wx wy : Nat) {W0 W1 : World} (hb : Bel W0 W1) (h : W0.cell? ⟨w.heap.size, 0, none⟩ = some (.float .f64 fx) ∧ W0.cell? ⟨w.heap.size, 1, none⟩ = some (.float .f64 fy) ∧ W0.cell? ⟨w.heap.size + 1, 0, none⟩ = some (.float .f64 wx) ∧ W0.cell? ⟨w.heap.size + 1, 1, none⟩ = some (.float .f64 wy) ∧ W0.cell? ⟨w.heap.size + 1 + 1, 0, none⟩ = some (.float .f64 0) ∧ W0.cell? ⟨w.heap.size + 1 + 1, 1, none⟩ = some (.float .f64 0) ∧ W0.cell? ⟨w.heap.size + 1 + 1, 2, none⟩ = some (.float .f64 0) ∧ W0.cell? ⟨w.heap.size + 1 + 1, 3, none⟩ = some (.float .f64 0) ∧ W0.cell? ⟨w.heap.size + 1 + 1, 4, none⟩ = some (.float .f64 0)) : W1.cell? ⟨w.heap.size, 0, none⟩ = some (.float .f64 fx) ∧ W1.cell? ⟨w.heap.size, 1, none⟩ = some (.float .f64 fy) ∧ W1.cell? ⟨w.heap.size + 1, 0, none⟩ = some (.float .f64 wx) ∧ W1.cell? ⟨w.heap.size + 1, 1, none⟩ = some (.float .f64 wy) ∧ W1.cell? ⟨w.heap.size + 1 + 1, 0, none⟩ = some (.float .f64 0) ∧ W1.cell? ⟨w.heap.size + 1 + 1, 1, none⟩ = some (.float .f64 0) ∧ W1.cell? ⟨w.heap.size + 1 + 1, 2, none⟩ = some (.float .f64 0) ∧ W1.cell? ⟨w.heap.size + 1 + 1, 3, none⟩ = some (.float .f64 0) ∧ W1.cell? ⟨w.heap.size + 1 + 1, 4, none⟩ = some (.float .f64 0) := ⟨keep hb h.1, keep hb h.2.1, keep hb h.2.2.1, keep hb h.2.2.2.1, keep hb h.2.2.2.2.1, keep hb h.2.2.2.2.2.1, keep hb h.2.2.2.2.2.2.1, keep hb h.2.2.2.2.2.2.2.1, keep hb h.2.2.2.2.2.2.2.2⟩

theorem ltYe2 {w W : World} {o0 o1 o2 : Obj} (h : Bel (((w.alloc o0).alloc o1).alloc o2) W) : w.heap.size < W.heap.size ∧ w.heap.size + 1 < W.heap.size ∧ w.heap.size + 1 + 1 < W.heap.size := by
  have hz := h.size
  simp only [World.size_alloc] at hz
  refine ⟨?_, ?_, ?_⟩ <;> omega

theorem fzYe3 (w : World) (fx fy wx wy : Nat) : ∀ o, (((w.alloc (.cells #[.float .f64 fx, .float .f64 fy] 24)).alloc (.cells #[.float .f64 wx, .float .f64 wy] 24)).alloc (.cells #[.float .f64 0, .float .f64 0, .float .f64 0, .float .f64 0, .float .f64 0] 28)).frozen? ⟨w.heap.size + 1 + 1, o, none⟩ = false := fun o => ((show Bel ((w.alloc (.cells #[.float .f64 fx, .float .f64 fy] 24)).alloc (.cells #[.float .f64 wx, .float .f64 wy] 24)) (((w.alloc (.cells #[.float .f64 fx, .float .f64 fy] 24)).alloc (.cells #[.float .f64 wx, .float .f64 wy] 24)).alloc (.cells #[.float .f64 0, .float .f64 0, .float .f64 0, .float .f64 0, .float .f64 0] 28)) by repeat (first | exact bl_refl _ | apply bl_alloc)).2 _).trans (fresh_frozen (by simp only [World.size_alloc]; exact Nat.le_refl _))

theorem inf12 (w : World) : Calls Tryz.prog 50 #[.int .i64 1] w fun e w' => e = .returned (.float .f64 9218868437227405312) ∧ w' = w := by
  have q := from_int
  go_enter Tryz.func50, Tryz.ntmps50
  go_wp2
  go_ret
  exact ⟨rfl, rfl⟩

theorem isPart_q {t T : Nat} {c : Bool} (w : World) (h : isF t T) (q : paB T = c) : Calls Tryz.prog 25 #[.float .f64 t] w fun e w' => e = .returned (.bool c) ∧ w' = w := by rw [← q]; exact isPart_n w h

theorem kc1 (w : World) (c0 c2 : Value) (t0 t1 t2 : TypeId) {l : Array Value} : (((w.alloc (.cells #[c0] t0)).alloc (.cells l t1)).alloc (.cells #[c2] t2)).cell? ⟨w.heap.size, 0, none⟩ = some c0 := up_alloc (up_alloc (by rw [World.cell?_alloc_new]; rfl))
theorem kc2 (w : World) (c0 c2 : Value) (t0 t1 t2 : TypeId) {l : Array Value} (i : Nat) (v : Value) (h : l[i]? = some v) : (((w.alloc (.cells #[c0] t0)).alloc (.cells l t1)).alloc (.cells #[c2] t2)).cell? ⟨w.heap.size + 1, i, none⟩ = some v := up_alloc (by rw [← (show (w.alloc (.cells #[c0] t0)).heap.size = w.heap.size + 1 by simp only [World.size_alloc]), World.cell?_alloc_new]; simpa using h)
theorem kc3 (w : World) (c0 c2 : Value) (t0 t1 t2 : TypeId) {l : Array Value} : (((w.alloc (.cells #[c0] t0)).alloc (.cells l t1)).alloc (.cells #[c2] t2)).cell? ⟨w.heap.size + 1 + 1, 0, none⟩ = some c2 := by rw [← (show ((w.alloc (.cells #[c0] t0)).alloc (.cells l t1)).heap.size = w.heap.size + 1 + 1 by simp only [World.size_alloc]), World.cell?_alloc_new]; rfl

set_option maxRecDepth 100000 in
set_option maxHeartbeats 8000000 in
theorem entry_n {b off n cap fx fy wx wy : Nat} {xs ys : Nat → Nat} {F Y : Vp} (w : World) (hs : Sl w b off n xs ys) (o : Oks xs ys n) (hp : 0 < n) (hn : n ≤ maxLen) (hcap : n ≤ cap) (hz : chkE xs ys n = 0) (hf : isP fx fy F) (hw : isP wx wy Y) : Calls Tryz.prog 47 #[.slice (some ⟨b, off, none⟩) n cap, .agg #[.float .f64 fx, .float .f64 fy], .agg #[.float .f64 wx, .float .f64 wy]] w fun e w' => ∃ hx9 hy9 nx9 ny9 ht9 : Nat, isH hx9 hy9 nx9 ny9 ht9 ((enR xs ys n F Y).2) ∧ e = .returned (.tuple #[.agg #[.float .f64 hx9, .float .f64 hy9, .float .f64 nx9, .float .f64 ny9, .float .f64 ht9], .bool (enR xs ys n F Y).1]) ∧ Bel w w' := by
  obtain ⟨gd, h3, h64, hout⟩ := chk_ok o hz
  replace hz := hide hz
  obtain ⟨z0_0, z0_1, z1_0, z1_1, z2_0, z2_1, z2_2, z2_3, z2_4, B0⟩ := bxYe0 w fx fy wx wy _ rfl
  have fR := fzYe3 w fx fy wx wy
  have y1z0_0 := z0_0
  have y1z0_1 := z0_1
  have y1z1_0 := z1_0
  have y1z1_1 := z1_1
  have y1z2_0 := z2_0
  have y1z2_1 := z2_1
  have y1z2_2 := z2_2
  have y1z2_3 := z2_3
  have y1z2_4 := z2_4
  go_enter Tryz.func47, Tryz.ntmps47
  go_wp2_with (first | (go_at_call 71; refine (normals_ok b off n cap xs ys _ (hs.bel B0) o hp hn hcap (unhide hz)).mono ?_; rintro e w1 ⟨rr, rfl, hb, hrr, hN⟩; have hq := ckYe1 w fx fy wx wy hb (by refine ⟨?_, ?_, ?_, ?_, ?_, ?_, ?_, ?_, ?_⟩ <;> first | assumption | go_keep); clear z0_0 z0_1 z1_0 z1_1 z2_0 z2_1 z2_2 z2_3 z2_4; obtain ⟨z0_0, z0_1, z1_0, z1_1, z2_0, z2_1, z2_2, z2_3, z2_4⟩ := hq; have BF := hb; clear hb; obtain ⟨l0, l1, l2⟩ := ltYe2 BF) | (go_at_call 72; refine (keeper_n 73 _).mono ?_; rintro e w2 ⟨rfl, hW⟩; have B12 : Bel w1 w2 := (by rw [hW]; exact bl_alloc (bl_alloc (bl_alloc (bl_refl _) _ _) _ _) _ _); have cb : w2.cell? ⟨w1.heap.size, 0, none⟩ = some (.func (.func 73) #[] #[]) := (by rw [hW]; exact kc1 w1 _ _ _ _ _); have ck0 : w2.cell? ⟨w1.heap.size + 1, 0, none⟩ = some (.float .f64 0) := (by rw [hW]; exact kc2 w1 _ _ _ _ _ 0 _ rfl); have ck1 : w2.cell? ⟨w1.heap.size + 1, 1, none⟩ = some (.float .f64 0) := (by rw [hW]; exact kc2 w1 _ _ _ _ _ 1 _ rfl); have ck2 : w2.cell? ⟨w1.heap.size + 1, 2, none⟩ = some (.float .f64 0) := (by rw [hW]; exact kc2 w1 _ _ _ _ _ 2 _ rfl); have ck3 : w2.cell? ⟨w1.heap.size + 1, 3, none⟩ = some (.float .f64 0) := (by rw [hW]; exact kc2 w1 _ _ _ _ _ 3 _ rfl); have ck4 : w2.cell? ⟨w1.heap.size + 1, 4, none⟩ = some (.float .f64 0) := (by rw [hW]; exact kc2 w1 _ _ _ _ _ 4 _ rfl); have ci : w2.cell? ⟨w1.heap.size + 1 + 1, 0, none⟩ = some (.bool false) := (by rw [hW]; exact kc3 w1 _ _ _ _ _); replace z0_0 := keep B12 z0_0; replace z0_1 := keep B12 z0_1; replace z1_0 := keep B12 z1_0; replace z1_1 := keep B12 z1_1; replace z2_0 := keep B12 z2_0; replace z2_1 := keep B12 z2_1; replace z2_2 := keep B12 z2_2; replace z2_3 := keep B12 z2_3; replace z2_4 := keep B12 z2_4; have h3 : w1.heap.size + 1 + 1 + 1 = w2.heap.size := (by rw [hW]; simp only [World.size_alloc]); clear hW) | (go_at_call 50; refine (inf12 _).mono ?_; rintro e w3 ⟨rfl, hW⟩; rw [hW]))
  have w1z0_0 : w1.cell? ⟨w.heap.size, 0, none⟩ = some (.float .f64 fx) := keep BF y1z0_0
  have w1z0_1 : w1.cell? ⟨w.heap.size, 1, none⟩ = some (.float .f64 fy) := keep BF y1z0_1
  have w1z1_0 : w1.cell? ⟨w.heap.size + 1, 0, none⟩ = some (.float .f64 wx) := keep BF y1z1_0
  have w1z1_1 : w1.cell? ⟨w.heap.size + 1, 1, none⟩ = some (.float .f64 wy) := keep BF y1z1_1
  have w1z2_0 : w1.cell? ⟨w.heap.size + 1 + 1, 0, none⟩ = some (.float .f64 0) := keep BF y1z2_0
  have w1z2_1 : w1.cell? ⟨w.heap.size + 1 + 1, 1, none⟩ = some (.float .f64 0) := keep BF y1z2_1
  have w1z2_2 : w1.cell? ⟨w.heap.size + 1 + 1, 2, none⟩ = some (.float .f64 0) := keep BF y1z2_2
  have w1z2_3 : w1.cell? ⟨w.heap.size + 1 + 1, 3, none⟩ = some (.float .f64 0) := keep BF y1z2_3
  have w1z2_4 : w1.cell? ⟨w.heap.size + 1 + 1, 4, none⟩ = some (.float .f64 0) := keep BF y1z2_4
  have fz0 : ∀ o, w1.frozen? ⟨w.heap.size + 1 + 1, o, none⟩ = false := fun o => (BF.2 _).trans (fR o)
  have fz1 : ∀ o, w1.frozen? ⟨w1.heap.size + 1, o, none⟩ = false := fun o => fresh_frozen (by omega)
  have fz2 : ∀ o, w1.frozen? ⟨w1.heap.size + 1 + 1, o, none⟩ = false := fun o => fresh_frozen (by omega)
  go_loopw [12, 31] (fun lv' i' wr => ∃ (k : Nat) (s : Et) (lw hx1 hy1 nx1 ny1 ht1 : Nat), k ≤ n ∧ i' = .int .i64 k ∧ lv' = .float .f64 lw ∧ isF lw s.2.2 ∧ isH hx1 hy1 nx1 ny1 ht1 (s.2.1) ∧ Hid (etS xs ys n F Y k = some s) ∧ Bel w1 wr ∧ wr.cell? ⟨w1.heap.size, 0, none⟩ = some (.func (.func 73) #[] #[]) ∧ wr.cell? ⟨w1.heap.size + 1, 0, none⟩ = some (.float .f64 hx1) ∧ wr.cell? ⟨w1.heap.size + 1, 1, none⟩ = some (.float .f64 hy1) ∧ wr.cell? ⟨w1.heap.size + 1, 2, none⟩ = some (.float .f64 nx1) ∧ wr.cell? ⟨w1.heap.size + 1, 3, none⟩ = some (.float .f64 ny1) ∧ wr.cell? ⟨w1.heap.size + 1, 4, none⟩ = some (.float .f64 ht1) ∧ wr.cell? ⟨w1.heap.size + 1 + 1, 0, none⟩ = some (.bool s.1)) (fun _ i' _ => n - (intOf i').toNat)
  case atStart => exact ⟨0, (false, zeH, 9218868437227405312), _, 0, 0, 0, 0, 0, by omega, rfl, rfl, inf_is, zeH_is, hide rfl, B12, cb, ck0, ck1, ck2, ck3, ck4, ci⟩
  case round =>
    clear cb ck0 ck1 ck2 ck3 ck4 ci
    obtain ⟨k, ⟨s1, sH, sL⟩, lw, hx1, hy1, nx1, ny1, ht1, hk, rfl, rfl, hL, hH, hE, hBr, cb, ck0, ck1, ck2, ck3, ck4, ci⟩ := hrel
    simp only at hL hH ci
    
    have hsz := hBr.size
    have lkz := World.block_lt_of_cell? _ _ ci
    simp only at lkz
    by_cases hlt : k < n
    · have k1 : (k : Int) < (n : Int) := by omega
      obtain ⟨bn1, bn2⟩ := n_bd (wX_bd gd hlt).1 (wX_bd gd hlt).2 (by have q := hout k hlt; unfold outB at q; rw [Bool.and_eq_true] at q; simpa using q.1) |>.2
      have hnm : isP (nX xs ys n k) (nY xs ys n k) (nmP xs ys n k) := isP_self bn1.1 bn2.1
      have hpk : isP (xs k) (ys k) (sdA xs ys k) := isP_self (o k hlt).1 (o k hlt).2
      clear bn1 bn2
      obtain ⟨c0, c1⟩ := (hN.bel hBr) k hlt
      simp only [Nat.zero_add] at c0 c1
      obtain ⟨l0, l1⟩ := (hs.bel (bl_trans (bl_trans B0 BF) hBr)) k hlt
      replace z0_0 := keep hBr w1z0_0
      replace z0_1 := keep hBr w1z0_1
      replace z1_0 := keep hBr w1z1_0
      replace z1_1 := keep hBr w1z1_1
      replace z2_0 := keep hBr w1z2_0
      replace z2_1 := keep hBr w1z2_1
      replace z2_2 := keep hBr w1z2_2
      replace z2_3 := keep hBr w1z2_3
      replace z2_4 := keep hBr w1z2_4
      go_wp2
      have B2 : Bel wr (wr.alloc (.cells #[.float .f64 (nX xs ys n k), .float .f64 (nY xs ys n k)] 24)) := bl_alloc (bl_refl _) _ _
      have e0 : (wr.alloc (.cells #[.float .f64 (nX xs ys n k), .float .f64 (nY xs ys n k)] 24)).cell? ⟨wr.heap.size, 0, none⟩ = some (.float .f64 (nX xs ys n k)) := by rw [World.cell?_alloc_new]; rfl
      have e1 : (wr.alloc (.cells #[.float .f64 (nX xs ys n k), .float .f64 (nY xs ys n k)] 24)).cell? ⟨wr.heap.size, 1, none⟩ = some (.float .f64 (nY xs ys n k)) := by rw [World.cell?_alloc_new]; rfl
      have yz0_0 := keep B2 z0_0
      have yz0_1 := keep B2 z0_1
      have yz1_0 := keep B2 z1_0
      have yz1_1 := keep B2 z1_1
      have yz2_0 := keep B2 z2_0
      have yz2_1 := keep B2 z2_1
      have yz2_2 := keep B2 z2_2
      have yz2_3 := keep B2 z2_3
      have yz2_4 := keep B2 z2_4
      have ycb := keep B2 cb
      have yci := keep B2 ci
      have yck0 := keep B2 ck0
      have yck1 := keep B2 ck1
      have yck2 := keep B2 ck2
      have yck3 := keep B2 ck3
      have yck4 := keep B2 ck4
      replace l0 := keep B2 l0
      replace l1 := keep B2 l1
      clear z0_0 z0_1 z1_0 z1_1 z2_0 z2_1 z2_2 z2_3 z2_4 cb ci ck0 ck1 ck2 ck3 ck4 c0 c1
      refine wp_region_mono 13 rfl (fun i W v => match i with | 0 => v = .agg #[.float .f64 (nX xs ys n k), .float .f64 (nY xs ys n k)] | 1 => v = .agg #[.float .f64 wx, .float .f64 wy] | 2 => ∃ p, isF p (etG xs ys n Y k) ∧ v = .float .f64 p | 3 => v = .agg #[.float .f64 (nX xs ys n k), .float .f64 (nY xs ys n k)] | 4 => v = .agg #[.float .f64 fx, .float .f64 fy] | 5 => v = .slice (some ⟨b, off, none⟩) n cap | 6 => v = .int .i64 (k : Int) | 7 => v = .pointer (some ⟨b, off + k * 2, none⟩) | 8 => v = .agg #[.float .f64 (xs k), .float .f64 (ys k)] | 9 => ∃ x y, isP x y (suF F (sdA xs ys k)) ∧ v = .agg #[.float .f64 x, .float .f64 y] | 10 => ∃ p, isF p (etF xs ys n F k) ∧ v = .float .f64 p | 11 => ∃ p, isF p (etG xs ys n Y k) ∧ v = .float .f64 p | 12 => ∃ p, isF p (etF xs ys n F k) ∧ v = .float .f64 p | _ => False) ?A_wm (by kernel_rfl) (by kernel_rfl) ?hA_wm ?hmo_wm ?hq_wm ?ht_wm
      case hA_wm =>
        intro s
        simp only [putL, dstO, Act.put, List.getElem?_toArray, List.getElem?_cons_zero, List.getElem?_cons_succ, Option.bind_some, List.setIfInBounds_toArray, List.set_cons_zero, List.set_cons_succ, if_true]
        all_goals exact rfl
      case hmo_wm =>
        intro i W W' v hi hb h
        rcases (show i = 0 ∨ i = 1 ∨ i = 2 ∨ i = 3 ∨ i = 4 ∨ i = 5 ∨ i = 6 ∨ i = 7 ∨ i = 8 ∨ i = 9 ∨ i = 10 ∨ i = 11 ∨ i = 12 by omega) with rfl | rfl | rfl | rfl | rfl | rfl | rfl | rfl | rfl | rfl | rfl | rfl | rfl
        all_goals first | exact h
      case hq_wm =>
        intro i o hi ho s W hs hb K hK
        have uz0_0 := keep hb yz0_0; have uz0_1 := keep hb yz0_1; have uz1_0 := keep hb yz1_0; have uz1_1 := keep hb yz1_1; have uz2_0 := keep hb yz2_0; have uz2_1 := keep hb yz2_1; have uz2_2 := keep hb yz2_2; have uz2_3 := keep hb yz2_3; have uz2_4 := keep hb yz2_4; have ue0 := keep hb e0; have ue1 := keep hb e1; have ul0 := keep hb l0; have ul1 := keep hb l1
        rcases (show i = 0 ∨ i = 1 ∨ i = 2 ∨ i = 3 ∨ i = 4 ∨ i = 5 ∨ i = 6 ∨ i = 7 ∨ i = 8 ∨ i = 9 ∨ i = 10 ∨ i = 11 ∨ i = 12 by omega) with rfl | rfl | rfl | rfl | rfl | rfl | rfl | rfl | rfl | rfl | rfl | rfl | rfl
        rotate_left 2
        cases ho
        have e0 : s 0 = _ := hs 0 (by decide) (by kernel_rfl)
        have e1 : s 1 = _ := hs 1 (by decide) (by kernel_rfl)
        simp only [e0, e1] at hK ⊢
        rotate_left 5
        cases ho
        have e5 : s 5 = _ := hs 5 (by decide) (by kernel_rfl)
        have e6 : s 6 = _ := hs 6 (by decide) (by kernel_rfl)
        simp only [e5, e6] at hK ⊢
        rotate_left 1
        cases ho
        have e7 : s 7 = _ := hs 7 (by decide) (by kernel_rfl)
        simp only [e7] at hK ⊢
        rotate_left 1
        cases ho
        have e4 : s 4 = _ := hs 4 (by decide) (by kernel_rfl)
        have e8 : s 8 = _ := hs 8 (by decide) (by kernel_rfl)
        simp only [e4, e8] at hK ⊢
        rotate_left 1
        cases ho
        have e3 : s 3 = _ := hs 3 (by decide) (by kernel_rfl)
        obtain ⟨x9, y9, h9, e9⟩ := hs 9 (by decide) (by kernel_rfl)
        simp only [e3, e9] at hK ⊢
        rotate_left 1
        cases ho
        obtain ⟨p2, h2, e2⟩ := hs 2 (by decide) (by kernel_rfl)
        simp only [e2] at hK ⊢
        rotate_left 1
        cases ho
        obtain ⟨p10, h10, e10⟩ := hs 10 (by decide) (by kernel_rfl)
        simp only [e10] at hK ⊢
        rotate_left 1
        all_goals
          try cases ho
          simp only [Act.put, List.setIfInBounds_toArray, List.set_cons_zero, List.set_cons_succ] at hK
          clear hs
          go_simp
          all_goals (try go_wp2_with (first | (go_at_call 21; with_reducible refine (vDot_n _ hnm hw).mono ?_; rintro e w' ⟨p, h2, rfl, hb1⟩) | (go_at_call 19; refine (vSub_n _ hf hpk).mono ?_; rintro e w' ⟨x, y, h9, rfl, hb1⟩) | (go_at_call 21; refine (vDot_n _ hnm h9).mono ?_; rintro e w' ⟨p, h10, rfl, hb1⟩)))
          all_goals first | with_reducible exact hK.out _ _ ⟨_, h2, rfl⟩ hb1 | with_reducible exact hK.out _ _ ⟨_, _, h9, rfl⟩ hb1 | with_reducible exact hK.out _ _ ⟨_, h10, rfl⟩ hb1 | with_reducible exact hK.out _ _ ⟨_, h2, rfl⟩ (bl_refl _) | with_reducible exact hK.out _ _ ⟨_, h10, rfl⟩ (bl_refl _) | with_reducible exact hK.out _ _ rfl (bl_refl _) | with_reducible exact hK.out _ _ rfl (by assumption) | with_reducible exact hK.out _ _ (by assumption) (by assumption)
      case ht_wm =>
        intro s w4 hs hb
        have e0 : s 0 = _ := hs 0 (by decide)
        have e1 : s 1 = _ := hs 1 (by decide)
        obtain ⟨_, _, e2⟩ := hs 2 (by decide)
        have e3 : s 3 = _ := hs 3 (by decide)
        have e4 : s 4 = _ := hs 4 (by decide)
        have e5 : s 5 = _ := hs 5 (by decide)
        have e6 : s 6 = _ := hs 6 (by decide)
        have e7 : s 7 = _ := hs 7 (by decide)
        have e8 : s 8 = _ := hs 8 (by decide)
        obtain ⟨_, _, _, e9⟩ := hs 9 (by decide)
        obtain ⟨_, _, e10⟩ := hs 10 (by decide)
        obtain ⟨g0, hg0, e11⟩ := hs 11 (by decide)
        obtain ⟨f0, hf0, e12⟩ := hs 12 (by decide)
        simp only [e0, e1, e2, e3, e4, e5, e6, e7, e8, e9, e10, e11, e12]
        clear hs e0 e1 e2 e3 e4 e5 e6 e7 e8 e9 e10 e11 e12
        have z0_0 := keep hb yz0_0; have z0_1 := keep hb yz0_1; have z1_0 := keep hb yz1_0; have z1_1 := keep hb yz1_1; have z2_0 := keep hb yz2_0; have z2_1 := keep hb yz2_1; have z2_2 := keep hb yz2_2; have z2_3 := keep hb yz2_3; have z2_4 := keep hb yz2_4; have cb := keep hb ycb; have ci := keep hb yci; have ck0 := keep hb yck0; have ck1 := keep hb yck1; have ck2 := keep hb yck2; have ck3 := keep hb yck3; have ck4 := keep hb yck4
        have BW := bl_trans (bl_trans hBr B2) hb
        have en0 := keep hb e0
        have en1 := keep hb e1
        clear hb B2 e0 e1 yz0_0 yz0_1 yz1_0 yz1_1 yz2_0 yz2_1 yz2_2 yz2_3 yz2_4 ycb yci yck0 yck1 yck2 yck3 yck4
        have c1 := cmp_lt .f64
        have c2 := cmp_gt .f64
        have d3 := run_quo Tryz.prog
        have d4 := run_neg Tryz.prog
        have d5 := run_min2f Tryz.prog
        have HT : ∀ W1 : World, isF (fv .quo .f64 (Op.negFloat .f64 f0) g0 W1) (etT xs ys n F Y k) := fun W1 => o_is (op := .quo) W1 (ng_is hf0) hg0
        cases q1 : ltK .f64 (etG xs ys n Y k) 0
        · have g1 := (lt1_is hg0).trans q1
          cases q2 : ltK .f64 0 (etG xs ys n Y k)
          · have g2 := (lt0_is hg0).trans q2
            cases q3 : ltK .f64 0 (etF xs ys n F k)
            · have g3 := (lt0_is hf0).trans q3
              go_wp2
              exact ⟨⟨k + 1, (s1, sH, sL), lw, hx1, hy1, nx1, ny1, ht1, by omega, by go_num, rfl, hL, hH, hide (et_along (unhide hE) q1 q2 q3), BW, cb, ck0, ck1, ck2, ck3, ck4, ci⟩, by simp [intOf]; omega⟩
            · have g3 := (lt0_is hf0).trans q3
              have eR : enR xs ys n F Y = (false, zeH) := by unfold enR; rw [et_stop (unhide hE) q1 q2 q3 hlt]
              have fE : ∀ o, w4.frozen? ⟨w.heap.size + 1 + 1, o, none⟩ = false := fun o => (BW.2 _).trans (fz0 o)
              go_wp2
              refine fin5 (G := bodyPost _ _ _ _ _) (by repeat (first | (with_reducible exact z2_0) | (with_reducible refine up_drewN ?_) | (with_reducible refine up_alloc ?_))) (by repeat (first | (with_reducible exact z2_1) | (with_reducible refine up_drewN ?_) | (with_reducible refine up_alloc ?_))) (by repeat (first | (with_reducible exact z2_2) | (with_reducible refine up_drewN ?_) | (with_reducible refine up_alloc ?_))) (by repeat (first | (with_reducible exact z2_3) | (with_reducible refine up_drewN ?_) | (with_reducible refine up_alloc ?_))) (by repeat (first | (with_reducible exact z2_4) | (with_reducible refine up_drewN ?_) | (with_reducible refine up_alloc ?_))) (by have B := bl_trans (bl_trans B0 BF) BW; repeat (first | (with_reducible exact B) | (with_reducible refine bl_drewN ?_ _) | (with_reducible refine bl_alloc ?_ _ _))) (by omega) fun X r0 r1 r2 r3 r4 bX => ?_
              refine bodyPost_ret (v := .tuple #[.agg #[.float .f64 0, .float .f64 0, .float .f64 0, .float .f64 0, .float .f64 0], .bool false]) (by simp [r0, r1, r2, r3, r4, results, Tryz.results47, go_sem] <;> (first | exact ⟨rfl, rfl⟩ | rfl)) rfl ⟨0, 0, 0, 0, 0, by rw [eR]; exact zeH_is, by rw [eR], bX⟩
          · have g2 := (lt0_is hg0).trans q2
            go_wp2
            exact ⟨⟨k + 1, (s1, sH, mnF sL (etT xs ys n F Y k)), _, hx1, hy1, nx1, ny1, ht1, by omega, by go_num, rfl, (mn_is hL (HT _) _), hH, hide (et_out (unhide hE) q1 q2), (by repeat (first | (with_reducible exact BW) | (with_reducible refine bl_drewN ?_ _))), (by repeat (first | (with_reducible exact cb) | (with_reducible refine up_drewN ?_))), (by repeat (first | (with_reducible exact ck0) | (with_reducible refine up_drewN ?_))), (by repeat (first | (with_reducible exact ck1) | (with_reducible refine up_drewN ?_))), (by repeat (first | (with_reducible exact ck2) | (with_reducible refine up_drewN ?_))), (by repeat (first | (with_reducible exact ck3) | (with_reducible refine up_drewN ?_))), (by repeat (first | (with_reducible exact ck4) | (with_reducible refine up_drewN ?_))), (by repeat (first | (with_reducible exact ci) | (with_reducible refine up_drewN ?_)))⟩, by simp [intOf]; omega⟩
        · have g1 := (lt1_is hg0).trans q1
          cases s1
          · go_wp2_with (first | (go_at_call 97; refine (tellL0 _ (by repeat (first | (with_reducible exact ci) | (with_reducible refine up_drewN ?_))) (by repeat (first | (with_reducible exact cb) | (with_reducible refine up_drewN ?_))) (by repeat (first | (with_reducible exact ck0) | (with_reducible refine up_drewN ?_))) (by repeat (first | (with_reducible exact ck1) | (with_reducible refine up_drewN ?_))) (by repeat (first | (with_reducible exact ck2) | (with_reducible refine up_drewN ?_))) (by repeat (first | (with_reducible exact ck3) | (with_reducible refine up_drewN ?_))) (by repeat (first | (with_reducible exact ck4) | (with_reducible refine up_drewN ?_))) (by omega) (by omega) (by omega) (fun o => (((by repeat (first | (with_reducible exact BW) | (with_reducible refine bl_drewN ?_ _))) : Bel w1 _).2 _).trans (fz1 o)) (fun o => (((by repeat (first | (with_reducible exact BW) | (with_reducible refine bl_drewN ?_ _))) : Bel w1 _).2 _).trans (fz2 o)) rfl).mono ?_; rintro e w5 ⟨rfl, g0, g1, g2, g3, g4, gi, gb, bX, -⟩; replace bX := bX w1 (by repeat (first | (with_reducible exact BW) | (with_reducible refine bl_drewN ?_ _))) (by omega) (by omega)))
            exact ⟨⟨k + 1, (true, ((0, 0), nmP xs ys n k, etT xs ys n F Y k), sL), lw, 0, 0, (nX xs ys n k), (nY xs ys n k), _, by omega, by go_num, rfl, hL, (isH_of isP_zero hnm (HT _)), hide ((et_in (unhide hE) q1).trans (by rw [pkF_yes (show etK (false, sH, sL) (etT xs ys n F Y k) = true from rfl)])), bX, gb, g0, g1, g2, g3, g4, gi⟩, by simp [intOf]; omega⟩
          · cases qt : ltK .f64 sH.2.2 (etT xs ys n F Y k)
            · have HL := fun W1 => (lt_is hH.2.2 (HT W1)).trans qt
              go_wp2_with (first | (go_at_call 97; refine (tellL2 _ (by repeat (first | (with_reducible exact ci) | (with_reducible refine up_drewN ?_))) (by repeat (first | (with_reducible exact cb) | (with_reducible refine up_drewN ?_))) (by repeat (first | (with_reducible exact ck0) | (with_reducible refine up_drewN ?_))) (by repeat (first | (with_reducible exact ck1) | (with_reducible refine up_drewN ?_))) (by repeat (first | (with_reducible exact ck2) | (with_reducible refine up_drewN ?_))) (by repeat (first | (with_reducible exact ck3) | (with_reducible refine up_drewN ?_))) (by repeat (first | (with_reducible exact ck4) | (with_reducible refine up_drewN ?_))) (by omega) (by omega) (by omega) (fun o => (((by repeat (first | (with_reducible exact BW) | (with_reducible refine bl_drewN ?_ _))) : Bel w1 _).2 _).trans (fz1 o)) (fun o => (((by repeat (first | (with_reducible exact BW) | (with_reducible refine bl_drewN ?_ _))) : Bel w1 _).2 _).trans (fz2 o)) rfl (HL _)).mono ?_; rintro e w5 ⟨rfl, g0, g1, g2, g3, g4, gi, gb, bX, -⟩; replace bX := bX w1 (by repeat (first | (with_reducible exact BW) | (with_reducible refine bl_drewN ?_ _))) (by omega) (by omega)))
              exact ⟨⟨k + 1, (true, sH, sL), lw, hx1, hy1, nx1, ny1, ht1, by omega, by go_num, rfl, hL, hH, hide ((et_in (unhide hE) q1).trans (by rw [pkF_no (show etK (true, sH, sL) (etT xs ys n F Y k) = false from qt)])), bX, gb, g0, g1, g2, g3, g4, gi⟩, by simp [intOf]; omega⟩
            · have HL := fun W1 => (lt_is hH.2.2 (HT W1)).trans qt
              go_wp2_with (first | (go_at_call 97; refine (tellL1 _ (by repeat (first | (with_reducible exact ci) | (with_reducible refine up_drewN ?_))) (by repeat (first | (with_reducible exact cb) | (with_reducible refine up_drewN ?_))) (by repeat (first | (with_reducible exact ck0) | (with_reducible refine up_drewN ?_))) (by repeat (first | (with_reducible exact ck1) | (with_reducible refine up_drewN ?_))) (by repeat (first | (with_reducible exact ck2) | (with_reducible refine up_drewN ?_))) (by repeat (first | (with_reducible exact ck3) | (with_reducible refine up_drewN ?_))) (by repeat (first | (with_reducible exact ck4) | (with_reducible refine up_drewN ?_))) (by omega) (by omega) (by omega) (fun o => (((by repeat (first | (with_reducible exact BW) | (with_reducible refine bl_drewN ?_ _))) : Bel w1 _).2 _).trans (fz1 o)) (fun o => (((by repeat (first | (with_reducible exact BW) | (with_reducible refine bl_drewN ?_ _))) : Bel w1 _).2 _).trans (fz2 o)) rfl (HL _)).mono ?_; rintro e w5 ⟨rfl, g0, g1, g2, g3, g4, gi, gb, bX, -⟩; replace bX := bX w1 (by repeat (first | (with_reducible exact BW) | (with_reducible refine bl_drewN ?_ _))) (by omega) (by omega)))
              exact ⟨⟨k + 1, (true, ((0, 0), nmP xs ys n k, etT xs ys n F Y k), sL), lw, 0, 0, (nX xs ys n k), (nY xs ys n k), _, by omega, by go_num, rfl, hL, (isH_of isP_zero hnm (HT _)), hide ((et_in (unhide hE) q1).trans (by rw [pkF_yes (show etK (true, sH, sL) (etT xs ys n F Y k) = true from qt)])), bX, gb, g0, g1, g2, g3, g4, gi⟩, by simp [intOf]; omega⟩
    · have hkn : k = n := by omega
      subst hkn
      replace z0_0 := keep hBr w1z0_0
      replace z0_1 := keep hBr w1z0_1
      replace z1_0 := keep hBr w1z1_0
      replace z1_1 := keep hBr w1z1_1
      replace z2_0 := keep hBr w1z2_0
      replace z2_1 := keep hBr w1z2_1
      replace z2_2 := keep hBr w1z2_2
      replace z2_3 := keep hBr w1z2_3
      replace z2_4 := keep hBr w1z2_4
      have c3 := cmp_le .f64
      have eR : enR xs ys k F Y = (etB (s1, sH, sL), sH) := by unfold enR; rw [unhide hE]
      have fE0 : ∀ o, wr.frozen? ⟨w.heap.size + 1 + 1, o, none⟩ = false := fun o => (hBr.2 _).trans (fz0 o)
      have lz0 : w.heap.size + 1 + 1 < wr.heap.size := by omega
      have hT := hH.2.2
      cases s1
      · go_wp2_with (first | (go_at_call 98; refine (best_n _ ci ck0 ck1 ck2 ck3 ck4).mono ?_; rintro e w5 ⟨rfl, hb⟩; replace z2_0 := keep hb z2_0; replace z2_1 := keep hb z2_1; replace z2_2 := keep hb z2_2; replace z2_3 := keep hb z2_3; replace z2_4 := keep hb z2_4; have fE : ∀ o, w5.frozen? ⟨w.heap.size + 1 + 1, o, none⟩ = false := fun o => (hb.2 _).trans (fE0 o); have lz := Nat.lt_of_lt_of_le lz0 hb.size; have B5 := bl_trans (bl_trans (bl_trans B0 BF) hBr) hb; clear hb))
        have e0 : (w5.alloc (.cells #[.float .f64 hx1, .float .f64 hy1, .float .f64 nx1, .float .f64 ny1, .float .f64 ht1] 28)).cell? ⟨w5.heap.size, 0, none⟩ = some (.float .f64 hx1) := by rw [World.cell?_alloc_new]; rfl
        have e1 : (w5.alloc (.cells #[.float .f64 hx1, .float .f64 hy1, .float .f64 nx1, .float .f64 ny1, .float .f64 ht1] 28)).cell? ⟨w5.heap.size, 1, none⟩ = some (.float .f64 hy1) := by rw [World.cell?_alloc_new]; rfl
        have e2 : (w5.alloc (.cells #[.float .f64 hx1, .float .f64 hy1, .float .f64 nx1, .float .f64 ny1, .float .f64 ht1] 28)).cell? ⟨w5.heap.size, 2, none⟩ = some (.float .f64 nx1) := by rw [World.cell?_alloc_new]; rfl
        have e3 : (w5.alloc (.cells #[.float .f64 hx1, .float .f64 hy1, .float .f64 nx1, .float .f64 ny1, .float .f64 ht1] 28)).cell? ⟨w5.heap.size, 3, none⟩ = some (.float .f64 ny1) := by rw [World.cell?_alloc_new]; rfl
        have e4 : (w5.alloc (.cells #[.float .f64 hx1, .float .f64 hy1, .float .f64 nx1, .float .f64 ny1, .float .f64 ht1] 28)).cell? ⟨w5.heap.size, 4, none⟩ = some (.float .f64 ht1) := by rw [World.cell?_alloc_new]; rfl
        have y0 := keep (bl_alloc (bl_refl w5) #[.float .f64 hx1, .float .f64 hy1, .float .f64 nx1, .float .f64 ny1, .float .f64 ht1] 28) z2_0
        have y1 := keep (bl_alloc (bl_refl w5) #[.float .f64 hx1, .float .f64 hy1, .float .f64 nx1, .float .f64 ny1, .float .f64 ht1] 28) z2_1
        have y2 := keep (bl_alloc (bl_refl w5) #[.float .f64 hx1, .float .f64 hy1, .float .f64 nx1, .float .f64 ny1, .float .f64 ht1] 28) z2_2
        have y3 := keep (bl_alloc (bl_refl w5) #[.float .f64 hx1, .float .f64 hy1, .float .f64 nx1, .float .f64 ny1, .float .f64 ht1] 28) z2_3
        have y4 := keep (bl_alloc (bl_refl w5) #[.float .f64 hx1, .float .f64 hy1, .float .f64 nx1, .float .f64 ny1, .float .f64 ht1] 28) z2_4
        have fW : ∀ o, (w5.alloc (.cells #[.float .f64 hx1, .float .f64 hy1, .float .f64 nx1, .float .f64 ny1, .float .f64 ht1] 28)).frozen? ⟨w.heap.size + 1 + 1, o, none⟩ = false := fun o => ((bl_alloc (bl_refl w5) #[.float .f64 hx1, .float .f64 hy1, .float .f64 nx1, .float .f64 ny1, .float .f64 ht1] 28).2 _).trans (fE o)
        refine wp_region_retG 15 13 0 rfl (fun i => !([3, 4, 5, 8, 9, 10, 11] : List Nat).contains i) (fun j => ([] : List Nat).contains j) [2, 7] (fun i v => match i with | 0 => v = .agg #[.float .f64 hx1, .float .f64 hy1, .float .f64 nx1, .float .f64 ny1, .float .f64 ht1] | 1 => v = .bool false | 2 => v = .bool false | 3 => v = undef | 4 => v = undef | 5 => v = undef | 6 => v = .bool false | 7 => v = .bool false | 8 => v = undef | 9 => v = undef | 10 => v = undef | 11 => v = undef | 12 => v = .bool false | 14 => v = .bool false | _ => False) (putN (w.heap.size + 1 + 1) 5) ?A_wz0 (by kernel_rfl) (by kernel_rfl) (by kernel_rfl) (by decide) (by decide) (by decide) (by decide) ?hcv_wz0 ?hnw_wz0 ?hA_wz0 ?hst_wz0 ?hq_wz0 ?ht_wz0
        case hcv_wz0 =>
          intro j hj v hv
          simp only [List.mem_cons, List.not_mem_nil, or_false] at hj
          rcases hj with rfl | rfl
          all_goals exact hv
        case hnw_wz0 =>
          intro i hi hwt
          rcases (show i = 0 ∨ i = 1 ∨ i = 2 ∨ i = 3 ∨ i = 4 ∨ i = 5 ∨ i = 6 ∨ i = 7 ∨ i = 8 ∨ i = 9 ∨ i = 10 ∨ i = 11 ∨ i = 12 ∨ i = 13 ∨ i = 14 by omega) with rfl | rfl | rfl | rfl | rfl | rfl | rfl | rfl | rfl | rfl | rfl | rfl | rfl | rfl | rfl
          all_goals first | exact rfl | exact absurd hwt (by decide)
        case hA_wz0 =>
          intro s
          simp only [putL, dstO, Act.put, List.getElem?_toArray, List.getElem?_cons_zero, List.getElem?_cons_succ, Option.bind_some, List.setIfInBounds_toArray, List.set_cons_zero, List.set_cons_succ, if_true]
          all_goals exact rfl
        case hst_wz0 =>
          intro o ho s hs W hb K hK
          cases ho
          have u0 := keep hb y0; have u1 := keep hb y1; have u2 := keep hb y2; have u3 := keep hb y3; have u4 := keep hb y4; have u9 := fun o => (hb.2 ⟨w.heap.size + 1 + 1, o, none⟩).trans (fW o)
          have e0 : s 0 = _ := hs 0 (by decide) (by kernel_rfl)
          simp only [e0] at hK ⊢
          clear hs
          go_simp
          exact hK.out
        case hq_wz0 =>
          intro i o hi hne hwt ho s hs W hb K hK
          have ue0 := once_keepN hb e0 (by simp only; omega); have ue1 := once_keepN hb e1 (by simp only; omega); have ue2 := once_keepN hb e2 (by simp only; omega); have ue3 := once_keepN hb e3 (by simp only; omega); have ue4 := once_keepN hb e4 (by simp only; omega); have c3 := cmp_le .f64
          rcases (show i = 0 ∨ i = 1 ∨ i = 2 ∨ i = 3 ∨ i = 4 ∨ i = 5 ∨ i = 6 ∨ i = 7 ∨ i = 8 ∨ i = 9 ∨ i = 10 ∨ i = 11 ∨ i = 12 ∨ i = 13 ∨ i = 14 by omega) with rfl | rfl | rfl | rfl | rfl | rfl | rfl | rfl | rfl | rfl | rfl | rfl | rfl | rfl | rfl
          rotate_left 2
          cases ho
          have e1 : s 1 = _ := hs 1 (by decide) (by decide) (by kernel_rfl)
          simp only [e1] at hK ⊢
          rotate_left 1
          · exact absurd hwt (by decide)
          · exact absurd hwt (by decide)
          · exact absurd hwt (by decide)
          cases ho
          have e2 : s 2 = _ := hs 2 (by decide) (by decide) (by kernel_rfl)
          have e5 : s 5 = _ := hs 5 (by decide) (by decide) (by kernel_rfl)
          simp only [e2, e5] at hK ⊢
          rotate_left 1
          cases ho
          have e6 : s 6 = _ := hs 6 (by decide) (by decide) (by kernel_rfl)
          simp only [e6] at hK ⊢
          rotate_left 1
          · exact absurd hwt (by decide)
          · exact absurd hwt (by decide)
          · exact absurd hwt (by decide)
          · exact absurd hwt (by decide)
          cases ho
          have e7 : s 7 = _ := hs 7 (by decide) (by decide) (by kernel_rfl)
          have e11 : s 11 = _ := hs 11 (by decide) (by decide) (by kernel_rfl)
          simp only [e7, e11] at hK ⊢
          rotate_left 1
          · exact absurd rfl hne
          cases ho
          have e12 : s 12 = _ := hs 12 (by decide) (by decide) (by kernel_rfl)
          simp only [e12] at hK ⊢
          rotate_left 1
          all_goals
            try cases ho
            simp only [Act.put, List.setIfInBounds_toArray, List.set_cons_zero, List.set_cons_succ] at hK
            clear hs hne hwt
            go_simp
            all_goals (try go_wp2_with (first | fail))
            all_goals first | with_reducible exact hK.out _ _ rfl (bl_refl _) | with_reducible exact hK.out _ _ rfl (by assumption) | exact hK.out _ _ (by assumption) (by assumption)
        case ht_wz0 =>
          intro s hs W0 W hb0 hb
          have e0 : s 0 = _ := hs 0 (by decide) (by decide)
          have e1 : s 1 = _ := hs 1 (by decide) (by decide)
          have e2 : s 2 = _ := hs 2 (by decide) (by decide)
          have e3 : s 3 = _ := hs 3 (by decide) (by decide)
          have e4 : s 4 = _ := hs 4 (by decide) (by decide)
          have e5 : s 5 = _ := hs 5 (by decide) (by decide)
          have e6 : s 6 = _ := hs 6 (by decide) (by decide)
          have e7 : s 7 = _ := hs 7 (by decide) (by decide)
          have e8 : s 8 = _ := hs 8 (by decide) (by decide)
          have e9 : s 9 = _ := hs 9 (by decide) (by decide)
          have e10 : s 10 = _ := hs 10 (by decide) (by decide)
          have e11 : s 11 = _ := hs 11 (by decide) (by decide)
          have e12 : s 12 = _ := hs 12 (by decide) (by decide)
          have e14 : s 14 = _ := hs 14 (by decide) (by decide)
          simp only [e0, e1, e2, e3, e4, e5, e6, e7, e8, e9, e10, e11, e12, e14]
          rw [e0] at hb
          clear hs e0 e1 e2 e3 e4 e5 e6 e7 e8 e9 e10 e11 e12 e14
          have RA := putN_at (R := w.heap.size + 1 + 1) (W := W0) (v := .agg #[.float .f64 hx1, .float .f64 hy1, .float .f64 nx1, .float .f64 ny1, .float .f64 ht1]) 5 (fun i hi => by rcases (show i = 0 ∨ i = 1 ∨ i = 2 ∨ i = 3 ∨ i = 4 by omega) with rfl | rfl | rfl | rfl | rfl <;> first | (rw [keep hb0 y0]; rfl) | (rw [keep hb0 y1]; rfl) | (rw [keep hb0 y2]; rfl) | (rw [keep hb0 y3]; rfl) | (rw [keep hb0 y4]; rfl))
          have R0 := keep hb (RA 0 (by decide)); have R1 := keep hb (RA 1 (by decide)); have R2 := keep hb (RA 2 (by decide)); have R3 := keep hb (RA 3 (by decide)); have R4 := keep hb (RA 4 (by decide))
          simp only [cellAt] at R0 R1 R2 R3 R4
          have BZ := bl_trans (putN_bel (bl_trans (bl_alloc B5 #[.float .f64 hx1, .float .f64 hy1, .float .f64 nx1, .float .f64 ny1, .float .f64 ht1] 28) hb0) (show w.heap.size ≤ w.heap.size + 1 + 1 by omega) 5) hb
          go_wp2
          refine bodyPost_ret (v := .tuple #[.agg #[.float .f64 hx1, .float .f64 hy1, .float .f64 nx1, .float .f64 ny1, .float .f64 ht1], .bool false]) (by simp [R0, R1, R2, R3, R4, results, Tryz.results47, go_sem] <;> (first | exact ⟨rfl, rfl⟩ | rfl)) rfl ⟨_, _, _, _, _, by rw [eR]; exact hH, by rw [eR]; simp only [etB, Bool.false_and, Bool.true_and, Bool.and_self, Bool.and_false, Bool.and_true], BZ⟩
      · cases qp : paB sH.2.2
        · go_wp2_with (first | (go_at_call 98; refine (best_n _ ci ck0 ck1 ck2 ck3 ck4).mono ?_; rintro e w5 ⟨rfl, hb⟩; replace z2_0 := keep hb z2_0; replace z2_1 := keep hb z2_1; replace z2_2 := keep hb z2_2; replace z2_3 := keep hb z2_3; replace z2_4 := keep hb z2_4; have fE : ∀ o, w5.frozen? ⟨w.heap.size + 1 + 1, o, none⟩ = false := fun o => (hb.2 _).trans (fE0 o); have lz := Nat.lt_of_lt_of_le lz0 hb.size; have B5 := bl_trans (bl_trans (bl_trans B0 BF) hBr) hb; clear hb))
          have e0 : (w5.alloc (.cells #[.float .f64 hx1, .float .f64 hy1, .float .f64 nx1, .float .f64 ny1, .float .f64 ht1] 28)).cell? ⟨w5.heap.size, 0, none⟩ = some (.float .f64 hx1) := by rw [World.cell?_alloc_new]; rfl
          have e1 : (w5.alloc (.cells #[.float .f64 hx1, .float .f64 hy1, .float .f64 nx1, .float .f64 ny1, .float .f64 ht1] 28)).cell? ⟨w5.heap.size, 1, none⟩ = some (.float .f64 hy1) := by rw [World.cell?_alloc_new]; rfl
          have e2 : (w5.alloc (.cells #[.float .f64 hx1, .float .f64 hy1, .float .f64 nx1, .float .f64 ny1, .float .f64 ht1] 28)).cell? ⟨w5.heap.size, 2, none⟩ = some (.float .f64 nx1) := by rw [World.cell?_alloc_new]; rfl
          have e3 : (w5.alloc (.cells #[.float .f64 hx1, .float .f64 hy1, .float .f64 nx1, .float .f64 ny1, .float .f64 ht1] 28)).cell? ⟨w5.heap.size, 3, none⟩ = some (.float .f64 ny1) := by rw [World.cell?_alloc_new]; rfl
          have e4 : (w5.alloc (.cells #[.float .f64 hx1, .float .f64 hy1, .float .f64 nx1, .float .f64 ny1, .float .f64 ht1] 28)).cell? ⟨w5.heap.size, 4, none⟩ = some (.float .f64 ht1) := by rw [World.cell?_alloc_new]; rfl
          have y0 := keep (bl_alloc (bl_refl w5) #[.float .f64 hx1, .float .f64 hy1, .float .f64 nx1, .float .f64 ny1, .float .f64 ht1] 28) z2_0
          have y1 := keep (bl_alloc (bl_refl w5) #[.float .f64 hx1, .float .f64 hy1, .float .f64 nx1, .float .f64 ny1, .float .f64 ht1] 28) z2_1
          have y2 := keep (bl_alloc (bl_refl w5) #[.float .f64 hx1, .float .f64 hy1, .float .f64 nx1, .float .f64 ny1, .float .f64 ht1] 28) z2_2
          have y3 := keep (bl_alloc (bl_refl w5) #[.float .f64 hx1, .float .f64 hy1, .float .f64 nx1, .float .f64 ny1, .float .f64 ht1] 28) z2_3
          have y4 := keep (bl_alloc (bl_refl w5) #[.float .f64 hx1, .float .f64 hy1, .float .f64 nx1, .float .f64 ny1, .float .f64 ht1] 28) z2_4
          have fW : ∀ o, (w5.alloc (.cells #[.float .f64 hx1, .float .f64 hy1, .float .f64 nx1, .float .f64 ny1, .float .f64 ht1] 28)).frozen? ⟨w.heap.size + 1 + 1, o, none⟩ = false := fun o => ((bl_alloc (bl_refl w5) #[.float .f64 hx1, .float .f64 hy1, .float .f64 nx1, .float .f64 ny1, .float .f64 ht1] 28).2 _).trans (fE o)
          refine wp_region_retG 15 13 0 rfl (fun i => !([8, 9, 10, 11] : List Nat).contains i) (fun j => ([2] : List Nat).contains j) [2, 7] (fun i v => match i with | 0 => v = .agg #[.float .f64 hx1, .float .f64 hy1, .float .f64 nx1, .float .f64 ny1, .float .f64 ht1] | 1 => v = .bool true | 2 => v = .bool true | 3 => v = .pointer (some ⟨w5.heap.size, 4, none⟩) | 4 => v = .float .f64 ht1 | 5 => v = .bool false | 6 => v = .bool false | 7 => v = .bool false | 8 => v = undef | 9 => v = undef | 10 => v = undef | 11 => v = undef | 12 => v = .bool false | 14 => v = .bool false | _ => False) (putN (w.heap.size + 1 + 1) 5) ?A_wz1 (by kernel_rfl) (by kernel_rfl) (by kernel_rfl) (by decide) (by decide) (by decide) (by decide) ?hcv_wz1 ?hnw_wz1 ?hA_wz1 ?hst_wz1 ?hq_wz1 ?ht_wz1
          case hcv_wz1 =>
            intro j hj v hv
            simp only [List.mem_cons, List.not_mem_nil, or_false] at hj
            rcases hj with rfl | rfl
            all_goals exact hv
          case hnw_wz1 =>
            intro i hi hwt
            rcases (show i = 0 ∨ i = 1 ∨ i = 2 ∨ i = 3 ∨ i = 4 ∨ i = 5 ∨ i = 6 ∨ i = 7 ∨ i = 8 ∨ i = 9 ∨ i = 10 ∨ i = 11 ∨ i = 12 ∨ i = 13 ∨ i = 14 by omega) with rfl | rfl | rfl | rfl | rfl | rfl | rfl | rfl | rfl | rfl | rfl | rfl | rfl | rfl | rfl
            all_goals first | exact rfl | exact absurd hwt (by decide)
          case hA_wz1 =>
            intro s
            simp only [putL, dstO, Act.put, List.getElem?_toArray, List.getElem?_cons_zero, List.getElem?_cons_succ, Option.bind_some, List.setIfInBounds_toArray, List.set_cons_zero, List.set_cons_succ, if_true]
            all_goals exact rfl
          case hst_wz1 =>
            intro o ho s hs W hb K hK
            cases ho
            have u0 := keep hb y0; have u1 := keep hb y1; have u2 := keep hb y2; have u3 := keep hb y3; have u4 := keep hb y4; have u9 := fun o => (hb.2 ⟨w.heap.size + 1 + 1, o, none⟩).trans (fW o)
            have e0 : s 0 = _ := hs 0 (by decide) (by kernel_rfl)
            simp only [e0] at hK ⊢
            clear hs
            go_simp
            exact hK.out
          case hq_wz1 =>
            intro i o hi hne hwt ho s hs W hb K hK
            have ue0 := once_keepN hb e0 (by simp only; omega); have ue1 := once_keepN hb e1 (by simp only; omega); have ue2 := once_keepN hb e2 (by simp only; omega); have ue3 := once_keepN hb e3 (by simp only; omega); have ue4 := once_keepN hb e4 (by simp only; omega); have c3 := cmp_le .f64
            rcases (show i = 0 ∨ i = 1 ∨ i = 2 ∨ i = 3 ∨ i = 4 ∨ i = 5 ∨ i = 6 ∨ i = 7 ∨ i = 8 ∨ i = 9 ∨ i = 10 ∨ i = 11 ∨ i = 12 ∨ i = 13 ∨ i = 14 by omega) with rfl | rfl | rfl | rfl | rfl | rfl | rfl | rfl | rfl | rfl | rfl | rfl | rfl | rfl | rfl
            rotate_left 2
            cases ho
            have e1 : s 1 = _ := hs 1 (by decide) (by decide) (by kernel_rfl)
            simp only [e1] at hK ⊢
            rotate_left 2
            cases ho
            have e3 : s 3 = _ := hs 3 (by decide) (by decide) (by kernel_rfl)
            simp only [e3] at hK ⊢
            rotate_left 1
            cases ho
            have e4 : s 4 = _ := hs 4 (by decide) (by decide) (by kernel_rfl)
            simp only [e4] at hK ⊢
            rotate_left 1
            cases ho
            have e2 : s 2 = _ := hs 2 (by decide) (by decide) (by kernel_rfl)
            have e5 : s 5 = _ := hs 5 (by decide) (by decide) (by kernel_rfl)
            simp only [e2, e5] at hK ⊢
            rotate_left 1
            cases ho
            have e6 : s 6 = _ := hs 6 (by decide) (by decide) (by kernel_rfl)
            simp only [e6] at hK ⊢
            rotate_left 1
            · exact absurd hwt (by decide)
            · exact absurd hwt (by decide)
            · exact absurd hwt (by decide)
            · exact absurd hwt (by decide)
            cases ho
            have e7 : s 7 = _ := hs 7 (by decide) (by decide) (by kernel_rfl)
            have e11 : s 11 = _ := hs 11 (by decide) (by decide) (by kernel_rfl)
            simp only [e7, e11] at hK ⊢
            rotate_left 1
            · exact absurd rfl hne
            cases ho
            have e12 : s 12 = _ := hs 12 (by decide) (by decide) (by kernel_rfl)
            simp only [e12] at hK ⊢
            rotate_left 1
            all_goals
              try cases ho
              simp only [Act.put, List.setIfInBounds_toArray, List.set_cons_zero, List.set_cons_succ] at hK
              clear hs hne hwt
              go_simp
              all_goals (try go_wp2_with (first | (go_at_call 25; refine (isPart_q _ hT qp).mono ?_; rintro e w9 ⟨rfl, hW9⟩; rw [hW9])))
              all_goals first | with_reducible exact hK.out _ _ rfl (bl_refl _) | with_reducible exact hK.out _ _ rfl (by assumption) | exact hK.out _ _ (by assumption) (by assumption)
          case ht_wz1 =>
            intro s hs W0 W hb0 hb
            have e0 : s 0 = _ := hs 0 (by decide) (by decide)
            have e1 : s 1 = _ := hs 1 (by decide) (by decide)
            have e2 : s 2 = _ := hs 2 (by decide) (by decide)
            have e3 : s 3 = _ := hs 3 (by decide) (by decide)
            have e4 : s 4 = _ := hs 4 (by decide) (by decide)
            have e5 : s 5 = _ := hs 5 (by decide) (by decide)
            have e6 : s 6 = _ := hs 6 (by decide) (by decide)
            have e7 : s 7 = _ := hs 7 (by decide) (by decide)
            have e8 : s 8 = _ := hs 8 (by decide) (by decide)
            have e9 : s 9 = _ := hs 9 (by decide) (by decide)
            have e10 : s 10 = _ := hs 10 (by decide) (by decide)
            have e11 : s 11 = _ := hs 11 (by decide) (by decide)
            have e12 : s 12 = _ := hs 12 (by decide) (by decide)
            have e14 : s 14 = _ := hs 14 (by decide) (by decide)
            simp only [e0, e1, e2, e3, e4, e5, e6, e7, e8, e9, e10, e11, e12, e14]
            rw [e0] at hb
            clear hs e0 e1 e2 e3 e4 e5 e6 e7 e8 e9 e10 e11 e12 e14
            have RA := putN_at (R := w.heap.size + 1 + 1) (W := W0) (v := .agg #[.float .f64 hx1, .float .f64 hy1, .float .f64 nx1, .float .f64 ny1, .float .f64 ht1]) 5 (fun i hi => by rcases (show i = 0 ∨ i = 1 ∨ i = 2 ∨ i = 3 ∨ i = 4 by omega) with rfl | rfl | rfl | rfl | rfl <;> first | (rw [keep hb0 y0]; rfl) | (rw [keep hb0 y1]; rfl) | (rw [keep hb0 y2]; rfl) | (rw [keep hb0 y3]; rfl) | (rw [keep hb0 y4]; rfl))
            have R0 := keep hb (RA 0 (by decide)); have R1 := keep hb (RA 1 (by decide)); have R2 := keep hb (RA 2 (by decide)); have R3 := keep hb (RA 3 (by decide)); have R4 := keep hb (RA 4 (by decide))
            simp only [cellAt] at R0 R1 R2 R3 R4
            have BZ := bl_trans (putN_bel (bl_trans (bl_alloc B5 #[.float .f64 hx1, .float .f64 hy1, .float .f64 nx1, .float .f64 ny1, .float .f64 ht1] 28) hb0) (show w.heap.size ≤ w.heap.size + 1 + 1 by omega) 5) hb
            go_wp2
            refine bodyPost_ret (v := .tuple #[.agg #[.float .f64 hx1, .float .f64 hy1, .float .f64 nx1, .float .f64 ny1, .float .f64 ht1], .bool false]) (by simp [R0, R1, R2, R3, R4, results, Tryz.results47, go_sem] <;> (first | exact ⟨rfl, rfl⟩ | rfl)) rfl ⟨_, _, _, _, _, by rw [eR]; exact hH, by rw [eR]; simp only [etB, qp, Bool.false_and, Bool.true_and, Bool.and_self, Bool.and_false, Bool.and_true], BZ⟩
        · cases ql : leK .f64 sH.2.2 sL
          · have ql2 := (le_is hT hL).trans ql
            go_wp2_with (first | (go_at_call 98; refine (best_n _ ci ck0 ck1 ck2 ck3 ck4).mono ?_; rintro e w5 ⟨rfl, hb⟩; replace z2_0 := keep hb z2_0; replace z2_1 := keep hb z2_1; replace z2_2 := keep hb z2_2; replace z2_3 := keep hb z2_3; replace z2_4 := keep hb z2_4; have fE : ∀ o, w5.frozen? ⟨w.heap.size + 1 + 1, o, none⟩ = false := fun o => (hb.2 _).trans (fE0 o); have lz := Nat.lt_of_lt_of_le lz0 hb.size; have B5 := bl_trans (bl_trans (bl_trans B0 BF) hBr) hb; clear hb))
            have e0 : (w5.alloc (.cells #[.float .f64 hx1, .float .f64 hy1, .float .f64 nx1, .float .f64 ny1, .float .f64 ht1] 28)).cell? ⟨w5.heap.size, 0, none⟩ = some (.float .f64 hx1) := by rw [World.cell?_alloc_new]; rfl
            have e1 : (w5.alloc (.cells #[.float .f64 hx1, .float .f64 hy1, .float .f64 nx1, .float .f64 ny1, .float .f64 ht1] 28)).cell? ⟨w5.heap.size, 1, none⟩ = some (.float .f64 hy1) := by rw [World.cell?_alloc_new]; rfl
            have e2 : (w5.alloc (.cells #[.float .f64 hx1, .float .f64 hy1, .float .f64 nx1, .float .f64 ny1, .float .f64 ht1] 28)).cell? ⟨w5.heap.size, 2, none⟩ = some (.float .f64 nx1) := by rw [World.cell?_alloc_new]; rfl
            have e3 : (w5.alloc (.cells #[.float .f64 hx1, .float .f64 hy1, .float .f64 nx1, .float .f64 ny1, .float .f64 ht1] 28)).cell? ⟨w5.heap.size, 3, none⟩ = some (.float .f64 ny1) := by rw [World.cell?_alloc_new]; rfl
            have e4 : (w5.alloc (.cells #[.float .f64 hx1, .float .f64 hy1, .float .f64 nx1, .float .f64 ny1, .float .f64 ht1] 28)).cell? ⟨w5.heap.size, 4, none⟩ = some (.float .f64 ht1) := by rw [World.cell?_alloc_new]; rfl
            have y0 := keep (bl_alloc (bl_refl w5) #[.float .f64 hx1, .float .f64 hy1, .float .f64 nx1, .float .f64 ny1, .float .f64 ht1] 28) z2_0
            have y1 := keep (bl_alloc (bl_refl w5) #[.float .f64 hx1, .float .f64 hy1, .float .f64 nx1, .float .f64 ny1, .float .f64 ht1] 28) z2_1
            have y2 := keep (bl_alloc (bl_refl w5) #[.float .f64 hx1, .float .f64 hy1, .float .f64 nx1, .float .f64 ny1, .float .f64 ht1] 28) z2_2
            have y3 := keep (bl_alloc (bl_refl w5) #[.float .f64 hx1, .float .f64 hy1, .float .f64 nx1, .float .f64 ny1, .float .f64 ht1] 28) z2_3
            have y4 := keep (bl_alloc (bl_refl w5) #[.float .f64 hx1, .float .f64 hy1, .float .f64 nx1, .float .f64 ny1, .float .f64 ht1] 28) z2_4
            have fW : ∀ o, (w5.alloc (.cells #[.float .f64 hx1, .float .f64 hy1, .float .f64 nx1, .float .f64 ny1, .float .f64 ht1] 28)).frozen? ⟨w.heap.size + 1 + 1, o, none⟩ = false := fun o => ((bl_alloc (bl_refl w5) #[.float .f64 hx1, .float .f64 hy1, .float .f64 nx1, .float .f64 ny1, .float .f64 ht1] 28).2 _).trans (fE o)
            refine wp_region_retG 15 13 0 rfl (fun i => !([] : List Nat).contains i) (fun j => ([2, 7] : List Nat).contains j) [2, 7] (fun i v => match i with | 0 => v = .agg #[.float .f64 hx1, .float .f64 hy1, .float .f64 nx1, .float .f64 ny1, .float .f64 ht1] | 1 => v = .bool true | 2 => v = .bool true | 3 => v = .pointer (some ⟨w5.heap.size, 4, none⟩) | 4 => v = .float .f64 ht1 | 5 => v = .bool true | 6 => v = .bool true | 7 => v = .bool true | 8 => v = .pointer (some ⟨w5.heap.size, 4, none⟩) | 9 => v = .float .f64 ht1 | 10 => v = .float .f64 lw | 11 => v = .bool false | 12 => v = .bool false | 14 => v = .bool false | _ => False) (putN (w.heap.size + 1 + 1) 5) ?A_wz2 (by kernel_rfl) (by kernel_rfl) (by kernel_rfl) (by decide) (by decide) (by decide) (by decide) ?hcv_wz2 ?hnw_wz2 ?hA_wz2 ?hst_wz2 ?hq_wz2 ?ht_wz2
            case hcv_wz2 =>
              intro j hj v hv
              simp only [List.mem_cons, List.not_mem_nil, or_false] at hj
              rcases hj with rfl | rfl
              all_goals exact hv
            case hnw_wz2 =>
              intro i hi hwt
              rcases (show i = 0 ∨ i = 1 ∨ i = 2 ∨ i = 3 ∨ i = 4 ∨ i = 5 ∨ i = 6 ∨ i = 7 ∨ i = 8 ∨ i = 9 ∨ i = 10 ∨ i = 11 ∨ i = 12 ∨ i = 13 ∨ i = 14 by omega) with rfl | rfl | rfl | rfl | rfl | rfl | rfl | rfl | rfl | rfl | rfl | rfl | rfl | rfl | rfl
              all_goals first | exact rfl | exact absurd hwt (by decide)
            case hA_wz2 =>
              intro s
              simp only [putL, dstO, Act.put, List.getElem?_toArray, List.getElem?_cons_zero, List.getElem?_cons_succ, Option.bind_some, List.setIfInBounds_toArray, List.set_cons_zero, List.set_cons_succ, if_true]
              all_goals exact rfl
            case hst_wz2 =>
              intro o ho s hs W hb K hK
              cases ho
              have u0 := keep hb y0; have u1 := keep hb y1; have u2 := keep hb y2; have u3 := keep hb y3; have u4 := keep hb y4; have u9 := fun o => (hb.2 ⟨w.heap.size + 1 + 1, o, none⟩).trans (fW o)
              have e0 : s 0 = _ := hs 0 (by decide) (by kernel_rfl)
              simp only [e0] at hK ⊢
              clear hs
              go_simp
              exact hK.out
            case hq_wz2 =>
              intro i o hi hne hwt ho s hs W hb K hK
              have ue0 := once_keepN hb e0 (by simp only; omega); have ue1 := once_keepN hb e1 (by simp only; omega); have ue2 := once_keepN hb e2 (by simp only; omega); have ue3 := once_keepN hb e3 (by simp only; omega); have ue4 := once_keepN hb e4 (by simp only; omega); have c3 := cmp_le .f64
              rcases (show i = 0 ∨ i = 1 ∨ i = 2 ∨ i = 3 ∨ i = 4 ∨ i = 5 ∨ i = 6 ∨ i = 7 ∨ i = 8 ∨ i = 9 ∨ i = 10 ∨ i = 11 ∨ i = 12 ∨ i = 13 ∨ i = 14 by omega) with rfl | rfl | rfl | rfl | rfl | rfl | rfl | rfl | rfl | rfl | rfl | rfl | rfl | rfl | rfl
              rotate_left 2
              cases ho
              have e1 : s 1 = _ := hs 1 (by decide) (by decide) (by kernel_rfl)
              simp only [e1] at hK ⊢
              rotate_left 2
              cases ho
              have e3 : s 3 = _ := hs 3 (by decide) (by decide) (by kernel_rfl)
              simp only [e3] at hK ⊢
              rotate_left 1
              cases ho
              have e4 : s 4 = _ := hs 4 (by decide) (by decide) (by kernel_rfl)
              simp only [e4] at hK ⊢
              rotate_left 1
              cases ho
              have e2 : s 2 = _ := hs 2 (by decide) (by decide) (by kernel_rfl)
              have e5 : s 5 = _ := hs 5 (by decide) (by decide) (by kernel_rfl)
              simp only [e2, e5] at hK ⊢
              rotate_left 1
              cases ho
              have e6 : s 6 = _ := hs 6 (by decide) (by decide) (by kernel_rfl)
              simp only [e6] at hK ⊢
              rotate_left 2
              cases ho
              have e8 : s 8 = _ := hs 8 (by decide) (by decide) (by kernel_rfl)
              simp only [e8] at hK ⊢
              rotate_left 2
              cases ho
              have e9 : s 9 = _ := hs 9 (by decide) (by decide) (by kernel_rfl)
              have e10 : s 10 = _ := hs 10 (by decide) (by decide) (by kernel_rfl)
              simp only [e9, e10] at hK ⊢
              rotate_left 1
              cases ho
              have e7 : s 7 = _ := hs 7 (by decide) (by decide) (by kernel_rfl)
              have e11 : s 11 = _ := hs 11 (by decide) (by decide) (by kernel_rfl)
              simp only [e7, e11] at hK ⊢
              rotate_left 1
              · exact absurd rfl hne
              cases ho
              have e12 : s 12 = _ := hs 12 (by decide) (by decide) (by kernel_rfl)
              simp only [e12] at hK ⊢
              rotate_left 1
              all_goals
                try cases ho
                simp only [Act.put, List.setIfInBounds_toArray, List.set_cons_zero, List.set_cons_succ] at hK
                clear hs hne hwt
                go_simp
                all_goals (try go_wp2_with (first | (go_at_call 25; refine (isPart_q _ hT qp).mono ?_; rintro e w9 ⟨rfl, hW9⟩; rw [hW9])))
                all_goals first | with_reducible exact hK.out _ _ (congrArg Value.bool ql2) (bl_refl _) | with_reducible exact hK.out _ _ rfl (bl_refl _) | with_reducible exact hK.out _ _ rfl (by assumption) | exact hK.out _ _ (by assumption) (by assumption)
            case ht_wz2 =>
              intro s hs W0 W hb0 hb
              have e0 : s 0 = _ := hs 0 (by decide) (by decide)
              have e1 : s 1 = _ := hs 1 (by decide) (by decide)
              have e2 : s 2 = _ := hs 2 (by decide) (by decide)
              have e3 : s 3 = _ := hs 3 (by decide) (by decide)
              have e4 : s 4 = _ := hs 4 (by decide) (by decide)
              have e5 : s 5 = _ := hs 5 (by decide) (by decide)
              have e6 : s 6 = _ := hs 6 (by decide) (by decide)
              have e7 : s 7 = _ := hs 7 (by decide) (by decide)
              have e8 : s 8 = _ := hs 8 (by decide) (by decide)
              have e9 : s 9 = _ := hs 9 (by decide) (by decide)
              have e10 : s 10 = _ := hs 10 (by decide) (by decide)
              have e11 : s 11 = _ := hs 11 (by decide) (by decide)
              have e12 : s 12 = _ := hs 12 (by decide) (by decide)
              have e14 : s 14 = _ := hs 14 (by decide) (by decide)
              simp only [e0, e1, e2, e3, e4, e5, e6, e7, e8, e9, e10, e11, e12, e14]
              rw [e0] at hb
              clear hs e0 e1 e2 e3 e4 e5 e6 e7 e8 e9 e10 e11 e12 e14
              have RA := putN_at (R := w.heap.size + 1 + 1) (W := W0) (v := .agg #[.float .f64 hx1, .float .f64 hy1, .float .f64 nx1, .float .f64 ny1, .float .f64 ht1]) 5 (fun i hi => by rcases (show i = 0 ∨ i = 1 ∨ i = 2 ∨ i = 3 ∨ i = 4 by omega) with rfl | rfl | rfl | rfl | rfl <;> first | (rw [keep hb0 y0]; rfl) | (rw [keep hb0 y1]; rfl) | (rw [keep hb0 y2]; rfl) | (rw [keep hb0 y3]; rfl) | (rw [keep hb0 y4]; rfl))
              have R0 := keep hb (RA 0 (by decide)); have R1 := keep hb (RA 1 (by decide)); have R2 := keep hb (RA 2 (by decide)); have R3 := keep hb (RA 3 (by decide)); have R4 := keep hb (RA 4 (by decide))
              simp only [cellAt] at R0 R1 R2 R3 R4
              have BZ := bl_trans (putN_bel (bl_trans (bl_alloc B5 #[.float .f64 hx1, .float .f64 hy1, .float .f64 nx1, .float .f64 ny1, .float .f64 ht1] 28) hb0) (show w.heap.size ≤ w.heap.size + 1 + 1 by omega) 5) hb
              go_wp2
              refine bodyPost_ret (v := .tuple #[.agg #[.float .f64 hx1, .float .f64 hy1, .float .f64 nx1, .float .f64 ny1, .float .f64 ht1], .bool false]) (by simp [R0, R1, R2, R3, R4, results, Tryz.results47, go_sem] <;> (first | exact ⟨rfl, rfl⟩ | rfl)) rfl ⟨_, _, _, _, _, by rw [eR]; exact hH, by rw [eR]; simp only [etB, qp, ql, Bool.false_and, Bool.true_and, Bool.and_self, Bool.and_false, Bool.and_true], BZ⟩
          · have ql2 := (le_is hT hL).trans ql
            go_wp2_with (first | (go_at_call 98; refine (best_n _ ci ck0 ck1 ck2 ck3 ck4).mono ?_; rintro e w5 ⟨rfl, hb⟩; replace z2_0 := keep hb z2_0; replace z2_1 := keep hb z2_1; replace z2_2 := keep hb z2_2; replace z2_3 := keep hb z2_3; replace z2_4 := keep hb z2_4; have fE : ∀ o, w5.frozen? ⟨w.heap.size + 1 + 1, o, none⟩ = false := fun o => (hb.2 _).trans (fE0 o); have lz := Nat.lt_of_lt_of_le lz0 hb.size; have B5 := bl_trans (bl_trans (bl_trans B0 BF) hBr) hb; clear hb))
            have e0 : (w5.alloc (.cells #[.float .f64 hx1, .float .f64 hy1, .float .f64 nx1, .float .f64 ny1, .float .f64 ht1] 28)).cell? ⟨w5.heap.size, 0, none⟩ = some (.float .f64 hx1) := by rw [World.cell?_alloc_new]; rfl
            have e1 : (w5.alloc (.cells #[.float .f64 hx1, .float .f64 hy1, .float .f64 nx1, .float .f64 ny1, .float .f64 ht1] 28)).cell? ⟨w5.heap.size, 1, none⟩ = some (.float .f64 hy1) := by rw [World.cell?_alloc_new]; rfl
            have e2 : (w5.alloc (.cells #[.float .f64 hx1, .float .f64 hy1, .float .f64 nx1, .float .f64 ny1, .float .f64 ht1] 28)).cell? ⟨w5.heap.size, 2, none⟩ = some (.float .f64 nx1) := by rw [World.cell?_alloc_new]; rfl
            have e3 : (w5.alloc (.cells #[.float .f64 hx1, .float .f64 hy1, .float .f64 nx1, .float .f64 ny1, .float .f64 ht1] 28)).cell? ⟨w5.heap.size, 3, none⟩ = some (.float .f64 ny1) := by rw [World.cell?_alloc_new]; rfl
            have e4 : (w5.alloc (.cells #[.float .f64 hx1, .float .f64 hy1, .float .f64 nx1, .float .f64 ny1, .float .f64 ht1] 28)).cell? ⟨w5.heap.size, 4, none⟩ = some (.float .f64 ht1) := by rw [World.cell?_alloc_new]; rfl
            have y0 := keep (bl_alloc (bl_refl w5) #[.float .f64 hx1, .float .f64 hy1, .float .f64 nx1, .float .f64 ny1, .float .f64 ht1] 28) z2_0
            have y1 := keep (bl_alloc (bl_refl w5) #[.float .f64 hx1, .float .f64 hy1, .float .f64 nx1, .float .f64 ny1, .float .f64 ht1] 28) z2_1
            have y2 := keep (bl_alloc (bl_refl w5) #[.float .f64 hx1, .float .f64 hy1, .float .f64 nx1, .float .f64 ny1, .float .f64 ht1] 28) z2_2
            have y3 := keep (bl_alloc (bl_refl w5) #[.float .f64 hx1, .float .f64 hy1, .float .f64 nx1, .float .f64 ny1, .float .f64 ht1] 28) z2_3
            have y4 := keep (bl_alloc (bl_refl w5) #[.float .f64 hx1, .float .f64 hy1, .float .f64 nx1, .float .f64 ny1, .float .f64 ht1] 28) z2_4
            have fW : ∀ o, (w5.alloc (.cells #[.float .f64 hx1, .float .f64 hy1, .float .f64 nx1, .float .f64 ny1, .float .f64 ht1] 28)).frozen? ⟨w.heap.size + 1 + 1, o, none⟩ = false := fun o => ((bl_alloc (bl_refl w5) #[.float .f64 hx1, .float .f64 hy1, .float .f64 nx1, .float .f64 ny1, .float .f64 ht1] 28).2 _).trans (fE o)
            refine wp_region_retG 15 13 0 rfl (fun i => !([] : List Nat).contains i) (fun j => ([2, 7] : List Nat).contains j) [2, 7] (fun i v => match i with | 0 => v = .agg #[.float .f64 hx1, .float .f64 hy1, .float .f64 nx1, .float .f64 ny1, .float .f64 ht1] | 1 => v = .bool true | 2 => v = .bool true | 3 => v = .pointer (some ⟨w5.heap.size, 4, none⟩) | 4 => v = .float .f64 ht1 | 5 => v = .bool true | 6 => v = .bool true | 7 => v = .bool true | 8 => v = .pointer (some ⟨w5.heap.size, 4, none⟩) | 9 => v = .float .f64 ht1 | 10 => v = .float .f64 lw | 11 => v = .bool true | 12 => v = .bool true | 14 => v = .bool true | _ => False) (putN (w.heap.size + 1 + 1) 5) ?A_wz3 (by kernel_rfl) (by kernel_rfl) (by kernel_rfl) (by decide) (by decide) (by decide) (by decide) ?hcv_wz3 ?hnw_wz3 ?hA_wz3 ?hst_wz3 ?hq_wz3 ?ht_wz3
            case hcv_wz3 =>
              intro j hj v hv
              simp only [List.mem_cons, List.not_mem_nil, or_false] at hj
              rcases hj with rfl | rfl
              all_goals exact hv
            case hnw_wz3 =>
              intro i hi hwt
              rcases (show i = 0 ∨ i = 1 ∨ i = 2 ∨ i = 3 ∨ i = 4 ∨ i = 5 ∨ i = 6 ∨ i = 7 ∨ i = 8 ∨ i = 9 ∨ i = 10 ∨ i = 11 ∨ i = 12 ∨ i = 13 ∨ i = 14 by omega) with rfl | rfl | rfl | rfl | rfl | rfl | rfl | rfl | rfl | rfl | rfl | rfl | rfl | rfl | rfl
              all_goals first | exact rfl | exact absurd hwt (by decide)
            case hA_wz3 =>
              intro s
              simp only [putL, dstO, Act.put, List.getElem?_toArray, List.getElem?_cons_zero, List.getElem?_cons_succ, Option.bind_some, List.setIfInBounds_toArray, List.set_cons_zero, List.set_cons_succ, if_true]
              all_goals exact rfl
            case hst_wz3 =>
              intro o ho s hs W hb K hK
              cases ho
              have u0 := keep hb y0; have u1 := keep hb y1; have u2 := keep hb y2; have u3 := keep hb y3; have u4 := keep hb y4; have u9 := fun o => (hb.2 ⟨w.heap.size + 1 + 1, o, none⟩).trans (fW o)
              have e0 : s 0 = _ := hs 0 (by decide) (by kernel_rfl)
              simp only [e0] at hK ⊢
              clear hs
              go_simp
              exact hK.out
            case hq_wz3 =>
              intro i o hi hne hwt ho s hs W hb K hK
              have ue0 := once_keepN hb e0 (by simp only; omega); have ue1 := once_keepN hb e1 (by simp only; omega); have ue2 := once_keepN hb e2 (by simp only; omega); have ue3 := once_keepN hb e3 (by simp only; omega); have ue4 := once_keepN hb e4 (by simp only; omega); have c3 := cmp_le .f64
              rcases (show i = 0 ∨ i = 1 ∨ i = 2 ∨ i = 3 ∨ i = 4 ∨ i = 5 ∨ i = 6 ∨ i = 7 ∨ i = 8 ∨ i = 9 ∨ i = 10 ∨ i = 11 ∨ i = 12 ∨ i = 13 ∨ i = 14 by omega) with rfl | rfl | rfl | rfl | rfl | rfl | rfl | rfl | rfl | rfl | rfl | rfl | rfl | rfl | rfl
              rotate_left 2
              cases ho
              have e1 : s 1 = _ := hs 1 (by decide) (by decide) (by kernel_rfl)
              simp only [e1] at hK ⊢
              rotate_left 2
              cases ho
              have e3 : s 3 = _ := hs 3 (by decide) (by decide) (by kernel_rfl)
              simp only [e3] at hK ⊢
              rotate_left 1
              cases ho
              have e4 : s 4 = _ := hs 4 (by decide) (by decide) (by kernel_rfl)
              simp only [e4] at hK ⊢
              rotate_left 1
              cases ho
              have e2 : s 2 = _ := hs 2 (by decide) (by decide) (by kernel_rfl)
              have e5 : s 5 = _ := hs 5 (by decide) (by decide) (by kernel_rfl)
              simp only [e2, e5] at hK ⊢
              rotate_left 1
              cases ho
              have e6 : s 6 = _ := hs 6 (by decide) (by decide) (by kernel_rfl)
              simp only [e6] at hK ⊢
              rotate_left 2
              cases ho
              have e8 : s 8 = _ := hs 8 (by decide) (by decide) (by kernel_rfl)
              simp only [e8] at hK ⊢
              rotate_left 2
              cases ho
              have e9 : s 9 = _ := hs 9 (by decide) (by decide) (by kernel_rfl)
              have e10 : s 10 = _ := hs 10 (by decide) (by decide) (by kernel_rfl)
              simp only [e9, e10] at hK ⊢
              rotate_left 1
              cases ho
              have e7 : s 7 = _ := hs 7 (by decide) (by decide) (by kernel_rfl)
              have e11 : s 11 = _ := hs 11 (by decide) (by decide) (by kernel_rfl)
              simp only [e7, e11] at hK ⊢
              rotate_left 1
              · exact absurd rfl hne
              cases ho
              have e12 : s 12 = _ := hs 12 (by decide) (by decide) (by kernel_rfl)
              simp only [e12] at hK ⊢
              rotate_left 1
              all_goals
                try cases ho
                simp only [Act.put, List.setIfInBounds_toArray, List.set_cons_zero, List.set_cons_succ] at hK
                clear hs hne hwt
                go_simp
                all_goals (try go_wp2_with (first | (go_at_call 25; refine (isPart_q _ hT qp).mono ?_; rintro e w9 ⟨rfl, hW9⟩; rw [hW9])))
                all_goals first | with_reducible exact hK.out _ _ (congrArg Value.bool ql2) (bl_refl _) | with_reducible exact hK.out _ _ rfl (bl_refl _) | with_reducible exact hK.out _ _ rfl (by assumption) | exact hK.out _ _ (by assumption) (by assumption)
            case ht_wz3 =>
              intro s hs W0 W hb0 hb
              have e0 : s 0 = _ := hs 0 (by decide) (by decide)
              have e1 : s 1 = _ := hs 1 (by decide) (by decide)
              have e2 : s 2 = _ := hs 2 (by decide) (by decide)
              have e3 : s 3 = _ := hs 3 (by decide) (by decide)
              have e4 : s 4 = _ := hs 4 (by decide) (by decide)
              have e5 : s 5 = _ := hs 5 (by decide) (by decide)
              have e6 : s 6 = _ := hs 6 (by decide) (by decide)
              have e7 : s 7 = _ := hs 7 (by decide) (by decide)
              have e8 : s 8 = _ := hs 8 (by decide) (by decide)
              have e9 : s 9 = _ := hs 9 (by decide) (by decide)
              have e10 : s 10 = _ := hs 10 (by decide) (by decide)
              have e11 : s 11 = _ := hs 11 (by decide) (by decide)
              have e12 : s 12 = _ := hs 12 (by decide) (by decide)
              have e14 : s 14 = _ := hs 14 (by decide) (by decide)
              simp only [e0, e1, e2, e3, e4, e5, e6, e7, e8, e9, e10, e11, e12, e14]
              rw [e0] at hb
              clear hs e0 e1 e2 e3 e4 e5 e6 e7 e8 e9 e10 e11 e12 e14
              have RA := putN_at (R := w.heap.size + 1 + 1) (W := W0) (v := .agg #[.float .f64 hx1, .float .f64 hy1, .float .f64 nx1, .float .f64 ny1, .float .f64 ht1]) 5 (fun i hi => by rcases (show i = 0 ∨ i = 1 ∨ i = 2 ∨ i = 3 ∨ i = 4 by omega) with rfl | rfl | rfl | rfl | rfl <;> first | (rw [keep hb0 y0]; rfl) | (rw [keep hb0 y1]; rfl) | (rw [keep hb0 y2]; rfl) | (rw [keep hb0 y3]; rfl) | (rw [keep hb0 y4]; rfl))
              have R0 := keep hb (RA 0 (by decide)); have R1 := keep hb (RA 1 (by decide)); have R2 := keep hb (RA 2 (by decide)); have R3 := keep hb (RA 3 (by decide)); have R4 := keep hb (RA 4 (by decide))
              simp only [cellAt] at R0 R1 R2 R3 R4
              have BZ := bl_trans (putN_bel (bl_trans (bl_alloc B5 #[.float .f64 hx1, .float .f64 hy1, .float .f64 nx1, .float .f64 ny1, .float .f64 ht1] 28) hb0) (show w.heap.size ≤ w.heap.size + 1 + 1 by omega) 5) hb
              go_wp2
              refine bodyPost_ret (v := .tuple #[.agg #[.float .f64 hx1, .float .f64 hy1, .float .f64 nx1, .float .f64 ny1, .float .f64 ht1], .bool true]) (by simp [R0, R1, R2, R3, R4, results, Tryz.results47, go_sem] <;> (first | exact ⟨rfl, rfl⟩ | rfl)) rfl ⟨_, _, _, _, _, by rw [eR]; exact hH, by rw [eR]; simp only [etB, qp, ql, Bool.false_and, Bool.true_and, Bool.and_self, Bool.and_false, Bool.and_true], BZ⟩

end Go.Proofs.YtdeooadeohojcaaGreat
