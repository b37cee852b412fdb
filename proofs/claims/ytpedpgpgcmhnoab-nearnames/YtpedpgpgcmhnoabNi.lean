/-
  What each function of package poly answers, and what the reference of its chapter answers: one contract a function, for every float: the answer stands in the relation of its formula to what was given; of the memory that was there nothing has turned.
-/
import Derived.Test.YtpedpgpgcmhnoabVec
import Derived.Test.YtpedpgpgcmhnoabNh
import Derived.Below
import Derived.WalkKit
import Derived.WalkLawsBesides
import Derived.WalkSpells
import Derived.ProofKit
import Derived.OpenShut
import Derived.Deep.RegionHeld3
namespace Go.Proofs.Ytpedpgpgcmhnoab
open Go.ChangeShapes Go.WideShapes Go.ChangeAt Go.RowKit
set_option linter.unusedVariables false
set_option linter.unusedSimpArgs false


theorem lay3_at (W : World) (a b c d e p q : Value) (t t1 t2 : TypeId) : (((W.alloc (.cells #[a, b, c, d, e] t)).alloc (.cells #[p] t1)).alloc (.cells #[q] t2)).cell? ⟨W.heap.size, 0, none⟩ = some a ∧ (((W.alloc (.cells #[a, b, c, d, e] t)).alloc (.cells #[p] t1)).alloc (.cells #[q] t2)).cell? ⟨W.heap.size, 1, none⟩ = some b ∧ (((W.alloc (.cells #[a, b, c, d, e] t)).alloc (.cells #[p] t1)).alloc (.cells #[q] t2)).cell? ⟨W.heap.size, 2, none⟩ = some c ∧ (((W.alloc (.cells #[a, b, c, d, e] t)).alloc (.cells #[p] t1)).alloc (.cells #[q] t2)).cell? ⟨W.heap.size, 3, none⟩ = some d ∧ (((W.alloc (.cells #[a, b, c, d, e] t)).alloc (.cells #[p] t1)).alloc (.cells #[q] t2)).cell? ⟨W.heap.size, 4, none⟩ = some e ∧ (((W.alloc (.cells #[a, b, c, d, e] t)).alloc (.cells #[p] t1)).alloc (.cells #[q] t2)).cell? ⟨W.heap.size + 1 + 1, 0, none⟩ = some q ∧ (((W.alloc (.cells #[a, b, c, d, e] t)).alloc (.cells #[p] t1)).alloc (.cells #[q] t2)).cell? ⟨W.heap.size + 1, 0, none⟩ = some p := by
  have e1 : (W.alloc (.cells #[a, b, c, d, e] t)).heap.size = W.heap.size + 1 := World.size_alloc _ _
  have e2 : ((W.alloc (.cells #[a, b, c, d, e] t)).alloc (.cells #[p] t1)).heap.size = W.heap.size + 1 + 1 := by rw [World.size_alloc, e1]
  refine ⟨?_, ?_, ?_, ?_, ?_, ?_, ?_⟩
  · exact up_alloc (up_alloc (by rw [World.cell?_alloc_new]; rfl))
  · exact up_alloc (up_alloc (by rw [World.cell?_alloc_new]; rfl))
  · exact up_alloc (up_alloc (by rw [World.cell?_alloc_new]; rfl))
  · exact up_alloc (up_alloc (by rw [World.cell?_alloc_new]; rfl))
  · exact up_alloc (up_alloc (by rw [World.cell?_alloc_new]; rfl))
  · rw [← e2, World.cell?_alloc_new]; rfl
  · refine up_alloc ?_
    rw [← e1, World.cell?_alloc_new]; rfl
theorem inf10 (w : World) : Calls Try.prog 79 #[.int .i64 1] w fun e w' => e = .returned (.float .f64 9218868437227405312) ∧ w' = w := by
  have hb := from_int
  go_enter Try.func79, Try.ntmps79
  go_wp2
  go_ret
  exact ⟨rfl, rfl⟩
theorem nowhere_n (w : World) : Calls Try.prog 48 #[] w fun e w' => e = .returned (.agg #[.float .f64 9218868437227405312, .float .f64 0, .float .f64 0, .float .f64 0, .float .f64 0]) ∧ Bel w w' := by
  go_enter Try.func48, Try.ntmps48
  go_wp2_with (first | (go_at_call 79; refine (inf10 _).mono ?_; rintro e w' ⟨rfl, rfl⟩))
  refine bodyPost_ret (v := .agg #[.float .f64 9218868437227405312, .float .f64 0, .float .f64 0, .float .f64 0, .float .f64 0]) (by simp [results, Try.results48, go_sem] <;> (first | exact ⟨rfl, rfl, rfl, rfl, rfl⟩ | rfl)) rfl ⟨rfl, ?_⟩
  repeat (first | exact bl_refl _ | assumption | apply bl_drewN | apply bl_drew | apply bl_alloc | refine bl_set ?_ (by simp <;> omega) | refine bl_trans ?_ (by assumption))

set_option maxRecDepth 100000 in
set_option maxHeartbeats 1000000 in
theorem npoly_err (V : Value) (n : Nat) (xs ys : Nat → Nat) (px py : Nat) {P : Vp} (w : World) (h : AnyS w V n xs ys) (hp : isP px py P) (he : pyE xs ys n px py ≠ 0) : Calls Try.prog 10 #[V, .agg #[.float .f64 px, .float .f64 py]] w fun e w' => ∃ x y sd : Nat, (pyE xs ys n px py = 0 → isP x y (plF xs ys n P n).1.2.1 ∧ sd = (plF xs ys n P n).2) ∧ (pyE xs ys n px py ≠ 0 → x = 0 ∧ y = 0 ∧ sd = 0) ∧ e = .returned (.tuple #[.agg #[.float .f64 x, .float .f64 y], .int .i64 (sd : Int), .int .i64 (pyE xs ys n px py)]) ∧ Bel w w' := by
  have z0_0 : (w.alloc (.cells #[.float .f64 px, .float .f64 py] 24)).cell? ⟨w.heap.size, 0, none⟩ = some (.float .f64 px) := by rw [World.cell?_alloc_new]; rfl
  replace z0_0 := up_alloc (o := .cells #[.float .f64 0, .float .f64 0] 24) z0_0
  have z0_1 : (w.alloc (.cells #[.float .f64 px, .float .f64 py] 24)).cell? ⟨w.heap.size, 1, none⟩ = some (.float .f64 py) := by rw [World.cell?_alloc_new]; rfl
  replace z0_1 := up_alloc (o := .cells #[.float .f64 0, .float .f64 0] 24) z0_1
  have z1_0 : ((w.alloc (.cells #[.float .f64 px, .float .f64 py] 24)).alloc (.cells #[.float .f64 0, .float .f64 0] 24)).cell? ⟨w.heap.size + 1, 0, none⟩ = some (.float .f64 0) := by rw [← (show (w.alloc (.cells #[.float .f64 px, .float .f64 py] 24)).heap.size = w.heap.size + 1 by simp only [World.size_alloc]), World.cell?_alloc_new]; rfl
  have z1_1 : ((w.alloc (.cells #[.float .f64 px, .float .f64 py] 24)).alloc (.cells #[.float .f64 0, .float .f64 0] 24)).cell? ⟨w.heap.size + 1, 1, none⟩ = some (.float .f64 0) := by rw [← (show (w.alloc (.cells #[.float .f64 px, .float .f64 py] 24)).heap.size = w.heap.size + 1 by simp only [World.size_alloc]), World.cell?_alloc_new]; rfl
  have B0 : Bel w ((w.alloc (.cells #[.float .f64 px, .float .f64 py] 24)).alloc (.cells #[.float .f64 0, .float .f64 0] 24)) := bl_alloc (bl_alloc (bl_refl w) _ _) _ _
  have fR : ∀ o, ((w.alloc (.cells #[.float .f64 px, .float .f64 py] 24)).alloc (.cells #[.float .f64 0, .float .f64 0] 24)).frozen? ⟨w.heap.size + 1, o, none⟩ = false := fun o => ((show Bel (w.alloc (.cells #[.float .f64 px, .float .f64 py] 24)) ((w.alloc (.cells #[.float .f64 px, .float .f64 py] 24)).alloc (.cells #[.float .f64 0, .float .f64 0] 24)) by repeat (first | exact bl_refl _ | apply bl_alloc)).2 _).trans (fresh_frozen (by simp only [World.size_alloc]; exact Nat.le_refl _))
  by_cases hc : chkE xs ys n = 0
  · have hi : inB px py = false := by
      cases hh : inB px py
      · rfl
      · exact absurd (by unfold pyE; rw [if_pos hc, hh]; rfl) he
    have eE : pyE xs ys n px py = 5 := by unfold pyE; rw [if_pos hc, hi]; rfl
    clear he
    have hc1 : chkE xs ys n + 1 = 1 := by omega
    clear hc
    go_enter Try.func10, Try.ntmps10
    go_wp2_with (first | (go_at_call 46; refine (chk_all _ n xs ys _ (h.bel B0)).mono ?_; rintro e w1 ⟨rfl, hb⟩; rw [show chkE xs ys n = 0 by omega]; replace z0_0 : w1.cell? ⟨w.heap.size, 0, none⟩ = some (.float .f64 px) := keep hb (by first | exact z0_0 | go_keep); replace z0_1 : w1.cell? ⟨w.heap.size, 1, none⟩ = some (.float .f64 py) := keep hb (by first | exact z0_1 | go_keep); replace z1_0 : w1.cell? ⟨w.heap.size + 1, 0, none⟩ = some (.float .f64 0) := keep hb (by first | exact z1_0 | go_keep); replace z1_1 : w1.cell? ⟨w.heap.size + 1, 1, none⟩ = some (.float .f64 0) := keep hb (by first | exact z1_1 | go_keep); have BF := hb; clear hb; have fE := fun o => (BF.2 _).trans (fR o)) | (go_at_call 47; refine (vWithin_any _ _ _ _).mono ?_; rintro e w2 ⟨rfl, hb⟩; rw [show (withinK .f64 px 4787326403894837248 && withinK .f64 py 4787326403894837248) = false from hi]; replace z0_0 : w2.cell? ⟨w.heap.size, 0, none⟩ = some (.float .f64 px) := keep hb (by first | exact z0_0 | go_keep); replace z0_1 : w2.cell? ⟨w.heap.size, 1, none⟩ = some (.float .f64 py) := keep hb (by first | exact z0_1 | go_keep); replace z1_0 : w2.cell? ⟨w.heap.size + 1, 0, none⟩ = some (.float .f64 0) := keep hb (by first | exact z1_0 | go_keep); replace z1_1 : w2.cell? ⟨w.heap.size + 1, 1, none⟩ = some (.float .f64 0) := keep hb (by first | exact z1_1 | go_keep); replace BF := bl_trans BF hb; clear hb; have fE := fun o => (BF.2 _).trans (fR o)))
    refine bodyPost_ret (v := .tuple #[.agg #[.float .f64 0, .float .f64 0], .int .i64 0, .int .i64 (5)]) (by simp [z1_0, z1_1, results, Try.results10, go_sem] <;> (first | exact ⟨⟨rfl, rfl⟩, rfl⟩ | exact ⟨rfl, rfl, rfl, rfl⟩ | exact ⟨rfl, rfl, rfl⟩ | exact ⟨rfl, rfl⟩ | rfl)) rfl ⟨0, 0, 0, fun q => absurd (eE.symm.trans q) (by first | exact hc | decide), fun _ => ⟨rfl, rfl, rfl⟩, by rw [eE]; rfl, ?_⟩
    have B := bl_trans B0 BF
    repeat (first | exact bl_refl _ | assumption | apply bl_drewN | apply bl_drew | apply bl_alloc | refine bl_set ?_ (by simp <;> omega) | refine bl_trans ?_ (by assumption))
  · have eE : pyE xs ys n px py = chkE xs ys n := by unfold pyE; rw [if_neg hc]
    clear he
    go_enter Try.func10, Try.ntmps10
    go_wp2_with (first | (go_at_call 46; refine (chk_all _ n xs ys _ (h.bel B0)).mono ?_; rintro e w1 ⟨rfl, hb⟩; replace z0_0 : w1.cell? ⟨w.heap.size, 0, none⟩ = some (.float .f64 px) := keep hb (by first | exact z0_0 | go_keep); replace z0_1 : w1.cell? ⟨w.heap.size, 1, none⟩ = some (.float .f64 py) := keep hb (by first | exact z0_1 | go_keep); replace z1_0 : w1.cell? ⟨w.heap.size + 1, 0, none⟩ = some (.float .f64 0) := keep hb (by first | exact z1_0 | go_keep); replace z1_1 : w1.cell? ⟨w.heap.size + 1, 1, none⟩ = some (.float .f64 0) := keep hb (by first | exact z1_1 | go_keep); have BF := hb; clear hb; have fE := fun o => (BF.2 _).trans (fR o)))
    refine bodyPost_ret (v := .tuple #[.agg #[.float .f64 0, .float .f64 0], .int .i64 0, .int .i64 (chkE xs ys n)]) (by simp [z1_0, z1_1, results, Try.results10, go_sem] <;> (first | exact ⟨⟨rfl, rfl⟩, rfl⟩ | exact ⟨rfl, rfl, rfl, rfl⟩ | exact ⟨rfl, rfl, rfl⟩ | exact ⟨rfl, rfl⟩ | rfl)) rfl ⟨0, 0, 0, fun q => absurd (eE.symm.trans q) (by first | exact hc | decide), fun _ => ⟨rfl, rfl, rfl⟩, by rw [eE]; rfl, ?_⟩
    have B := bl_trans B0 BF
    repeat (first | exact bl_refl _ | assumption | apply bl_drewN | apply bl_drew | apply bl_alloc | refine bl_set ?_ (by simp <;> omega) | refine bl_trans ?_ (by assumption))

set_option maxRecDepth 100000 in
set_option maxHeartbeats 4000000 in
theorem npoly_ok (V : Value) (n : Nat) (xs ys : Nat → Nat) (px py : Nat) {P : Vp} (w : World) (h : AnyS w V n xs ys) (hp : isP px py P) (he : pyE xs ys n px py = 0) : Calls Try.prog 10 #[V, .agg #[.float .f64 px, .float .f64 py]] w fun e w' => ∃ x y sd : Nat, (pyE xs ys n px py = 0 → isP x y (plF xs ys n P n).1.2.1 ∧ sd = (plF xs ys n P n).2) ∧ (pyE xs ys n px py ≠ 0 → x = 0 ∧ y = 0 ∧ sd = 0) ∧ e = .returned (.tuple #[.agg #[.float .f64 x, .float .f64 y], .int .i64 (sd : Int), .int .i64 (pyE xs ys n px py)]) ∧ Bel w w' := by
  have hc : chkE xs ys n = 0 := by
    by_cases hc : chkE xs ys n = 0
    · exact hc
    · exact absurd (by unfold pyE at he; rw [if_neg hc] at he; exact he) hc
  have hi : inB px py = true := by
    cases hh : inB px py
    · exact absurd (by unfold pyE at he; rw [if_pos hc, hh] at he; exact he) (by decide)
    · rfl
  have hh := h
  obtain ⟨a, cap, rfl, hcap, hmx, _, hO, hz | ⟨hp0, b, off, rfl, hS⟩⟩ := hh
  · subst hz
    exact absurd hc (by unfold chkE; simp [plcE, reaB, allB])
  obtain ⟨hG, h3, h64, _⟩ := chk_ok hO hc
  have he1 := hide he
  have hc1 : chkE xs ys n + 1 = 1 := by omega
  clear hc he
  have z0_0 : (w.alloc (.cells #[.float .f64 px, .float .f64 py] 24)).cell? ⟨w.heap.size, 0, none⟩ = some (.float .f64 px) := by rw [World.cell?_alloc_new]; rfl
  replace z0_0 := up_alloc (o := .cells #[.float .f64 0, .float .f64 0] 24) z0_0
  have z0_1 : (w.alloc (.cells #[.float .f64 px, .float .f64 py] 24)).cell? ⟨w.heap.size, 1, none⟩ = some (.float .f64 py) := by rw [World.cell?_alloc_new]; rfl
  replace z0_1 := up_alloc (o := .cells #[.float .f64 0, .float .f64 0] 24) z0_1
  have z1_0 : ((w.alloc (.cells #[.float .f64 px, .float .f64 py] 24)).alloc (.cells #[.float .f64 0, .float .f64 0] 24)).cell? ⟨w.heap.size + 1, 0, none⟩ = some (.float .f64 0) := by rw [← (show (w.alloc (.cells #[.float .f64 px, .float .f64 py] 24)).heap.size = w.heap.size + 1 by simp only [World.size_alloc]), World.cell?_alloc_new]; rfl
  have z1_1 : ((w.alloc (.cells #[.float .f64 px, .float .f64 py] 24)).alloc (.cells #[.float .f64 0, .float .f64 0] 24)).cell? ⟨w.heap.size + 1, 1, none⟩ = some (.float .f64 0) := by rw [← (show (w.alloc (.cells #[.float .f64 px, .float .f64 py] 24)).heap.size = w.heap.size + 1 by simp only [World.size_alloc]), World.cell?_alloc_new]; rfl
  have B0 : Bel w ((w.alloc (.cells #[.float .f64 px, .float .f64 py] 24)).alloc (.cells #[.float .f64 0, .float .f64 0] 24)) := bl_alloc (bl_alloc (bl_refl w) _ _) _ _
  have fR : ∀ o, ((w.alloc (.cells #[.float .f64 px, .float .f64 py] 24)).alloc (.cells #[.float .f64 0, .float .f64 0] 24)).frozen? ⟨w.heap.size + 1, o, none⟩ = false := fun o => ((show Bel (w.alloc (.cells #[.float .f64 px, .float .f64 py] 24)) ((w.alloc (.cells #[.float .f64 px, .float .f64 py] 24)).alloc (.cells #[.float .f64 0, .float .f64 0] 24)) by repeat (first | exact bl_refl _ | apply bl_alloc)).2 _).trans (fresh_frozen (by simp only [World.size_alloc]; exact Nat.le_refl _))
  go_enter Try.func10, Try.ntmps10
  have STEP0 : ∀ w3 : World, w.heap.size ≤ w3.heap.size → w3.cell? ⟨w.heap.size, 0, none⟩ = some (.float .f64 px) → w3.cell? ⟨w.heap.size, 1, none⟩ = some (.float .f64 py) → ∀ j W, j < n → (fun j W => Bel w3 W ∧ ∃ nf1 na1 nb1 nc1 nd1 : Nat, isN nf1 na1 nb1 nc1 nd1 ((plF xs ys n P j).1) ∧ W.cell? ⟨w3.heap.size, 0, none⟩ = some (.float .f64 nf1) ∧ W.cell? ⟨w3.heap.size, 1, none⟩ = some (.float .f64 na1) ∧ W.cell? ⟨w3.heap.size, 2, none⟩ = some (.float .f64 nb1) ∧ W.cell? ⟨w3.heap.size, 3, none⟩ = some (.float .f64 nc1) ∧ W.cell? ⟨w3.heap.size, 4, none⟩ = some (.float .f64 nd1) ∧ W.cell? ⟨w3.heap.size + 1 + 1, 0, none⟩ = some (.int .i64 (j : Int)) ∧ W.cell? ⟨w3.heap.size + 1, 0, none⟩ = some (.int .i64 ((plF xs ys n P j).2 : Int))) j W → Calls Try.prog 50 #[.agg #[.float .f64 (xs j), .float .f64 (ys j)], .agg #[.float .f64 (xs ((j + 1) % n)), .float .f64 (ys ((j + 1) % n))], .pointer (some ⟨w.heap.size, 0, none⟩), .pointer (some ⟨w3.heap.size, 0, none⟩), .pointer (some ⟨w3.heap.size + 1 + 1, 0, none⟩), .pointer (some ⟨w3.heap.size + 1, 0, none⟩)] W fun e w' => e = .returned (.tuple #[]) ∧ (fun j W => Bel w3 W ∧ ∃ nf1 na1 nb1 nc1 nd1 : Nat, isN nf1 na1 nb1 nc1 nd1 ((plF xs ys n P j).1) ∧ W.cell? ⟨w3.heap.size, 0, none⟩ = some (.float .f64 nf1) ∧ W.cell? ⟨w3.heap.size, 1, none⟩ = some (.float .f64 na1) ∧ W.cell? ⟨w3.heap.size, 2, none⟩ = some (.float .f64 nb1) ∧ W.cell? ⟨w3.heap.size, 3, none⟩ = some (.float .f64 nc1) ∧ W.cell? ⟨w3.heap.size, 4, none⟩ = some (.float .f64 nd1) ∧ W.cell? ⟨w3.heap.size + 1 + 1, 0, none⟩ = some (.int .i64 (j : Int)) ∧ W.cell? ⟨w3.heap.size + 1, 0, none⟩ = some (.int .i64 ((plF xs ys n P j).2 : Int))) (j + 1) w' := fun w3 _ z0_0 z0_1 => fun j W hj hI => by
        obtain ⟨hB, nf1, na1, nb1, nc1, nd1, hN, g0, g1, g2, g3, g4, k0, h0⟩ := hI
        have fz : ∀ x o, w3.heap.size ≤ x → W.frozen? ⟨x, o, none⟩ = false := fun x o hx => (hB.2 _).trans (fresh_frozen hx)
        refine (poly1_n (N := (plF xs ys n P j).1) W (isP_self (hO j hj).1 (hO j hj).2) (isP_self (hO _ (Nat.mod_lt _ (by omega))).1 (hO _ (Nat.mod_lt _ (by omega))).2) hp hN (keep hB z0_0) (keep hB z0_1) g0 g1 g2 g3 g4 k0 h0 (by omega) (by omega) (by omega) (fun o => fz _ o (by omega)) (fun o => fz _ o (by omega)) (fun o => fz _ o (by omega)) (by omega)).mono ?_
        rintro e w' ⟨nf2, na2, nb2, nc2, nd2, sd2, hN2, hs2, rfl, d0, d1, d2, d3, d4, d5, d6, hB2⟩
        exact ⟨rfl, hB2 w3 hB (Nat.le_refl _) (by omega) (by omega), nf2, na2, nb2, nc2, nd2, by rw [pl_s1]; exact hN2, d0, d1, d2, d3, d4, d5, by rw [pl_s2]; exact (show sd2 = pkF (ltK .f64 (nxF xs ys n P j).1 (plF xs ys n P j).1.1) j (plF xs ys n P j).2 from hs2) ▸ d6⟩
  go_wp2_with (first | (go_at_call 46; refine (chk_all _ n xs ys _ (h.bel B0)).mono ?_; rintro e w1 ⟨rfl, hb⟩; rw [show chkE xs ys n = 0 by omega]; replace z0_0 : w1.cell? ⟨w.heap.size, 0, none⟩ = some (.float .f64 px) := keep hb (by first | exact z0_0 | go_keep); replace z0_1 : w1.cell? ⟨w.heap.size, 1, none⟩ = some (.float .f64 py) := keep hb (by first | exact z0_1 | go_keep); replace z1_0 : w1.cell? ⟨w.heap.size + 1, 0, none⟩ = some (.float .f64 0) := keep hb (by first | exact z1_0 | go_keep); replace z1_1 : w1.cell? ⟨w.heap.size + 1, 1, none⟩ = some (.float .f64 0) := keep hb (by first | exact z1_1 | go_keep); have BF := hb; clear hb; have fE := fun o => (BF.2 _).trans (fR o)) | (go_at_call 47; refine (vWithin_any _ _ _ _).mono ?_; rintro e w2 ⟨rfl, hb⟩; rw [show (withinK .f64 px 4787326403894837248 && withinK .f64 py 4787326403894837248) = true from hi]; replace z0_0 : w2.cell? ⟨w.heap.size, 0, none⟩ = some (.float .f64 px) := keep hb (by first | exact z0_0 | go_keep); replace z0_1 : w2.cell? ⟨w.heap.size, 1, none⟩ = some (.float .f64 py) := keep hb (by first | exact z0_1 | go_keep); replace z1_0 : w2.cell? ⟨w.heap.size + 1, 0, none⟩ = some (.float .f64 0) := keep hb (by first | exact z1_0 | go_keep); replace z1_1 : w2.cell? ⟨w.heap.size + 1, 1, none⟩ = some (.float .f64 0) := keep hb (by first | exact z1_1 | go_keep); replace BF := bl_trans BF hb; clear hb) | (go_at_call 48; refine (nowhere_n _).mono ?_; rintro e w3 ⟨rfl, hb⟩; replace z0_0 : w3.cell? ⟨w.heap.size, 0, none⟩ = some (.float .f64 px) := keep hb (by first | exact z0_0 | go_keep); replace z0_1 : w3.cell? ⟨w.heap.size, 1, none⟩ = some (.float .f64 py) := keep hb (by first | exact z0_1 | go_keep); replace z1_0 : w3.cell? ⟨w.heap.size + 1, 0, none⟩ = some (.float .f64 0) := keep hb (by first | exact z1_0 | go_keep); replace z1_1 : w3.cell? ⟨w.heap.size + 1, 1, none⟩ = some (.float .f64 0) := keep hb (by first | exact z1_1 | go_keep); replace BF := bl_trans BF hb; clear hb; have hz := BF.size; simp only [World.size_alloc] at hz; have hS3 := hS.bel (bl_trans B0 BF); have STEP : ∀ j W, j < n → (fun j W => Bel w3 W ∧ ∃ nf1 na1 nb1 nc1 nd1 : Nat, isN nf1 na1 nb1 nc1 nd1 ((plF xs ys n P j).1) ∧ W.cell? ⟨w3.heap.size, 0, none⟩ = some (.float .f64 nf1) ∧ W.cell? ⟨w3.heap.size, 1, none⟩ = some (.float .f64 na1) ∧ W.cell? ⟨w3.heap.size, 2, none⟩ = some (.float .f64 nb1) ∧ W.cell? ⟨w3.heap.size, 3, none⟩ = some (.float .f64 nc1) ∧ W.cell? ⟨w3.heap.size, 4, none⟩ = some (.float .f64 nd1) ∧ W.cell? ⟨w3.heap.size + 1 + 1, 0, none⟩ = some (.int .i64 (j : Int)) ∧ W.cell? ⟨w3.heap.size + 1, 0, none⟩ = some (.int .i64 ((plF xs ys n P j).2 : Int))) j W → Calls Try.prog 50 #[.agg #[.float .f64 (xs j), .float .f64 (ys j)], .agg #[.float .f64 (xs ((j + 1) % n)), .float .f64 (ys ((j + 1) % n))], .pointer (some ⟨w.heap.size, 0, none⟩), .pointer (some ⟨w3.heap.size, 0, none⟩), .pointer (some ⟨w3.heap.size + 1 + 1, 0, none⟩), .pointer (some ⟨w3.heap.size + 1, 0, none⟩)] W fun e w' => e = .returned (.tuple #[]) ∧ (fun j W => Bel w3 W ∧ ∃ nf1 na1 nb1 nc1 nd1 : Nat, isN nf1 na1 nb1 nc1 nd1 ((plF xs ys n P j).1) ∧ W.cell? ⟨w3.heap.size, 0, none⟩ = some (.float .f64 nf1) ∧ W.cell? ⟨w3.heap.size, 1, none⟩ = some (.float .f64 na1) ∧ W.cell? ⟨w3.heap.size, 2, none⟩ = some (.float .f64 nb1) ∧ W.cell? ⟨w3.heap.size, 3, none⟩ = some (.float .f64 nc1) ∧ W.cell? ⟨w3.heap.size, 4, none⟩ = some (.float .f64 nd1) ∧ W.cell? ⟨w3.heap.size + 1 + 1, 0, none⟩ = some (.int .i64 (j : Int)) ∧ W.cell? ⟨w3.heap.size + 1, 0, none⟩ = some (.int .i64 ((plF xs ys n P j).2 : Int))) (j + 1) w' := (STEP0 w3 (bl_trans B0 BF).size z0_0 z0_1)) | (go_at_call 49; refine (each13 _ _ _ _ 0 b off n cap xs ys _ (fun j W => Bel w3 W ∧ ∃ nf1 na1 nb1 nc1 nd1 : Nat, isN nf1 na1 nb1 nc1 nd1 ((plF xs ys n P j).1) ∧ W.cell? ⟨w3.heap.size, 0, none⟩ = some (.float .f64 nf1) ∧ W.cell? ⟨w3.heap.size, 1, none⟩ = some (.float .f64 na1) ∧ W.cell? ⟨w3.heap.size, 2, none⟩ = some (.float .f64 nb1) ∧ W.cell? ⟨w3.heap.size, 3, none⟩ = some (.float .f64 nc1) ∧ W.cell? ⟨w3.heap.size, 4, none⟩ = some (.float .f64 nd1) ∧ W.cell? ⟨w3.heap.size + 1 + 1, 0, none⟩ = some (.int .i64 (j : Int)) ∧ W.cell? ⟨w3.heap.size + 1, 0, none⟩ = some (.int .i64 ((plF xs ys n P j).2 : Int))) (fun j W W' hI hb => ⟨bl_trans hI.1 hb, by obtain ⟨_, nf1, na1, nb1, nc1, nd1, hN, g0, g1, g2, g3, g4, k0, h0⟩ := hI; exact ⟨nf1, na1, nb1, nc1, nd1, hN, keep hb g0, keep hb g1, keep hb g2, keep hb g3, keep hb g4, keep hb k0, keep hb h0⟩⟩) (fun j W hI => hS3.bel hI.1) h3 (by omega) hcap (by exact ⟨bl_alloc (bl_alloc (bl_alloc (bl_refl w3) _ _) _ _) _ _, 9218868437227405312, 0, 0, 0, 0, pl_zero xs ys n P, lay3_at _ _ _ _ _ _ _ _ _ _ _⟩) (STEP)).mono ?_; rintro e w4 ⟨rfl, hI⟩))
  obtain ⟨hB, nf1, na1, nb1, nc1, nd1, hN, g0, g1, g2, g3, g4, k0, h0⟩ := hI
  replace z0_0 := keep hB z0_0; replace z0_1 := keep hB z0_1; replace z1_0 := keep hB z1_0; replace z1_1 := keep hB z1_1
  replace BF := bl_trans BF hB
  have fE := fun o => (BF.2 _).trans (fR o)
  have hne : w.heap.size + 1 ≠ w3.heap.size := by omega
  have hne2 : w.heap.size + 1 ≠ w3.heap.size + 1 := by omega
  go_region
  all_goals go_wp2
  refine bodyPost_ret (v := .tuple #[.agg #[.float .f64 na1, .float .f64 nb1], .int .i64 ((plF xs ys n P n).2 : Int), .int .i64 0]) (by simp [z1_0, z1_1, results, Try.results10, go_sem] <;> (first | exact ⟨⟨rfl, rfl⟩, rfl⟩ | exact ⟨rfl, rfl, rfl, rfl⟩ | exact ⟨rfl, rfl, rfl⟩ | exact ⟨rfl, rfl⟩ | rfl)) rfl ⟨_, _, _, fun _ => ⟨hN.2.1, rfl⟩, fun q => absurd (unhide he1) q, by rw [unhide he1], ?_⟩
  have B := bl_trans B0 BF
  repeat (first | exact bl_refl _ | assumption | apply bl_drewN | apply bl_drew | apply bl_alloc | refine bl_set ?_ (by simp <;> omega) | refine bl_trans ?_ (by assumption))

end Go.Proofs.Ytpedpgpgcmhnoab
