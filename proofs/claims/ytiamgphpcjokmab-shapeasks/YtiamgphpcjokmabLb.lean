/-
  What each function of package poly answers, and what the reference of its chapter answers: one contract a function, for every float: the answer stands in the relation of its formula to what was given; of the memory that was there nothing has turned.
-/
import Derived.Test.YtiamgphpcjokmabVec
import Derived.Test.YtiamgphpcjokmabLa
import Derived.Below
import Derived.OwnWalk
import Derived.Laws.AppendOwn
import Derived.Laws.AppendOwnNone
import Derived.Laws.StructEq
import Derived.WalkKit
import Derived.WalkLawsBesides
import Derived.WalkSpells
import Derived.ProofKit
import Derived.OpenShut
import Derived.Deep.RegionHeld3
namespace Go.Proofs.Ytiamgphpcjokmab
open Go.ChangeShapes Go.WideShapes Go.ChangeAt Go.RowKit
set_option linter.unusedVariables false
set_option linter.unusedSimpArgs false


set_option maxRecDepth 100000 in
set_option maxHeartbeats 4000000 in
theorem lent7 (V : Value) (n : Nat) (xs ys : Nat → Nat) (k : Int) (r : Nat) (w : World) (h : AnyS w V n xs ys) : Calls Try.prog 7 #[.agg #[.int .u8 k, .float .f64 r, V]] w fun e w' => ∃ g c, e = .returned (.tuple #[.agg #[.int .u8 k, .float .f64 r, (.slice (some ⟨g, 0, none⟩) n c)], .slice (some ⟨g, 0, none⟩) (n + 1) c]) ∧ w.heap.size ≤ g ∧ Len1 w' g c n xs ys ∧ Bel w w' := by
  obtain ⟨a, cap, rfl, h2, h3, h4, h5, h6⟩ := h
  rcases h6 with rfl | ⟨h0, b, off, rfl, hs⟩
  · skip
    have z0_0 : (w.alloc (.cells #[.int .u8 k, .float .f64 r, .slice a 0 cap] 25)).cell? ⟨w.heap.size, 0, none⟩ = some (.int .u8 k) := by rw [World.cell?_alloc_new]; rfl
    replace z0_0 := up_alloc (o := .cells #[.int .u8 0, .float .f64 0, .slice none 0 0] 25) z0_0
    have z0_1 : (w.alloc (.cells #[.int .u8 k, .float .f64 r, .slice a 0 cap] 25)).cell? ⟨w.heap.size, 1, none⟩ = some (.float .f64 r) := by rw [World.cell?_alloc_new]; rfl
    replace z0_1 := up_alloc (o := .cells #[.int .u8 0, .float .f64 0, .slice none 0 0] 25) z0_1
    have z0_2 : (w.alloc (.cells #[.int .u8 k, .float .f64 r, .slice a 0 cap] 25)).cell? ⟨w.heap.size, 2, none⟩ = some (.slice a 0 cap) := by rw [World.cell?_alloc_new]; rfl
    replace z0_2 := up_alloc (o := .cells #[.int .u8 0, .float .f64 0, .slice none 0 0] 25) z0_2
    have z1_0 : ((w.alloc (.cells #[.int .u8 k, .float .f64 r, .slice a 0 cap] 25)).alloc (.cells #[.int .u8 0, .float .f64 0, .slice none 0 0] 25)).cell? ⟨w.heap.size + 1, 0, none⟩ = some (.int .u8 0) := by rw [← (show (w.alloc (.cells #[.int .u8 k, .float .f64 r, .slice a 0 cap] 25)).heap.size = w.heap.size + 1 by simp only [World.size_alloc]), World.cell?_alloc_new]; rfl
    have z1_1 : ((w.alloc (.cells #[.int .u8 k, .float .f64 r, .slice a 0 cap] 25)).alloc (.cells #[.int .u8 0, .float .f64 0, .slice none 0 0] 25)).cell? ⟨w.heap.size + 1, 1, none⟩ = some (.float .f64 0) := by rw [← (show (w.alloc (.cells #[.int .u8 k, .float .f64 r, .slice a 0 cap] 25)).heap.size = w.heap.size + 1 by simp only [World.size_alloc]), World.cell?_alloc_new]; rfl
    have z1_2 : ((w.alloc (.cells #[.int .u8 k, .float .f64 r, .slice a 0 cap] 25)).alloc (.cells #[.int .u8 0, .float .f64 0, .slice none 0 0] 25)).cell? ⟨w.heap.size + 1, 2, none⟩ = some (.slice none 0 0) := by rw [← (show (w.alloc (.cells #[.int .u8 k, .float .f64 r, .slice a 0 cap] 25)).heap.size = w.heap.size + 1 by simp only [World.size_alloc]), World.cell?_alloc_new]; rfl
    have B0 : Bel w ((w.alloc (.cells #[.int .u8 k, .float .f64 r, .slice a 0 cap] 25)).alloc (.cells #[.int .u8 0, .float .f64 0, .slice none 0 0] 25)) := bl_alloc (bl_alloc (bl_refl w) _ _) _ _
    have own0 := Own.nil (w.heap.size + 1 + 1) ((w.alloc (.cells #[.int .u8 k, .float .f64 r, .slice a 0 cap] 25)).alloc (.cells #[.int .u8 0, .float .f64 0, .slice none 0 0] 25))
    have e2 : ((w.alloc (.cells #[.int .u8 k, .float .f64 r, .slice a 0 cap] 25)).alloc (.cells #[.int .u8 0, .float .f64 0, .slice none 0 0] 25)).heap.size = w.heap.size + 1 + 1 := by simp only [World.size_alloc]
    have ls := mk1_laid ((w.alloc (.cells #[.int .u8 k, .float .f64 r, .slice a 0 cap] 25)).alloc (.cells #[.int .u8 0, .float .f64 0, .slice none 0 0] 25))
    rw [e2] at ls
    have le2 := Nat.le_of_eq e2
    have ra := fun ty => run_app0 ((w.alloc (.cells #[.int .u8 k, .float .f64 r, .slice a 0 cap] 25)).alloc (.cells #[.int .u8 0, .float .f64 0, .slice none 0 0] 25)) ty cap a
    go_enter Try.func7, Try.ntmps7
    go_wp2_with (first | (have zn := m1; clear zn; at_builtin; refine wpList_app (L := []) (M := [(4635118810238550016, 0)]) rfl _ _ rfl rfl _ 0 1 rfl (own0.bel (bl_alloc (bl_refl _) _ _)) ls (by decide) (by simp) (by decide) ?_; intro v1 w2 hO hb; have B := hb ((w.alloc (.cells #[.int .u8 k, .float .f64 r, .slice a 0 cap] 25)).alloc (.cells #[.int .u8 0, .float .f64 0, .slice none 0 0] 25)) (bl_alloc (bl_refl _) _ _) le2; obtain ⟨g, c, rfl, hg, hL⟩ := len1_fin (xs := xs) (ys := ys) (n := 0) hO; have hsz := B.size; simp only [World.size_alloc] at hsz; have S0 := keep B z0_0; have S1 := keep B z0_1; have S2 := keep B z0_2; have R0 := keep B z1_0; have R1 := keep B z1_1; have R2 := keep B z1_2; have hc := hL.1; have hcm := hL.2.1; have Bw := bl_trans B0 B; have ZF := fun b o (hb : w.heap.size ≤ b) => (Bw.2 ⟨b, o, none⟩).trans (fresh_frozen hb); have Z0 := fun o => ZF w.heap.size o (Nat.le_refl _); have Z1 := fun o => ZF (w.heap.size + 1) o (Nat.le_succ _); have ne1 : w.heap.size ≠ w.heap.size + 1 := Nat.ne_of_lt (Nat.lt_succ_self _); replace S0 := (far_off (n := w.heap.size) (o := 2) (v := (.slice (some ⟨g, 0, none⟩) 0 c)) (by decide)).trans S0; replace S1 := (far_off (n := w.heap.size) (o := 2) (v := (.slice (some ⟨g, 0, none⟩) 0 c)) (by decide)).trans S1; have S3 : (w2.setCell ⟨w.heap.size, 2, none⟩ (.slice (some ⟨g, 0, none⟩) 0 c)).cell? ⟨w.heap.size, 2, none⟩ = some (.slice (some ⟨g, 0, none⟩) 0 c) := (by apply World.cell?_setCell_same; exact S2); replace R0 := up_set2 (o := 2) (x := (.slice (some ⟨g, 0, none⟩) 0 c)) ne1 R0; replace R1 := up_set2 (o := 2) (x := (.slice (some ⟨g, 0, none⟩) 0 c)) ne1 R1; replace R2 := up_set2 (o := 2) (x := (.slice (some ⟨g, 0, none⟩) 0 c)) ne1 R2) | (at_builtin; refine wpList_run (v := .slice none 0 0) (u := .slice a 0 cap) (v' := .slice none 0 0) (w' := ((w.alloc (.cells #[.int .u8 k, .float .f64 r, .slice a 0 cap] 25)).alloc (.cells #[.int .u8 0, .float .f64 0, .slice none 0 0] 25))) rfl _ _ rfl rfl rfl ra ?_; have m1 := hide True.intro) | go_in)
    obtain ⟨F0, F1, F2⟩ := set3 (p := .int .u8 k) (q := .float .f64 r) (r := (.slice (some ⟨g, 0, none⟩) 0 c)) R0 R1 R2
    have lr : w.heap.size ≤ w.heap.size + 1 := by omega
    have neg0 : w.heap.size ≠ g := by omega
    have neg1 : w.heap.size + 1 ≠ g := by omega
    refine bodyPost_ret (v := .tuple #[.agg #[.int .u8 k, .float .f64 r, (.slice (some ⟨g, 0, none⟩) 0 c)], .slice (some ⟨g, 0, none⟩) (0 + 1) c]) (by simp [F0, F1, F2, results, Try.results7, go_sem] <;> (first | exact ⟨⟨rfl, rfl⟩, rfl⟩ | exact ⟨rfl, rfl, rfl, rfl⟩ | exact ⟨rfl, rfl, rfl⟩ | exact ⟨rfl, rfl⟩ | rfl)) rfl ⟨g, c, rfl, by omega, ?_, bl_set (bl_set (bl_set (bl_set Bw (Nat.le_refl _)) lr) lr) lr⟩
    exact ⟨hL.1, hL.2.1, fun i hi => ⟨up_set2 neg1 (up_set2 neg1 (up_set2 neg1 (up_set2 neg0 (hL.2.2.1 i hi).1))), up_set2 neg1 (up_set2 neg1 (up_set2 neg1 (up_set2 neg0 (hL.2.2.1 i hi).2)))⟩, up_set2 neg1 (up_set2 neg1 (up_set2 neg1 (up_set2 neg0 hL.2.2.2.1))), up_set2 neg1 (up_set2 neg1 (up_set2 neg1 (up_set2 neg0 hL.2.2.2.2)))⟩
  · have sL : Sl w b off (lst xs ys n).length (px (lst xs ys n)) (py (lst xs ys n)) := by rw [lst_len]; exact hs.eq (fun i hi => (lst_x _ _ _ i hi).symm) (fun i hi => (lst_y _ _ _ i hi).symm)
    have z0_0 : (w.alloc (.cells #[.int .u8 k, .float .f64 r, .slice (some ⟨b, off, none⟩) n cap] 25)).cell? ⟨w.heap.size, 0, none⟩ = some (.int .u8 k) := by rw [World.cell?_alloc_new]; rfl
    replace z0_0 := up_alloc (o := .cells #[.int .u8 0, .float .f64 0, .slice none 0 0] 25) z0_0
    have z0_1 : (w.alloc (.cells #[.int .u8 k, .float .f64 r, .slice (some ⟨b, off, none⟩) n cap] 25)).cell? ⟨w.heap.size, 1, none⟩ = some (.float .f64 r) := by rw [World.cell?_alloc_new]; rfl
    replace z0_1 := up_alloc (o := .cells #[.int .u8 0, .float .f64 0, .slice none 0 0] 25) z0_1
    have z0_2 : (w.alloc (.cells #[.int .u8 k, .float .f64 r, .slice (some ⟨b, off, none⟩) n cap] 25)).cell? ⟨w.heap.size, 2, none⟩ = some (.slice (some ⟨b, off, none⟩) n cap) := by rw [World.cell?_alloc_new]; rfl
    replace z0_2 := up_alloc (o := .cells #[.int .u8 0, .float .f64 0, .slice none 0 0] 25) z0_2
    have z1_0 : ((w.alloc (.cells #[.int .u8 k, .float .f64 r, .slice (some ⟨b, off, none⟩) n cap] 25)).alloc (.cells #[.int .u8 0, .float .f64 0, .slice none 0 0] 25)).cell? ⟨w.heap.size + 1, 0, none⟩ = some (.int .u8 0) := by rw [← (show (w.alloc (.cells #[.int .u8 k, .float .f64 r, .slice (some ⟨b, off, none⟩) n cap] 25)).heap.size = w.heap.size + 1 by simp only [World.size_alloc]), World.cell?_alloc_new]; rfl
    have z1_1 : ((w.alloc (.cells #[.int .u8 k, .float .f64 r, .slice (some ⟨b, off, none⟩) n cap] 25)).alloc (.cells #[.int .u8 0, .float .f64 0, .slice none 0 0] 25)).cell? ⟨w.heap.size + 1, 1, none⟩ = some (.float .f64 0) := by rw [← (show (w.alloc (.cells #[.int .u8 k, .float .f64 r, .slice (some ⟨b, off, none⟩) n cap] 25)).heap.size = w.heap.size + 1 by simp only [World.size_alloc]), World.cell?_alloc_new]; rfl
    have z1_2 : ((w.alloc (.cells #[.int .u8 k, .float .f64 r, .slice (some ⟨b, off, none⟩) n cap] 25)).alloc (.cells #[.int .u8 0, .float .f64 0, .slice none 0 0] 25)).cell? ⟨w.heap.size + 1, 2, none⟩ = some (.slice none 0 0) := by rw [← (show (w.alloc (.cells #[.int .u8 k, .float .f64 r, .slice (some ⟨b, off, none⟩) n cap] 25)).heap.size = w.heap.size + 1 by simp only [World.size_alloc]), World.cell?_alloc_new]; rfl
    have B0 : Bel w ((w.alloc (.cells #[.int .u8 k, .float .f64 r, .slice (some ⟨b, off, none⟩) n cap] 25)).alloc (.cells #[.int .u8 0, .float .f64 0, .slice none 0 0] 25)) := bl_alloc (bl_alloc (bl_refl w) _ _) _ _
    have own0 := Own.nil (w.heap.size + 1 + 1) ((w.alloc (.cells #[.int .u8 k, .float .f64 r, .slice (some ⟨b, off, none⟩) n cap] 25)).alloc (.cells #[.int .u8 0, .float .f64 0, .slice none 0 0] 25))
    have e2 : ((w.alloc (.cells #[.int .u8 k, .float .f64 r, .slice (some ⟨b, off, none⟩) n cap] 25)).alloc (.cells #[.int .u8 0, .float .f64 0, .slice none 0 0] 25)).heap.size = w.heap.size + 1 + 1 := by simp only [World.size_alloc]
    have le2 := Nat.le_of_eq e2
    have hll := lst_len xs ys n
    have n1 : (n : Int) ≤ (n : Int) + 1 := by omega
    go_enter Try.func7, Try.ntmps7
    go_wp2_with (first | (have zn := m1; clear zn; at_builtin; refine wpList_app (L := lst xs ys n) (M := [(4635118810238550016, 0)]) rfl _ _ rfl rfl _ 0 1 rfl (hO.bel (bl_alloc (bl_refl w1) _ _)) (mk1_laid w1) (by decide) (Nat.le_trans (Nat.le_of_eq e2.symm) (Nat.le_trans B1.size (by simp))) (by rw [lst_len]; simp; omega) ?_; intro v2 w2 hO2 hb2; have B := hb2 ((w.alloc (.cells #[.int .u8 k, .float .f64 r, .slice (some ⟨b, off, none⟩) n cap] 25)).alloc (.cells #[.int .u8 0, .float .f64 0, .slice none 0 0] 25)) (bl_alloc B1 _ _) le2; obtain ⟨g, c, rfl, hg, hL⟩ := len1_fin hO2; have hsz := B.size; simp only [World.size_alloc] at hsz; have S0 := keep B z0_0; have S1 := keep B z0_1; have S2 := keep B z0_2; have R0 := keep B z1_0; have R1 := keep B z1_1; have R2 := keep B z1_2; have hc := hL.1; have hcm := hL.2.1; have Bw := bl_trans B0 B; have ZF := fun b o (hb : w.heap.size ≤ b) => (Bw.2 ⟨b, o, none⟩).trans (fresh_frozen hb); have Z0 := fun o => ZF w.heap.size o (Nat.le_refl _); have Z1 := fun o => ZF (w.heap.size + 1) o (Nat.le_succ _); have ne1 : w.heap.size ≠ w.heap.size + 1 := Nat.ne_of_lt (Nat.lt_succ_self _); replace S0 := (far_off (n := w.heap.size) (o := 2) (v := (.slice (some ⟨g, 0, none⟩) n c)) (by decide)).trans S0; replace S1 := (far_off (n := w.heap.size) (o := 2) (v := (.slice (some ⟨g, 0, none⟩) n c)) (by decide)).trans S1; have S3 : (w2.setCell ⟨w.heap.size, 2, none⟩ (.slice (some ⟨g, 0, none⟩) n c)).cell? ⟨w.heap.size, 2, none⟩ = some (.slice (some ⟨g, 0, none⟩) n c) := (by apply World.cell?_setCell_same; exact S2); replace R0 := up_set2 (o := 2) (x := (.slice (some ⟨g, 0, none⟩) n c)) ne1 R0; replace R1 := up_set2 (o := 2) (x := (.slice (some ⟨g, 0, none⟩) n c)) ne1 R1; replace R2 := up_set2 (o := 2) (x := (.slice (some ⟨g, 0, none⟩) n c)) ne1 R2; have c1 : (n : Int) ≤ (c : Int) := (by omega)) | (at_builtin; refine wpList_app (L := []) (M := lst xs ys n) rfl _ _ rfl rfl b off cap (by rw [lst_len]; rfl) own0 (sL.bel B0) (by rw [lst_len]; exact h0) (Nat.le_of_eq e2.symm) (by rw [lst_len]; simp; omega) ?_; intro v1 w1 hO hb; have B1 := hb ((w.alloc (.cells #[.int .u8 k, .float .f64 r, .slice (some ⟨b, off, none⟩) n cap] 25)).alloc (.cells #[.int .u8 0, .float .f64 0, .slice none 0 0] 25)) (bl_refl _) le2; rw [List.nil_append] at hO; have S2 := keep B1 z0_2; have m1 := hide True.intro) | go_in)
    obtain ⟨F0, F1, F2⟩ := set3 (p := .int .u8 k) (q := .float .f64 r) (r := (.slice (some ⟨g, 0, none⟩) n c)) R0 R1 R2
    have lr : w.heap.size ≤ w.heap.size + 1 := by omega
    have neg0 : w.heap.size ≠ g := by omega
    have neg1 : w.heap.size + 1 ≠ g := by omega
    refine bodyPost_ret (v := .tuple #[.agg #[.int .u8 k, .float .f64 r, (.slice (some ⟨g, 0, none⟩) n c)], .slice (some ⟨g, 0, none⟩) (n + 1) c]) (by simp [F0, F1, F2, results, Try.results7, go_sem] <;> (first | exact ⟨⟨rfl, rfl⟩, rfl⟩ | exact ⟨rfl, rfl, rfl, rfl⟩ | exact ⟨rfl, rfl, rfl⟩ | exact ⟨rfl, rfl⟩ | rfl)) rfl ⟨g, c, rfl, by omega, ?_, bl_set (bl_set (bl_set (bl_set Bw (Nat.le_refl _)) lr) lr) lr⟩
    exact ⟨hL.1, hL.2.1, fun i hi => ⟨up_set2 neg1 (up_set2 neg1 (up_set2 neg1 (up_set2 neg0 (hL.2.2.1 i hi).1))), up_set2 neg1 (up_set2 neg1 (up_set2 neg1 (up_set2 neg0 (hL.2.2.1 i hi).2)))⟩, up_set2 neg1 (up_set2 neg1 (up_set2 neg1 (up_set2 neg0 hL.2.2.2.1))), up_set2 neg1 (up_set2 neg1 (up_set2 neg1 (up_set2 neg0 hL.2.2.2.2)))⟩

end Go.Proofs.Ytiamgphpcjokmab
