/-
  What each function of package poly answers, and what the reference of its chapter answers: one contract a function, for every float: the answer stands in the relation of its formula to what was given; of the memory that was there nothing has turned.
-/
import Derived.Test.YtnedolgeghbliaaGreatVec
import Derived.Test.YtnedolgeghbliaaGreatMi
import Derived.Below
import Derived.OwnWalk
import Derived.Laws.AppendOwn
import Derived.Laws.AppendOwnNone
import Derived.Laws.StructEq
import Derived.WalkKit
import Derived.WalkLawsBesides
import Derived.WalkSpells
import Derived.ProofKit
import Derived.OpenShut
import Derived.Deep.RegionHeld3
namespace Go.Proofs.YtnedolgeghbliaaGreat
open Go.ChangeShapes Go.WideShapes Go.ChangeAt Go.RowKit
set_option linter.unusedVariables false
set_option linter.unusedSimpArgs false


theorem same8 (a b c d a' b' c' d' : Nat) (w : World) (h1 : smK .f64 a a' = true) (h2 : smK .f64 b b' = true) (h3 : smK .f64 c c' = true) (h4 : smK .f64 d d' = true) : Calls Tryz.prog 9 #[.agg #[.float .f64 a, .float .f64 b, .float .f64 c, .float .f64 d], .agg #[.float .f64 a', .float .f64 b', .float .f64 c', .float .f64 d']] w fun e w' => e = .returned (.bool true) ∧ Bel w w' := by
  go_enter Tryz.func9, Tryz.ntmps9
  go_wp2_with (first | (go_at_call 30; refine (rIs_any _ _ _).mono ?_; rintro e w' ⟨rfl, rfl⟩; (first | rw [h1] | rw [h2])) | (go_at_call 31; refine (rSame_any _ _ _ _ _).mono ?_; rintro e w' ⟨rfl, hb⟩; rw [h3, h4]))
  go_ret
  refine ⟨rfl, ?_⟩
  repeat (first | exact bl_refl _ | assumption | apply bl_drewN | apply bl_drew | apply bl_alloc | refine bl_set ?_ (by simp <;> omega) | refine bl_trans ?_ (by assumption))
/-- points that were lent: in memory of their own, with two marks behind -/
def Len2 (w : World) (g c n : Nat) (xs ys : Nat → Nat) : Prop := n + 2 ≤ c ∧ c ≤ maxLen ∧ Sl w g 0 n xs ys ∧ w.cell? ⟨g, n * 2, none⟩ = some (.float .f64 4635118810238550016) ∧ w.cell? ⟨g, n * 2 + 1, none⟩ = some (.float .f64 0) ∧ w.cell? ⟨g, (n + 1) * 2, none⟩ = some (.float .f64 4635189178982727680) ∧ w.cell? ⟨g, (n + 1) * 2 + 1, none⟩ = some (.float .f64 0)
theorem Len2.bel {w w' : World} {g c n : Nat} {xs ys : Nat → Nat} (h : Len2 w g c n xs ys) (b : Bel w w') : Len2 w' g c n xs ys := ⟨h.1, h.2.1, h.2.2.1.bel b, keep b h.2.2.2.1, keep b h.2.2.2.2.1, keep b h.2.2.2.2.2.1, keep b h.2.2.2.2.2.2⟩
theorem Len2.any {w : World} {g c n : Nat} {xs ys : Nat → Nat} (h : Len2 w g c n xs ys) (o : Oks xs ys n) (hr : n * 16 ≤ 140737488351232) : AnyS w (.slice (some ⟨g, 0, none⟩) n c) n xs ys := by
  refine ⟨_, _, rfl, by have := h.1; omega, by have := h.1; have := h.2.1; omega, hr, o, ?_⟩
  rcases Nat.eq_zero_or_pos n with e | e
  · exact .inl e
  · exact .inr ⟨e, g, 0, rfl, h.2.2.1⟩
theorem len2_fin {base : Nat} {w1 : World} {v : Value} {n : Nat} {xs ys : Nat → Nat} (h : Own base w1 v (lst xs ys n ++ [(4635118810238550016, 0), (4635189178982727680, 0)])) : ∃ g c, v = .slice (some ⟨g, 0, none⟩) (n + 2) c ∧ base ≤ g ∧ Len2 w1 g c n xs ys := by
  obtain ⟨g, c, e, h1, h2, h3, h4, _⟩ := h.get (by simp)
  have hl : (lst xs ys n ++ [(4635118810238550016, 0), (4635189178982727680, 0)]).length = n + 2 := by rw [List.length_append, lst_len]; rfl
  rw [hl] at e h2 h4
  have q0 := h4 n (by omega)
  have q1 := h4 (n + 1) (by omega)
  have e0 := px_app2 (lst xs ys n) [(4635118810238550016, 0), (4635189178982727680, 0)] 0
  have e1 := py_app2 (lst xs ys n) [(4635118810238550016, 0), (4635189178982727680, 0)] 0
  have e2 := px_app2 (lst xs ys n) [(4635118810238550016, 0), (4635189178982727680, 0)] 1
  have e3 := py_app2 (lst xs ys n) [(4635118810238550016, 0), (4635189178982727680, 0)] 1
  rw [lst_len, Nat.add_zero] at e0 e1
  rw [lst_len] at e2 e3
  rw [e0, e1, Nat.zero_add] at q0
  rw [e2, e3, Nat.zero_add] at q1
  refine ⟨g, c, e, h1, h2, h3, fun i hi => ?_, q0.1, q0.2, q1.1, q1.2⟩
  have := h4 i (by omega)
  rwa [px_app1 _ _ _ (by rw [lst_len]; exact hi), py_app1 _ _ _ (by rw [lst_len]; exact hi), lst_x _ _ _ i hi, lst_y _ _ _ i hi] at this
theorem own_e (base : Nat) (W : World) (hb : base ≤ W.heap.size) : Own base (W.alloc (.cells #[] 29)) (.slice (some ⟨W.heap.size, 0, none⟩) 0 0) [] := own_new (L := []) (cap := 0) hb (Nat.le_refl _) (by unfold maxLen; decide) rfl (fun j hj => by simp at hj)
theorem run_app0e (w : World) (ty c g : Nat) (a : Option Addr) : (Builtin.append_ #[23, 23] ty #[.slice (some ⟨g, 0, none⟩) 0 0, .slice a 0 c]).run Tryz.prog w = .ok (.slice (some ⟨g, 0, none⟩) 0 0) w := by
  obtain ⟨i0, hi, hz0, hz1, hz2⟩ := info_parts info_vec
  cases a <;> simp [Builtin.append_, run_underlying Tryz.underlying23, sizeOf, typeInfo, hi, Builtin.lenOf, Builtin.firstCells, loadCells, loadCellsFrom, storeCells]

set_option maxRecDepth 100000 in
set_option maxHeartbeats 4000000 in
theorem lent8 (V : Value) (n : Nat) (xs ys : Nat → Nat) (k : Int) (r : Nat) (w : World) (h : AnyS w V n xs ys) (h100 : n ≤ 100) : Calls Tryz.prog 6 #[.agg #[.int .u8 k, .float .f64 r, V]] w fun e w' => ∃ g c, e = .returned (.agg #[.int .u8 k, .float .f64 r, (.slice (some ⟨g, 0, none⟩) n c)]) ∧ w.heap.size ≤ g ∧ Len2 w' g c n xs ys ∧ Bel w w' := by
  obtain ⟨a, cap, rfl, h2, h3, h4, h5, h6⟩ := h
  rcases h6 with rfl | ⟨h0, b, off, rfl, hs⟩
  · skip
    have z0_0 : (w.alloc (.cells #[.int .u8 k, .float .f64 r, .slice a 0 cap] 25)).cell? ⟨w.heap.size, 0, none⟩ = some (.int .u8 k) := by rw [World.cell?_alloc_new]; rfl
    replace z0_0 := up_alloc (o := .cells #[.int .u8 0, .float .f64 0, .slice none 0 0] 25) z0_0
    have z0_1 : (w.alloc (.cells #[.int .u8 k, .float .f64 r, .slice a 0 cap] 25)).cell? ⟨w.heap.size, 1, none⟩ = some (.float .f64 r) := by rw [World.cell?_alloc_new]; rfl
    replace z0_1 := up_alloc (o := .cells #[.int .u8 0, .float .f64 0, .slice none 0 0] 25) z0_1
    have z0_2 : (w.alloc (.cells #[.int .u8 k, .float .f64 r, .slice a 0 cap] 25)).cell? ⟨w.heap.size, 2, none⟩ = some (.slice a 0 cap) := by rw [World.cell?_alloc_new]; rfl
    replace z0_2 := up_alloc (o := .cells #[.int .u8 0, .float .f64 0, .slice none 0 0] 25) z0_2
    have z1_0 : ((w.alloc (.cells #[.int .u8 k, .float .f64 r, .slice a 0 cap] 25)).alloc (.cells #[.int .u8 0, .float .f64 0, .slice none 0 0] 25)).cell? ⟨w.heap.size + 1, 0, none⟩ = some (.int .u8 0) := by rw [← (show (w.alloc (.cells #[.int .u8 k, .float .f64 r, .slice a 0 cap] 25)).heap.size = w.heap.size + 1 by simp only [World.size_alloc]), World.cell?_alloc_new]; rfl
    have z1_1 : ((w.alloc (.cells #[.int .u8 k, .float .f64 r, .slice a 0 cap] 25)).alloc (.cells #[.int .u8 0, .float .f64 0, .slice none 0 0] 25)).cell? ⟨w.heap.size + 1, 1, none⟩ = some (.float .f64 0) := by rw [← (show (w.alloc (.cells #[.int .u8 k, .float .f64 r, .slice a 0 cap] 25)).heap.size = w.heap.size + 1 by simp only [World.size_alloc]), World.cell?_alloc_new]; rfl
    have z1_2 : ((w.alloc (.cells #[.int .u8 k, .float .f64 r, .slice a 0 cap] 25)).alloc (.cells #[.int .u8 0, .float .f64 0, .slice none 0 0] 25)).cell? ⟨w.heap.size + 1, 2, none⟩ = some (.slice none 0 0) := by rw [← (show (w.alloc (.cells #[.int .u8 k, .float .f64 r, .slice a 0 cap] 25)).heap.size = w.heap.size + 1 by simp only [World.size_alloc]), World.cell?_alloc_new]; rfl
    have B0 : Bel w ((w.alloc (.cells #[.int .u8 k, .float .f64 r, .slice a 0 cap] 25)).alloc (.cells #[.int .u8 0, .float .f64 0, .slice none 0 0] 25)) := bl_alloc (bl_alloc (bl_refl w) _ _) _ _
    have own0 := own_e (w.heap.size + 1 + 1) ((w.alloc (.cells #[.int .u8 k, .float .f64 r, .slice a 0 cap] 25)).alloc (.cells #[.int .u8 0, .float .f64 0, .slice none 0 0] 25)) (by simp only [World.size_alloc]; omega)
    have e2 : (((w.alloc (.cells #[.int .u8 k, .float .f64 r, .slice a 0 cap] 25)).alloc (.cells #[.int .u8 0, .float .f64 0, .slice none 0 0] 25)).alloc (.cells #[] 29)).heap.size = w.heap.size + 1 + 1 + 1 := by simp only [World.size_alloc]
    have e1 : ((w.alloc (.cells #[.int .u8 k, .float .f64 r, .slice a 0 cap] 25)).alloc (.cells #[.int .u8 0, .float .f64 0, .slice none 0 0] 25)).heap.size = w.heap.size + 1 + 1 := by simp only [World.size_alloc]
    rw [e1] at own0
    have ls := mk_laid (((w.alloc (.cells #[.int .u8 k, .float .f64 r, .slice a 0 cap] 25)).alloc (.cells #[.int .u8 0, .float .f64 0, .slice none 0 0] 25)).alloc (.cells #[] 29))
    rw [e2] at ls
    have le2 : ((w.alloc (.cells #[.int .u8 k, .float .f64 r, .slice a 0 cap] 25)).alloc (.cells #[.int .u8 0, .float .f64 0, .slice none 0 0] 25)).heap.size ≤ w.heap.size + 1 + 1 := Nat.le_of_eq e1
    have ra := fun ty => run_app0e (((w.alloc (.cells #[.int .u8 k, .float .f64 r, .slice a 0 cap] 25)).alloc (.cells #[.int .u8 0, .float .f64 0, .slice none 0 0] 25)).alloc (.cells #[] 29)) ty cap (w.heap.size + 1 + 1) a
    go_enter Tryz.func6, Tryz.ntmps6
    go_wp2_with (first | (have zn := m1; clear zn; at_builtin; refine wpList_app (L := []) (M := [(4635118810238550016, 0), (4635189178982727680, 0)]) rfl _ _ rfl rfl _ 0 2 rfl (own0.bel (bl_alloc (bl_refl _) _ _)) ls (by decide) (by simp) (by decide) ?_; intro v1 w2 hO hb; have B := hb ((w.alloc (.cells #[.int .u8 k, .float .f64 r, .slice a 0 cap] 25)).alloc (.cells #[.int .u8 0, .float .f64 0, .slice none 0 0] 25)) (bl_alloc (bl_alloc (bl_refl _) _ _) _ _) le2; obtain ⟨g, c, rfl, hg, hL⟩ := len2_fin (xs := xs) (ys := ys) (n := 0) hO; have hsz := B.size; simp only [World.size_alloc] at hsz; have S0 := keep B z0_0; have S1 := keep B z0_1; have S2 := keep B z0_2; have R0 := keep B z1_0; have R1 := keep B z1_1; have R2 := keep B z1_2; have hc := hL.1; have hcm := hL.2.1; have Bw := bl_trans B0 B; have ZF := fun b o (hb : w.heap.size ≤ b) => (Bw.2 ⟨b, o, none⟩).trans (fresh_frozen hb); have Z0 := fun o => ZF w.heap.size o (Nat.le_refl _); have Z1 := fun o => ZF (w.heap.size + 1) o (Nat.le_succ _); have ne1 : w.heap.size ≠ w.heap.size + 1 := Nat.ne_of_lt (Nat.lt_succ_self _); replace S0 := (far_off (n := w.heap.size) (o := 2) (v := (.slice (some ⟨g, 0, none⟩) 0 c)) (by decide)).trans S0; replace S1 := (far_off (n := w.heap.size) (o := 2) (v := (.slice (some ⟨g, 0, none⟩) 0 c)) (by decide)).trans S1; have S3 : (w2.setCell ⟨w.heap.size, 2, none⟩ (.slice (some ⟨g, 0, none⟩) 0 c)).cell? ⟨w.heap.size, 2, none⟩ = some (.slice (some ⟨g, 0, none⟩) 0 c) := (by apply World.cell?_setCell_same; exact S2); replace R0 := up_set2 (o := 2) (x := (.slice (some ⟨g, 0, none⟩) 0 c)) ne1 R0; replace R1 := up_set2 (o := 2) (x := (.slice (some ⟨g, 0, none⟩) 0 c)) ne1 R1; replace R2 := up_set2 (o := 2) (x := (.slice (some ⟨g, 0, none⟩) 0 c)) ne1 R2) | (at_builtin; refine wpList_run (v := .slice (some ⟨w.heap.size + 1 + 1, 0, none⟩) 0 0) (u := .slice a 0 cap) (v' := .slice (some ⟨w.heap.size + 1 + 1, 0, none⟩) 0 0) (w' := (((w.alloc (.cells #[.int .u8 k, .float .f64 r, .slice a 0 cap] 25)).alloc (.cells #[.int .u8 0, .float .f64 0, .slice none 0 0] 25)).alloc (.cells #[] 29))) rfl _ _ rfl rfl rfl ra ?_; have m1 := hide True.intro) | go_in)
    obtain ⟨F0, F1, F2⟩ := set3 (p := .int .u8 k) (q := .float .f64 r) (r := (.slice (some ⟨g, 0, none⟩) 0 c)) R0 R1 R2
    have lr : w.heap.size ≤ w.heap.size + 1 := by omega
    have neg0 : w.heap.size ≠ g := by omega
    have neg1 : w.heap.size + 1 ≠ g := by omega
    refine bodyPost_ret (v := .agg #[.int .u8 k, .float .f64 r, (.slice (some ⟨g, 0, none⟩) 0 c)]) (by simp [F0, F1, F2, results, Tryz.results6, go_sem] <;> (first | exact ⟨rfl, rfl, rfl⟩ | rfl)) rfl ⟨g, c, rfl, by omega, ?_, bl_set (bl_set (bl_set (bl_set Bw (Nat.le_refl _)) lr) lr) lr⟩
    exact ⟨hL.1, hL.2.1, fun i hi => ⟨up_set2 neg1 (up_set2 neg1 (up_set2 neg1 (up_set2 neg0 ((hL.2.2.1 i hi).1)))), up_set2 neg1 (up_set2 neg1 (up_set2 neg1 (up_set2 neg0 ((hL.2.2.1 i hi).2))))⟩, up_set2 neg1 (up_set2 neg1 (up_set2 neg1 (up_set2 neg0 (hL.2.2.2.1)))), up_set2 neg1 (up_set2 neg1 (up_set2 neg1 (up_set2 neg0 (hL.2.2.2.2.1)))), up_set2 neg1 (up_set2 neg1 (up_set2 neg1 (up_set2 neg0 (hL.2.2.2.2.2.1)))), up_set2 neg1 (up_set2 neg1 (up_set2 neg1 (up_set2 neg0 (hL.2.2.2.2.2.2))))⟩
  · have sL : Sl w b off (lst xs ys n).length (px (lst xs ys n)) (py (lst xs ys n)) := by rw [lst_len]; exact hs.eq (fun i hi => (lst_x _ _ _ i hi).symm) (fun i hi => (lst_y _ _ _ i hi).symm)
    have z0_0 : (w.alloc (.cells #[.int .u8 k, .float .f64 r, .slice (some ⟨b, off, none⟩) n cap] 25)).cell? ⟨w.heap.size, 0, none⟩ = some (.int .u8 k) := by rw [World.cell?_alloc_new]; rfl
    replace z0_0 := up_alloc (o := .cells #[.int .u8 0, .float .f64 0, .slice none 0 0] 25) z0_0
    have z0_1 : (w.alloc (.cells #[.int .u8 k, .float .f64 r, .slice (some ⟨b, off, none⟩) n cap] 25)).cell? ⟨w.heap.size, 1, none⟩ = some (.float .f64 r) := by rw [World.cell?_alloc_new]; rfl
    replace z0_1 := up_alloc (o := .cells #[.int .u8 0, .float .f64 0, .slice none 0 0] 25) z0_1
    have z0_2 : (w.alloc (.cells #[.int .u8 k, .float .f64 r, .slice (some ⟨b, off, none⟩) n cap] 25)).cell? ⟨w.heap.size, 2, none⟩ = some (.slice (some ⟨b, off, none⟩) n cap) := by rw [World.cell?_alloc_new]; rfl
    replace z0_2 := up_alloc (o := .cells #[.int .u8 0, .float .f64 0, .slice none 0 0] 25) z0_2
    have z1_0 : ((w.alloc (.cells #[.int .u8 k, .float .f64 r, .slice (some ⟨b, off, none⟩) n cap] 25)).alloc (.cells #[.int .u8 0, .float .f64 0, .slice none 0 0] 25)).cell? ⟨w.heap.size + 1, 0, none⟩ = some (.int .u8 0) := by rw [← (show (w.alloc (.cells #[.int .u8 k, .float .f64 r, .slice (some ⟨b, off, none⟩) n cap] 25)).heap.size = w.heap.size + 1 by simp only [World.size_alloc]), World.cell?_alloc_new]; rfl
    have z1_1 : ((w.alloc (.cells #[.int .u8 k, .float .f64 r, .slice (some ⟨b, off, none⟩) n cap] 25)).alloc (.cells #[.int .u8 0, .float .f64 0, .slice none 0 0] 25)).cell? ⟨w.heap.size + 1, 1, none⟩ = some (.float .f64 0) := by rw [← (show (w.alloc (.cells #[.int .u8 k, .float .f64 r, .slice (some ⟨b, off, none⟩) n cap] 25)).heap.size = w.heap.size + 1 by simp only [World.size_alloc]), World.cell?_alloc_new]; rfl
    have z1_2 : ((w.alloc (.cells #[.int .u8 k, .float .f64 r, .slice (some ⟨b, off, none⟩) n cap] 25)).alloc (.cells #[.int .u8 0, .float .f64 0, .slice none 0 0] 25)).cell? ⟨w.heap.size + 1, 2, none⟩ = some (.slice none 0 0) := by rw [← (show (w.alloc (.cells #[.int .u8 k, .float .f64 r, .slice (some ⟨b, off, none⟩) n cap] 25)).heap.size = w.heap.size + 1 by simp only [World.size_alloc]), World.cell?_alloc_new]; rfl
    have B0 : Bel w ((w.alloc (.cells #[.int .u8 k, .float .f64 r, .slice (some ⟨b, off, none⟩) n cap] 25)).alloc (.cells #[.int .u8 0, .float .f64 0, .slice none 0 0] 25)) := bl_alloc (bl_alloc (bl_refl w) _ _) _ _
    have own0 := own_e (w.heap.size + 1 + 1) ((w.alloc (.cells #[.int .u8 k, .float .f64 r, .slice (some ⟨b, off, none⟩) n cap] 25)).alloc (.cells #[.int .u8 0, .float .f64 0, .slice none 0 0] 25)) (by simp only [World.size_alloc]; omega)
    have e2 : (((w.alloc (.cells #[.int .u8 k, .float .f64 r, .slice (some ⟨b, off, none⟩) n cap] 25)).alloc (.cells #[.int .u8 0, .float .f64 0, .slice none 0 0] 25)).alloc (.cells #[] 29)).heap.size = w.heap.size + 1 + 1 + 1 := by simp only [World.size_alloc]
    have e1 : ((w.alloc (.cells #[.int .u8 k, .float .f64 r, .slice (some ⟨b, off, none⟩) n cap] 25)).alloc (.cells #[.int .u8 0, .float .f64 0, .slice none 0 0] 25)).heap.size = w.heap.size + 1 + 1 := by simp only [World.size_alloc]
    rw [e1] at own0
    have le2 : ((w.alloc (.cells #[.int .u8 k, .float .f64 r, .slice (some ⟨b, off, none⟩) n cap] 25)).alloc (.cells #[.int .u8 0, .float .f64 0, .slice none 0 0] 25)).heap.size ≤ w.heap.size + 1 + 1 := Nat.le_of_eq e1
    have le3 : w.heap.size + 1 + 1 ≤ (((w.alloc (.cells #[.int .u8 k, .float .f64 r, .slice (some ⟨b, off, none⟩) n cap] 25)).alloc (.cells #[.int .u8 0, .float .f64 0, .slice none 0 0] 25)).alloc (.cells #[] 29)).heap.size := by rw [e2]; omega
    have hll := lst_len xs ys n
    have n1 : (n : Int) ≤ (n : Int) + 2 := by omega
    go_enter Tryz.func6, Tryz.ntmps6
    go_wp2_with (first | (have zn := m1; clear zn; at_builtin; refine wpList_app (L := lst xs ys n) (M := [(4635118810238550016, 0), (4635189178982727680, 0)]) rfl _ _ rfl rfl _ 0 2 rfl (hO.bel (bl_alloc (bl_refl w1) _ _)) (mk_laid w1) (by decide) (Nat.le_trans (Nat.le_of_eq e1.symm) (Nat.le_trans B1.size (by simp))) (by rw [lst_len]; simp; omega) ?_; intro v2 w2 hO2 hb2; have B := hb2 ((w.alloc (.cells #[.int .u8 k, .float .f64 r, .slice (some ⟨b, off, none⟩) n cap] 25)).alloc (.cells #[.int .u8 0, .float .f64 0, .slice none 0 0] 25)) (bl_alloc B1 _ _) le2; obtain ⟨g, c, rfl, hg, hL⟩ := len2_fin hO2; have hsz := B.size; simp only [World.size_alloc] at hsz; have S0 := keep B z0_0; have S1 := keep B z0_1; have S2 := keep B z0_2; have R0 := keep B z1_0; have R1 := keep B z1_1; have R2 := keep B z1_2; have hc := hL.1; have hcm := hL.2.1; have Bw := bl_trans B0 B; have ZF := fun b o (hb : w.heap.size ≤ b) => (Bw.2 ⟨b, o, none⟩).trans (fresh_frozen hb); have Z0 := fun o => ZF w.heap.size o (Nat.le_refl _); have Z1 := fun o => ZF (w.heap.size + 1) o (Nat.le_succ _); have ne1 : w.heap.size ≠ w.heap.size + 1 := Nat.ne_of_lt (Nat.lt_succ_self _); replace S0 := (far_off (n := w.heap.size) (o := 2) (v := (.slice (some ⟨g, 0, none⟩) n c)) (by decide)).trans S0; replace S1 := (far_off (n := w.heap.size) (o := 2) (v := (.slice (some ⟨g, 0, none⟩) n c)) (by decide)).trans S1; have S3 : (w2.setCell ⟨w.heap.size, 2, none⟩ (.slice (some ⟨g, 0, none⟩) n c)).cell? ⟨w.heap.size, 2, none⟩ = some (.slice (some ⟨g, 0, none⟩) n c) := (by apply World.cell?_setCell_same; exact S2); replace R0 := up_set2 (o := 2) (x := (.slice (some ⟨g, 0, none⟩) n c)) ne1 R0; replace R1 := up_set2 (o := 2) (x := (.slice (some ⟨g, 0, none⟩) n c)) ne1 R1; replace R2 := up_set2 (o := 2) (x := (.slice (some ⟨g, 0, none⟩) n c)) ne1 R2; have c1 : (n : Int) ≤ (c : Int) := (by omega)) | (at_builtin; refine wpList_app (L := []) (M := lst xs ys n) rfl _ _ rfl rfl b off cap (by rw [lst_len]; rfl) own0 (sL.bel (bl_alloc B0 _ _)) (by rw [lst_len]; exact h0) le3 (by rw [lst_len]; simp; omega) ?_; intro v1 w1 hO hb; have B1 : Bel ((w.alloc (.cells #[.int .u8 k, .float .f64 r, .slice (some ⟨b, off, none⟩) n cap] 25)).alloc (.cells #[.int .u8 0, .float .f64 0, .slice none 0 0] 25)) w1 := hb _ (bl_alloc (bl_refl _) _ _) le2; rw [List.nil_append] at hO; have S2 := keep B1 z0_2; have m1 := hide True.intro) | go_in)
    obtain ⟨F0, F1, F2⟩ := set3 (p := .int .u8 k) (q := .float .f64 r) (r := (.slice (some ⟨g, 0, none⟩) n c)) R0 R1 R2
    have lr : w.heap.size ≤ w.heap.size + 1 := by omega
    have neg0 : w.heap.size ≠ g := by omega
    have neg1 : w.heap.size + 1 ≠ g := by omega
    refine bodyPost_ret (v := .agg #[.int .u8 k, .float .f64 r, (.slice (some ⟨g, 0, none⟩) n c)]) (by simp [F0, F1, F2, results, Tryz.results6, go_sem] <;> (first | exact ⟨rfl, rfl, rfl⟩ | rfl)) rfl ⟨g, c, rfl, by omega, ?_, bl_set (bl_set (bl_set (bl_set Bw (Nat.le_refl _)) lr) lr) lr⟩
    exact ⟨hL.1, hL.2.1, fun i hi => ⟨up_set2 neg1 (up_set2 neg1 (up_set2 neg1 (up_set2 neg0 ((hL.2.2.1 i hi).1)))), up_set2 neg1 (up_set2 neg1 (up_set2 neg1 (up_set2 neg0 ((hL.2.2.1 i hi).2))))⟩, up_set2 neg1 (up_set2 neg1 (up_set2 neg1 (up_set2 neg0 (hL.2.2.2.1)))), up_set2 neg1 (up_set2 neg1 (up_set2 neg1 (up_set2 neg0 (hL.2.2.2.2.1)))), up_set2 neg1 (up_set2 neg1 (up_set2 neg1 (up_set2 neg0 (hL.2.2.2.2.2.1)))), up_set2 neg1 (up_set2 neg1 (up_set2 neg1 (up_set2 neg0 (hL.2.2.2.2.2.2))))⟩

end Go.Proofs.YtnedolgeghbliaaGreat
