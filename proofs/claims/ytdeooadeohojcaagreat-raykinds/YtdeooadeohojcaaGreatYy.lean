/-
  What each function of package poly answers, and what the reference of its chapter answers: one contract a function, for every float: the answer stands in the relation of its formula to what was given; of the memory that was there nothing has turned.
-/
import Derived.Deep.DeepCutAuto
import Derived.Test.YtdeooadeohojcaaGreatVec
import Derived.Test.YtdeooadeohojcaaGreatYx
import Derived.Test.YtdeooadeohojcaaGreatYt
import Derived.Test.YtdeooadeohojcaaGreatYv
import Derived.Test.YtdeooadeohojcaaGreatYw
import Derived.Test.YtdeooadeohojcaaGreatYh
import Derived.Below
import Derived.WalkKit
import Derived.WalkLawsBesides
import Derived.WalkSpells
import Derived.ProofKit
import Derived.OpenShut
import Derived.Deep.RegionHeld3
namespace Go.Proofs.YtdeooadeohojcaaGreat
open Go.ChangeShapes Go.WideShapes Go.ChangeAt Go.RowKit
set_option linter.unusedVariables false
set_option linter.unusedSimpArgs false


theorem bxYy0 (w : World) (ax ay bx b_y fx fy wx wy : Nat) (W : World) (hW : W = ((((w.alloc (.cells #[.float .f64 ax, .float .f64 ay] 24)).alloc (.cells #[.float .f64 bx, .float .f64 b_y] 24)).alloc (.cells #[.float .f64 fx, .float .f64 fy] 24)).alloc (.cells #[.float .f64 wx, .float .f64 wy] 24))) : W.cell? ⟨w.heap.size, 0, none⟩ = some (.float .f64 ax) ∧ W.cell? ⟨w.heap.size, 1, none⟩ = some (.float .f64 ay) ∧ W.cell? ⟨w.heap.size + 1, 0, none⟩ = some (.float .f64 bx) ∧ W.cell? ⟨w.heap.size + 1, 1, none⟩ = some (.float .f64 b_y) ∧ W.cell? ⟨w.heap.size + 1 + 1, 0, none⟩ = some (.float .f64 fx) ∧ W.cell? ⟨w.heap.size + 1 + 1, 1, none⟩ = some (.float .f64 fy) ∧ W.cell? ⟨w.heap.size + 1 + 1 + 1, 0, none⟩ = some (.float .f64 wx) ∧ W.cell? ⟨w.heap.size + 1 + 1 + 1, 1, none⟩ = some (.float .f64 wy) ∧ Bel w W := by
  have z0_0 : (w.alloc (.cells #[.float .f64 ax, .float .f64 ay] 24)).cell? ⟨w.heap.size, 0, none⟩ = some (.float .f64 ax) := by rw [World.cell?_alloc_new]; rfl
  replace z0_0 := up_alloc (o := .cells #[.float .f64 bx, .float .f64 b_y] 24) z0_0
  replace z0_0 := up_alloc (o := .cells #[.float .f64 fx, .float .f64 fy] 24) z0_0
  replace z0_0 := up_alloc (o := .cells #[.float .f64 wx, .float .f64 wy] 24) z0_0
  have z0_1 : (w.alloc (.cells #[.float .f64 ax, .float .f64 ay] 24)).cell? ⟨w.heap.size, 1, none⟩ = some (.float .f64 ay) := by rw [World.cell?_alloc_new]; rfl
  replace z0_1 := up_alloc (o := .cells #[.float .f64 bx, .float .f64 b_y] 24) z0_1
  replace z0_1 := up_alloc (o := .cells #[.float .f64 fx, .float .f64 fy] 24) z0_1
  replace z0_1 := up_alloc (o := .cells #[.float .f64 wx, .float .f64 wy] 24) z0_1
  have z1_0 : ((w.alloc (.cells #[.float .f64 ax, .float .f64 ay] 24)).alloc (.cells #[.float .f64 bx, .float .f64 b_y] 24)).cell? ⟨w.heap.size + 1, 0, none⟩ = some (.float .f64 bx) := by rw [← (show (w.alloc (.cells #[.float .f64 ax, .float .f64 ay] 24)).heap.size = w.heap.size + 1 by simp only [World.size_alloc]), World.cell?_alloc_new]; rfl
  replace z1_0 := up_alloc (o := .cells #[.float .f64 fx, .float .f64 fy] 24) z1_0
  replace z1_0 := up_alloc (o := .cells #[.float .f64 wx, .float .f64 wy] 24) z1_0
  have z1_1 : ((w.alloc (.cells #[.float .f64 ax, .float .f64 ay] 24)).alloc (.cells #[.float .f64 bx, .float .f64 b_y] 24)).cell? ⟨w.heap.size + 1, 1, none⟩ = some (.float .f64 b_y) := by rw [← (show (w.alloc (.cells #[.float .f64 ax, .float .f64 ay] 24)).heap.size = w.heap.size + 1 by simp only [World.size_alloc]), World.cell?_alloc_new]; rfl
  replace z1_1 := up_alloc (o := .cells #[.float .f64 fx, .float .f64 fy] 24) z1_1
  replace z1_1 := up_alloc (o := .cells #[.float .f64 wx, .float .f64 wy] 24) z1_1
  have z2_0 : (((w.alloc (.cells #[.float .f64 ax, .float .f64 ay] 24)).alloc (.cells #[.float .f64 bx, .float .f64 b_y] 24)).alloc (.cells #[.float .f64 fx, .float .f64 fy] 24)).cell? ⟨w.heap.size + 1 + 1, 0, none⟩ = some (.float .f64 fx) := by rw [← (show ((w.alloc (.cells #[.float .f64 ax, .float .f64 ay] 24)).alloc (.cells #[.float .f64 bx, .float .f64 b_y] 24)).heap.size = w.heap.size + 1 + 1 by simp only [World.size_alloc]), World.cell?_alloc_new]; rfl
  replace z2_0 := up_alloc (o := .cells #[.float .f64 wx, .float .f64 wy] 24) z2_0
  have z2_1 : (((w.alloc (.cells #[.float .f64 ax, .float .f64 ay] 24)).alloc (.cells #[.float .f64 bx, .float .f64 b_y] 24)).alloc (.cells #[.float .f64 fx, .float .f64 fy] 24)).cell? ⟨w.heap.size + 1 + 1, 1, none⟩ = some (.float .f64 fy) := by rw [← (show ((w.alloc (.cells #[.float .f64 ax, .float .f64 ay] 24)).alloc (.cells #[.float .f64 bx, .float .f64 b_y] 24)).heap.size = w.heap.size + 1 + 1 by simp only [World.size_alloc]), World.cell?_alloc_new]; rfl
  replace z2_1 := up_alloc (o := .cells #[.float .f64 wx, .float .f64 wy] 24) z2_1
  have z3_0 : ((((w.alloc (.cells #[.float .f64 ax, .float .f64 ay] 24)).alloc (.cells #[.float .f64 bx, .float .f64 b_y] 24)).alloc (.cells #[.float .f64 fx, .float .f64 fy] 24)).alloc (.cells #[.float .f64 wx, .float .f64 wy] 24)).cell? ⟨w.heap.size + 1 + 1 + 1, 0, none⟩ = some (.float .f64 wx) := by rw [← (show (((w.alloc (.cells #[.float .f64 ax, .float .f64 ay] 24)).alloc (.cells #[.float .f64 bx, .float .f64 b_y] 24)).alloc (.cells #[.float .f64 fx, .float .f64 fy] 24)).heap.size = w.heap.size + 1 + 1 + 1 by simp only [World.size_alloc]), World.cell?_alloc_new]; rfl
  have z3_1 : ((((w.alloc (.cells #[.float .f64 ax, .float .f64 ay] 24)).alloc (.cells #[.float .f64 bx, .float .f64 b_y] 24)).alloc (.cells #[.float .f64 fx, .float .f64 fy] 24)).alloc (.cells #[.float .f64 wx, .float .f64 wy] 24)).cell? ⟨w.heap.size + 1 + 1 + 1, 1, none⟩ = some (.float .f64 wy) := by rw [← (show (((w.alloc (.cells #[.float .f64 ax, .float .f64 ay] 24)).alloc (.cells #[.float .f64 bx, .float .f64 b_y] 24)).alloc (.cells #[.float .f64 fx, .float .f64 fy] 24)).heap.size = w.heap.size + 1 + 1 + 1 by simp only [World.size_alloc]), World.cell?_alloc_new]; rfl
  have B0 : Bel w ((((w.alloc (.cells #[.float .f64 ax, .float .f64 ay] 24)).alloc (.cells #[.float .f64 bx, .float .f64 b_y] 24)).alloc (.cells #[.float .f64 fx, .float .f64 fy] 24)).alloc (.cells #[.float .f64 wx, .float .f64 wy] 24)) := bl_alloc (bl_alloc (bl_alloc (bl_alloc (bl_refl w) _ _) _ _) _ _) _ _
  subst hW
  exact ⟨z0_0, z0_1, z1_0, z1_1, z2_0, z2_1, z3_0, z3_1, B0⟩

theorem sameV_0 (g c : Nat) (a : Option Addr) (cap : Nat) (w : World) : Calls Tryz.prog 13 #[.slice (some ⟨g, 0, none⟩) 0 c, .slice a 0 cap] w fun e w' => e = .returned (.bool true) ∧ Bel w w' := by
  go_enter Tryz.func13, Tryz.ntmps13
  go_wp2
  go_loopg [5] 0 (fun kx s5 wr => s5 = .int .i64 0 ∧ Bel w wr)
  case atStart => exact ⟨rfl, bl_refl _⟩
  case round =>
    obtain ⟨rfl, hW⟩ := hrel
    go_wp2
    go_ret
    exact ⟨rfl, hW⟩

theorem mark_fin {w w1 : World} {v : Value} {n : Nat} {xs ys : Nat → Nat} (h : Own w.heap.size w1 v (lst xs ys n ++ [(4635118810238550016, 0)])) : ∃ g c, v = .slice (some ⟨g, 0, none⟩) (n + 1) c ∧ w.heap.size ≤ g ∧ n + 1 ≤ c ∧ c ≤ maxLen ∧ Sl w1 g 0 n xs ys ∧ w1.cell? ⟨g, n * 2, none⟩ = some (.float .f64 4635118810238550016) := by
  obtain ⟨g, c, e, h1, h2, h3, h4, _⟩ := h.get (by simp)
  have hl : (lst xs ys n ++ [(4635118810238550016, 0)]).length = n + 1 := by rw [List.length_append, lst_len]; rfl
  rw [hl] at e h2 h4
  refine ⟨g, c, e, h1, h2, h3, fun i hi => ?_, ?_⟩
  · have := h4 i (by omega)
    rwa [px_app1 _ _ _ (by rw [lst_len]; exact hi), py_app1 _ _ _ (by rw [lst_len]; exact hi), lst_x _ _ _ i hi, lst_y _ _ _ i hi] at this
  · have := (h4 n (by omega)).1
    have e1 := px_app2 (lst xs ys n) [(4635118810238550016, 0)] 0
    rw [lst_len, Nat.add_zero] at e1
    rw [e1, Nat.zero_add] at this
    exact this
theorem putN_frozen {R : Nat} {v : Value} {W : World} {a : Addr} : ∀ n, (putN R n v W).frozen? a = W.frozen? a
  | 0 => rfl
  | n + 1 => (World.frozen?_setCell _ _ _ _).trans (putN_frozen n)
theorem any_once {w W : World} {R k g n c : Nat} {Rl : Value → Prop} {xs ys : Nat → Nat} (h : Once w (putN R k) Rl W) (s : Sl w g 0 n xs ys) (o : Oks xs ys n) (hc : n ≤ c) (hml : n ≤ maxLen) (hby : n * 16 ≤ 140737488351232) (hp : 0 < n) (hne : g ≠ R) : AnyS W (.slice (some ⟨g, 0, none⟩) n c) n xs ys :=
  ⟨_, _, rfl, hc, hml, hby, o, .inr ⟨hp, g, 0, rfl, fun i hi => ⟨once_keepN h (s i hi).1 hne, once_keepN h (s i hi).2 hne⟩⟩⟩
set_option maxRecDepth 100000 in
set_option maxHeartbeats 16000000 in
theorem walk_some (ax ay : Nat) (bx b_y : Nat) (r : Nat) (b off n cap : Nat) (xs ys : Nat → Nat) (fx fy wx wy : Nat) {A B F Y : Vp} {R : Nat} (ha : isP ax ay A) (hB : isP bx b_y B) (hr : isF r R) (hf : isP fx fy F) (hw : isP wx wy Y) (w : World) (hp0 : 0 < n) (hs : Sl w b off n xs ys) (oS : Oks xs ys n) (hcap : n ≤ cap) (hml : n ≤ maxLen) (hby : n * 16 ≤ 140737488351232) :
    Calls Tryz.prog 3 #[.agg #[.float .f64 ax, .float .f64 ay], .agg #[.float .f64 bx, .float .f64 b_y], .float .f64 r, .slice (some ⟨b, off, none⟩) n cap, .agg #[.float .f64 fx, .float .f64 fy], .agg #[.float .f64 wx, .float .f64 wy]] w fun e w' => e = .returned (.bool true) ∧ Bel w w' := by
  have sL : Sl w b off (lst xs ys n).length (px (lst xs ys n)) (py (lst xs ys n)) := by rw [lst_len]; exact hs.eq (fun i hi => (lst_x _ _ _ i hi).symm) (fun i hi => (lst_y _ _ _ i hi).symm)
  have lb := hs.lt hp0
  have hll := lst_len xs ys n
  have q0 := cmp_eq .f64
  have q1 := fun (x y : Nat) (w : World) => run_equalIn_float Tryz.prog w 22 .f64 x y Tryz.underlying22
  have q3 := fun (d x y : Nat) (w : World) => run_equalIn_fl Tryz.prog w d 22 .f64 x y Tryz.underlying22
  have q4 := fun (x y : Nat) (w : World) => run_equalIn_fl Tryz.prog w 9997 22 .f64 x y Tryz.underlying22
  have q5 := fun (x y : Nat) (w : World) => run_equalIn_fl Tryz.prog w 9996 22 .f64 x y Tryz.underlying22
  have q6 := fun (x y : Nat) (w : World) => run_equalIn_fl Tryz.prog w 9998 22 .f64 x y Tryz.underlying22
  have e0 : eqK .f64 4635118810238550016 4635118810238550016 = true := by decide +kernel
  obtain ⟨z0_0, z0_1, z1_0, z1_1, z2_0, z2_1, z3_0, z3_1, B0⟩ := bxYy0 w ax ay bx b_y fx fy wx wy _ rfl
  have Bc := B0
  clear B0
  go_enter Tryz.func3, Tryz.ntmps3
  go_upto_region 10 with (first | (go_at_call 5; (with_reducible refine (awake12 _).mono ?_); rintro e w1 ⟨rfl, hb⟩; replace z0_0 := keep hb z0_0; replace z0_1 := keep hb z0_1; replace z1_0 := keep hb z1_0; replace z1_1 := keep hb z1_1; replace z2_0 := keep hb z2_0; replace z2_1 := keep hb z2_1; replace z3_0 := keep hb z3_0; replace z3_1 := keep hb z3_1; replace Bc := bl_trans Bc hb; have s1 := hb.size; simp only [World.size_alloc] at s1; clear hb; have own0 := Own.nil w1.heap.size w1; have sL1 := sL.bel Bc) | (have zn := m1; clear zn; at_builtin; refine wpList_app (L := lst xs ys n) (M := [(4635118810238550016, 0)]) rfl _ _ rfl rfl _ 0 1 rfl (hO.bel (bl_alloc (bl_refl w2) _ _)) (one_sl w2 (4635118810238550016, 0)) (by decide) (Nat.le_trans B1.size (by simp)) (by rw [lst_len]; simp; omega) ?_; intro v3 w3 hO3 hb3; have B3 := hb3 w1 (bl_alloc B1 _ _) (Nat.le_refl _); replace z0_0 := keep B3 z0_0; replace z0_1 := keep B3 z0_1; replace z1_0 := keep B3 z1_0; replace z1_1 := keep B3 z1_1; replace z2_0 := keep B3 z2_0; replace z2_1 := keep B3 z2_1; replace z3_0 := keep B3 z3_0; replace z3_1 := keep B3 z3_1; replace Bc := bl_trans Bc B3; have s13 := B3.size; obtain ⟨gM, cM, hv3, hgM, hcM, hcX, sM, k77⟩ := mark_fin hO3; subst hv3; have lM := World.block_lt_of_cell? _ _ k77; simp only at lM; have sB := hs.bel Bc; have hcz : (n : Int) ≤ (cM : Int) := (by omega); clear m1 hO3) | (at_builtin; refine wpList_app (L := []) (M := lst xs ys n) rfl _ _ rfl rfl b off cap (by rw [lst_len]; rfl) own0 sL1 (by rw [lst_len]; exact hp0) (Nat.le_refl _) (by rw [lst_len]; simp; omega) ?_; intro v2 w2 hO hb; have B1 := hb w1 (bl_refl w1) (Nat.le_refl _); rw [List.nil_append] at hO; have m1 := hide True.intro) | (go_at_call 6; (with_reducible refine (circle_n _ ha hr hf hw).mono ?_); rintro e w4 ⟨p0, p1, p2, p3, p4, hH1, rfl, hb⟩; replace z0_0 := keep hb z0_0; replace z0_1 := keep hb z0_1; replace z1_0 := keep hb z1_0; replace z1_1 := keep hb z1_1; replace z2_0 := keep hb z2_0; replace z2_1 := keep hb z2_1; replace z3_0 := keep hb z3_0; replace z3_1 := keep hb z3_1; replace Bc := bl_trans Bc hb; replace sM := sM.bel hb; replace sB := sB.bel hb; replace k77 := keep hb k77; have l34 := hb.size; clear hb; replace z0_0 := up_alloc (o := .cells #[.float .f64 p0, .float .f64 p1, .float .f64 p2, .float .f64 p3, .float .f64 p4] 28) z0_0; replace z0_1 := up_alloc (o := .cells #[.float .f64 p0, .float .f64 p1, .float .f64 p2, .float .f64 p3, .float .f64 p4] 28) z0_1; replace z1_0 := up_alloc (o := .cells #[.float .f64 p0, .float .f64 p1, .float .f64 p2, .float .f64 p3, .float .f64 p4] 28) z1_0; replace z1_1 := up_alloc (o := .cells #[.float .f64 p0, .float .f64 p1, .float .f64 p2, .float .f64 p3, .float .f64 p4] 28) z1_1; replace z2_0 := up_alloc (o := .cells #[.float .f64 p0, .float .f64 p1, .float .f64 p2, .float .f64 p3, .float .f64 p4] 28) z2_0; replace z2_1 := up_alloc (o := .cells #[.float .f64 p0, .float .f64 p1, .float .f64 p2, .float .f64 p3, .float .f64 p4] 28) z2_1; replace z3_0 := up_alloc (o := .cells #[.float .f64 p0, .float .f64 p1, .float .f64 p2, .float .f64 p3, .float .f64 p4] 28) z3_0; replace z3_1 := up_alloc (o := .cells #[.float .f64 p0, .float .f64 p1, .float .f64 p2, .float .f64 p3, .float .f64 p4] 28) z3_1; replace Bc := bl_alloc Bc #[.float .f64 p0, .float .f64 p1, .float .f64 p2, .float .f64 p3, .float .f64 p4] 28; replace sM := sM.bel (bl_alloc (bl_refl _) #[.float .f64 p0, .float .f64 p1, .float .f64 p2, .float .f64 p3, .float .f64 p4] 28); replace sB := sB.bel (bl_alloc (bl_refl _) #[.float .f64 p0, .float .f64 p1, .float .f64 p2, .float .f64 p3, .float .f64 p4] 28); replace k77 := up_alloc (o := .cells #[.float .f64 p0, .float .f64 p1, .float .f64 p2, .float .f64 p3, .float .f64 p4] 28) k77; obtain ⟨h0, h1, h2, h3, h4⟩ := new5' w4 28 (.float .f64 p0) (.float .f64 p1) (.float .f64 p2) (.float .f64 p3) (.float .f64 p4); have fh : ∀ o, (w4.alloc (.cells #[.float .f64 p0, .float .f64 p1, .float .f64 p2, .float .f64 p3, .float .f64 p4] 28)).frozen? ⟨w4.heap.size, o, none⟩ = false := fun o => ((bl_alloc (bl_refl w4) #[.float .f64 p0, .float .f64 p1, .float .f64 p2, .float .f64 p3, .float .f64 p4] 28).2 _).trans (fresh_frozen (Nat.le_refl _))) | (go_at_call 7; (with_reducible refine (rcircle_n _ ha hr hf hw).mono ?_); rintro e w5 ⟨q0, q1, q2, q3, q4, hH2, rfl, hb⟩; replace fh : ∀ o, w5.frozen? ⟨w4.heap.size, o, none⟩ = false := (fun o => (hb.2 _).trans (fh o)); replace z0_0 := keep hb z0_0; replace z0_1 := keep hb z0_1; replace z1_0 := keep hb z1_0; replace z1_1 := keep hb z1_1; replace z2_0 := keep hb z2_0; replace z2_1 := keep hb z2_1; replace z3_0 := keep hb z3_0; replace z3_1 := keep hb z3_1; replace h0 := keep hb h0; replace h1 := keep hb h1; replace h2 := keep hb h2; replace h3 := keep hb h3; replace h4 := keep hb h4; replace Bc := bl_trans Bc hb; replace sM := sM.bel hb; replace sB := sB.bel hb; replace k77 := keep hb k77; have l45 := hb.size; rw [World.size_alloc] at l45; clear hb; replace z0_0 := up_alloc (o := .cells #[.float .f64 q0, .float .f64 q1, .float .f64 q2, .float .f64 q3, .float .f64 q4] 28) z0_0; replace z0_1 := up_alloc (o := .cells #[.float .f64 q0, .float .f64 q1, .float .f64 q2, .float .f64 q3, .float .f64 q4] 28) z0_1; replace z1_0 := up_alloc (o := .cells #[.float .f64 q0, .float .f64 q1, .float .f64 q2, .float .f64 q3, .float .f64 q4] 28) z1_0; replace z1_1 := up_alloc (o := .cells #[.float .f64 q0, .float .f64 q1, .float .f64 q2, .float .f64 q3, .float .f64 q4] 28) z1_1; replace z2_0 := up_alloc (o := .cells #[.float .f64 q0, .float .f64 q1, .float .f64 q2, .float .f64 q3, .float .f64 q4] 28) z2_0; replace z2_1 := up_alloc (o := .cells #[.float .f64 q0, .float .f64 q1, .float .f64 q2, .float .f64 q3, .float .f64 q4] 28) z2_1; replace z3_0 := up_alloc (o := .cells #[.float .f64 q0, .float .f64 q1, .float .f64 q2, .float .f64 q3, .float .f64 q4] 28) z3_0; replace z3_1 := up_alloc (o := .cells #[.float .f64 q0, .float .f64 q1, .float .f64 q2, .float .f64 q3, .float .f64 q4] 28) z3_1; replace h0 := up_alloc (o := .cells #[.float .f64 q0, .float .f64 q1, .float .f64 q2, .float .f64 q3, .float .f64 q4] 28) h0; replace h1 := up_alloc (o := .cells #[.float .f64 q0, .float .f64 q1, .float .f64 q2, .float .f64 q3, .float .f64 q4] 28) h1; replace h2 := up_alloc (o := .cells #[.float .f64 q0, .float .f64 q1, .float .f64 q2, .float .f64 q3, .float .f64 q4] 28) h2; replace h3 := up_alloc (o := .cells #[.float .f64 q0, .float .f64 q1, .float .f64 q2, .float .f64 q3, .float .f64 q4] 28) h3; replace h4 := up_alloc (o := .cells #[.float .f64 q0, .float .f64 q1, .float .f64 q2, .float .f64 q3, .float .f64 q4] 28) h4; replace Bc := bl_alloc Bc #[.float .f64 q0, .float .f64 q1, .float .f64 q2, .float .f64 q3, .float .f64 q4] 28; replace sM := sM.bel (bl_alloc (bl_refl _) #[.float .f64 q0, .float .f64 q1, .float .f64 q2, .float .f64 q3, .float .f64 q4] 28); replace sB := sB.bel (bl_alloc (bl_refl _) #[.float .f64 q0, .float .f64 q1, .float .f64 q2, .float .f64 q3, .float .f64 q4] 28); replace k77 := up_alloc (o := .cells #[.float .f64 q0, .float .f64 q1, .float .f64 q2, .float .f64 q3, .float .f64 q4] 28) k77; replace fh : ∀ o, (w5.alloc (.cells #[.float .f64 q0, .float .f64 q1, .float .f64 q2, .float .f64 q3, .float .f64 q4] 28)).frozen? ⟨w4.heap.size, o, none⟩ = false := (fun o => ((bl_alloc (bl_refl w5) #[.float .f64 q0, .float .f64 q1, .float .f64 q2, .float .f64 q3, .float .f64 q4] 28).2 _).trans (fh o)); obtain ⟨g0, g1, g2, g3, g4⟩ := new5' w5 28 (.float .f64 q0) (.float .f64 q1) (.float .f64 q2) (.float .f64 q3) (.float .f64 q4); have fg : ∀ o, (w5.alloc (.cells #[.float .f64 q0, .float .f64 q1, .float .f64 q2, .float .f64 q3, .float .f64 q4] 28)).frozen? ⟨w5.heap.size, o, none⟩ = false := fun o => ((bl_alloc (bl_refl w5) #[.float .f64 q0, .float .f64 q1, .float .f64 q2, .float .f64 q3, .float .f64 q4] 28).2 _).trans (fresh_frozen (Nat.le_refl _))) | (go_at_call 8; (with_reducible refine (same12_n _ hH1 hH2 _ _).mono ?_); rintro e w6 ⟨rfl, hb⟩; replace fh : ∀ o, w6.frozen? ⟨w4.heap.size, o, none⟩ = false := (fun o => (hb.2 _).trans (fh o)); replace fg : ∀ o, w6.frozen? ⟨w5.heap.size, o, none⟩ = false := (fun o => (hb.2 _).trans (fg o)); replace z0_0 := keep hb z0_0; replace z0_1 := keep hb z0_1; replace z1_0 := keep hb z1_0; replace z1_1 := keep hb z1_1; replace z2_0 := keep hb z2_0; replace z2_1 := keep hb z2_1; replace z3_0 := keep hb z3_0; replace z3_1 := keep hb z3_1; replace h0 := keep hb h0; replace h1 := keep hb h1; replace h2 := keep hb h2; replace h3 := keep hb h3; replace h4 := keep hb h4; replace g0 := keep hb g0; replace g1 := keep hb g1; replace g2 := keep hb g2; replace g3 := keep hb g3; replace g4 := keep hb g4; replace k77 := keep hb k77; replace Bc := bl_trans Bc hb; replace sM := sM.bel hb; replace sB := sB.bel hb; clear hb))
  have hcM2 : n ≤ cM := by omega
  go_upto_region 11 with (first | (go_at_call 9; (with_reducible refine (segment_n _ ha hB hf hw).mono ?_); rintro e w7 ⟨r0, r1, r2, r3, r4, hH3, rfl, hb⟩; replace fh : ∀ o, w7.frozen? ⟨w4.heap.size, o, none⟩ = false := (fun o => (hb.2 _).trans (fh o)); replace fg : ∀ o, w7.frozen? ⟨w5.heap.size, o, none⟩ = false := (fun o => (hb.2 _).trans (fg o)); replace z0_0 := keep hb z0_0; replace z0_1 := keep hb z0_1; replace z1_0 := keep hb z1_0; replace z1_1 := keep hb z1_1; replace z2_0 := keep hb z2_0; replace z2_1 := keep hb z2_1; replace z3_0 := keep hb z3_0; replace z3_1 := keep hb z3_1; replace h0 := keep hb h0; replace h1 := keep hb h1; replace h2 := keep hb h2; replace h3 := keep hb h3; replace h4 := keep hb h4; replace g0 := keep hb g0; replace g1 := keep hb g1; replace g2 := keep hb g2; replace g3 := keep hb g3; replace g4 := keep hb g4; replace k77 := keep hb k77; replace Bc := bl_trans Bc hb; replace sM := sM.bel hb; replace sB := sB.bel hb; clear hb))
  obtain ⟨X7, hX, u0, u1, u2, u3, u4, mo, bX⟩ := put5_all (p := .float .f64 r0) (q := .float .f64 r1) (r := .float .f64 r2) (s := .float .f64 r3) (t := .float .f64 r4) h0 h1 h2 h3 h4
  rw [← hX]
  have fQ : ∀ a, X7.frozen? a = w7.frozen? a := fun a => by rw [hX]; simp only [World.frozen?_setCell]
  replace z0_0 := (mo _ _ (.inl (by omega))).trans z0_0; replace z0_1 := (mo _ _ (.inl (by omega))).trans z0_1; replace z1_0 := (mo _ _ (.inl (by omega))).trans z1_0; replace z1_1 := (mo _ _ (.inl (by omega))).trans z1_1; replace z2_0 := (mo _ _ (.inl (by omega))).trans z2_0; replace z2_1 := (mo _ _ (.inl (by omega))).trans z2_1; replace z3_0 := (mo _ _ (.inl (by omega))).trans z3_0; replace z3_1 := (mo _ _ (.inl (by omega))).trans z3_1; replace g0 := (mo _ _ (.inl (by omega))).trans g0; replace g1 := (mo _ _ (.inl (by omega))).trans g1; replace g2 := (mo _ _ (.inl (by omega))).trans g2; replace g3 := (mo _ _ (.inl (by omega))).trans g3; replace g4 := (mo _ _ (.inl (by omega))).trans g4; replace k77 := (mo _ _ (.inl (by omega))).trans k77
  replace Bc := bX _ Bc (by omega)
  replace sM : Sl X7 gM 0 n xs ys := fun i hi => ⟨(mo _ _ (.inl (by omega))).trans (sM i hi).1, (mo _ _ (.inl (by omega))).trans (sM i hi).2⟩
  replace sB : Sl X7 b off n xs ys := fun i hi => ⟨(mo _ _ (.inl (by omega))).trans (sB i hi).1, (mo _ _ (.inl (by omega))).trans (sB i hi).2⟩
  replace fh : ∀ o, X7.frozen? ⟨w4.heap.size, o, none⟩ = false := fun o => (fQ _).trans (fh o)
  replace fg : ∀ o, X7.frozen? ⟨w5.heap.size, o, none⟩ = false := fun o => (fQ _).trans (fg o)
  replace h0 := u0; replace h1 := u1; replace h2 := u2; replace h3 := u3; replace h4 := u4
  clear hX u0 u1 u2 u3 u4 mo bX fQ
  go_upto_region 12 with (first | (go_at_call 10; (with_reducible refine (rsegment_n _ ha hB hf hw).mono ?_); rintro e w8 ⟨s0, s1, s2, s3, s4, hH4, rfl, hb⟩; replace fh : ∀ o, w8.frozen? ⟨w4.heap.size, o, none⟩ = false := (fun o => (hb.2 _).trans (fh o)); replace fg : ∀ o, w8.frozen? ⟨w5.heap.size, o, none⟩ = false := (fun o => (hb.2 _).trans (fg o)); replace z0_0 := keep hb z0_0; replace z0_1 := keep hb z0_1; replace z1_0 := keep hb z1_0; replace z1_1 := keep hb z1_1; replace z2_0 := keep hb z2_0; replace z2_1 := keep hb z2_1; replace z3_0 := keep hb z3_0; replace z3_1 := keep hb z3_1; replace h0 := keep hb h0; replace h1 := keep hb h1; replace h2 := keep hb h2; replace h3 := keep hb h3; replace h4 := keep hb h4; replace g0 := keep hb g0; replace g1 := keep hb g1; replace g2 := keep hb g2; replace g3 := keep hb g3; replace g4 := keep hb g4; replace k77 := keep hb k77; replace Bc := bl_trans Bc hb; replace sM := sM.bel hb; replace sB := sB.bel hb; clear hb))
  obtain ⟨X8, hX, u0, u1, u2, u3, u4, mo, bX⟩ := put5_all (p := .float .f64 s0) (q := .float .f64 s1) (r := .float .f64 s2) (s := .float .f64 s3) (t := .float .f64 s4) g0 g1 g2 g3 g4
  rw [← hX]
  have fQ : ∀ a, X8.frozen? a = w8.frozen? a := fun a => by rw [hX]; simp only [World.frozen?_setCell]
  replace z0_0 := (mo _ _ (.inl (by omega))).trans z0_0; replace z0_1 := (mo _ _ (.inl (by omega))).trans z0_1; replace z1_0 := (mo _ _ (.inl (by omega))).trans z1_0; replace z1_1 := (mo _ _ (.inl (by omega))).trans z1_1; replace z2_0 := (mo _ _ (.inl (by omega))).trans z2_0; replace z2_1 := (mo _ _ (.inl (by omega))).trans z2_1; replace z3_0 := (mo _ _ (.inl (by omega))).trans z3_0; replace z3_1 := (mo _ _ (.inl (by omega))).trans z3_1; replace h0 := (mo _ _ (.inl (by omega))).trans h0; replace h1 := (mo _ _ (.inl (by omega))).trans h1; replace h2 := (mo _ _ (.inl (by omega))).trans h2; replace h3 := (mo _ _ (.inl (by omega))).trans h3; replace h4 := (mo _ _ (.inl (by omega))).trans h4; replace k77 := (mo _ _ (.inl (by omega))).trans k77
  replace Bc := bX _ Bc (by omega)
  replace sM : Sl X8 gM 0 n xs ys := fun i hi => ⟨(mo _ _ (.inl (by omega))).trans (sM i hi).1, (mo _ _ (.inl (by omega))).trans (sM i hi).2⟩
  replace sB : Sl X8 b off n xs ys := fun i hi => ⟨(mo _ _ (.inl (by omega))).trans (sB i hi).1, (mo _ _ (.inl (by omega))).trans (sB i hi).2⟩
  replace fh : ∀ o, X8.frozen? ⟨w4.heap.size, o, none⟩ = false := fun o => (fQ _).trans (fh o)
  replace fg : ∀ o, X8.frozen? ⟨w5.heap.size, o, none⟩ = false := fun o => (fQ _).trans (fg o)
  replace g0 := u0; replace g1 := u1; replace g2 := u2; replace g3 := u3; replace g4 := u4
  clear hX u0 u1 u2 u3 u4 mo bX fQ
  go_upto_region 13 with (first | (go_at_call 8; (with_reducible refine (same12_n _ hH3 hH4 _ _).mono ?_); rintro e w9 ⟨rfl, hb⟩; replace fh : ∀ o, w9.frozen? ⟨w4.heap.size, o, none⟩ = false := (fun o => (hb.2 _).trans (fh o)); replace fg : ∀ o, w9.frozen? ⟨w5.heap.size, o, none⟩ = false := (fun o => (hb.2 _).trans (fg o)); replace z0_0 := keep hb z0_0; replace z0_1 := keep hb z0_1; replace z1_0 := keep hb z1_0; replace z1_1 := keep hb z1_1; replace z2_0 := keep hb z2_0; replace z2_1 := keep hb z2_1; replace z3_0 := keep hb z3_0; replace z3_1 := keep hb z3_1; replace h0 := keep hb h0; replace h1 := keep hb h1; replace h2 := keep hb h2; replace h3 := keep hb h3; replace h4 := keep hb h4; replace g0 := keep hb g0; replace g1 := keep hb g1; replace g2 := keep hb g2; replace g3 := keep hb g3; replace g4 := keep hb g4; replace k77 := keep hb k77; replace Bc := bl_trans Bc hb; replace sM := sM.bel hb; replace sB := sB.bel hb; clear hb))
  refine wp_region_retG 14 11 8 rfl (fun i => !([] : List Nat).contains i) (fun j => ([] : List Nat).contains j) [] (fun i v => match i with | 0 => v = .slice (some ⟨gM, 0, none⟩) (n + 1) cM | 1 => v = .slice (some ⟨b, off, none⟩) n cap | 2 => v = .int .i64 (n : Int) | 3 => v = .slice (some ⟨gM, 0, none⟩) n cM | 4 => v = .agg #[.float .f64 fx, .float .f64 fy] | 5 => v = .agg #[.float .f64 wx, .float .f64 wy] | 6 => ∃ t0 t1 t2 t3 t4, isH t0 t1 t2 t3 t4 (pgX xs ys n (hasV xs ys n fx fy) F Y).2 ∧ v = .tuple #[.agg #[.float .f64 t0, .float .f64 t1, .float .f64 t2, .float .f64 t3, .float .f64 t4], .bool (pgX xs ys n (hasV xs ys n fx fy) F Y).1, .int .i64 (pgE xs ys n F Y)] | 7 => ∃ t0 t1 t2 t3 t4, isH t0 t1 t2 t3 t4 (pgX xs ys n (hasV xs ys n fx fy) F Y).2 ∧ v = .tuple #[.agg #[.float .f64 t0, .float .f64 t1, .float .f64 t2, .float .f64 t3, .float .f64 t4], .bool (pgX xs ys n (hasV xs ys n fx fy) F Y).1, .int .i64 (pgE xs ys n F Y)] | 8 => ∃ t0 t1 t2 t3 t4, isH t0 t1 t2 t3 t4 (pgX xs ys n (hasV xs ys n fx fy) F Y).2 ∧ v = .agg #[.float .f64 t0, .float .f64 t1, .float .f64 t2, .float .f64 t3, .float .f64 t4] | 9 => v = .bool (pgX xs ys n (hasV xs ys n fx fy) F Y).1 | 10 => v = .int .i64 (pgE xs ys n F Y) | 12 => v = .bool (pgX xs ys n (hasV xs ys n fx fy) F Y).1 | 13 => v = .int .i64 (pgE xs ys n F Y) | _ => False) (putN (w4.heap.size) 5) ?A_wk (by kernel_rfl) (by kernel_rfl) (by kernel_rfl) (by decide) (by decide) (by decide) (by decide) ?hcv_wk ?hnw_wk ?hA_wk ?hst_wk ?hq_wk ?ht_wk
  case hcv_wk =>
    intro j hj v hv
    simp at hj
  case hnw_wk =>
    intro i hi hwt
    rcases (show i = 0 ∨ i = 1 ∨ i = 2 ∨ i = 3 ∨ i = 4 ∨ i = 5 ∨ i = 6 ∨ i = 7 ∨ i = 8 ∨ i = 9 ∨ i = 10 ∨ i = 11 ∨ i = 12 ∨ i = 13 by omega) with rfl | rfl | rfl | rfl | rfl | rfl | rfl | rfl | rfl | rfl | rfl | rfl | rfl | rfl
    all_goals first | exact rfl | exact absurd hwt (by decide)
  case hA_wk =>
    intro s
    simp only [putL, dstO, Act.put, List.getElem?_toArray, List.getElem?_cons_zero, List.getElem?_cons_succ, Option.bind_some, List.setIfInBounds_toArray, List.set_cons_zero, List.set_cons_succ, if_true]
    all_goals exact rfl
  case hst_wk =>
    intro o ho s hs W hb K hK
    cases ho
    have u0 := keep hb h0; have u1 := keep hb h1; have u2 := keep hb h2; have u3 := keep hb h3; have u4 := keep hb h4; have u9 := fun o => (hb.2 ⟨w4.heap.size, o, none⟩).trans (fh o)
    obtain ⟨t0, t1, t2, t3, t4, hT, e8⟩ := hs 8 (by decide) (by kernel_rfl)
    simp only [e8] at hK ⊢
    clear hs
    go_simp
    exact hK.out
  case hq_wk =>
    intro i o hi hne hwt ho s hs W hb K hK
    have uz0_0 := once_keepN hb z0_0 (by simp only; omega); have uz0_1 := once_keepN hb z0_1 (by simp only; omega); have uz1_0 := once_keepN hb z1_0 (by simp only; omega); have uz1_1 := once_keepN hb z1_1 (by simp only; omega); have uz2_0 := once_keepN hb z2_0 (by simp only; omega); have uz2_1 := once_keepN hb z2_1 (by simp only; omega); have uz3_0 := once_keepN hb z3_0 (by simp only; omega); have uz3_1 := once_keepN hb z3_1 (by simp only; omega); have hAM2 : AnyS W (.slice (some ⟨gM, 0, none⟩) n cM) n xs ys := (any_once hb sM oS hcM2 hml hby hp0 (by omega))
    rcases (show i = 0 ∨ i = 1 ∨ i = 2 ∨ i = 3 ∨ i = 4 ∨ i = 5 ∨ i = 6 ∨ i = 7 ∨ i = 8 ∨ i = 9 ∨ i = 10 ∨ i = 11 ∨ i = 12 ∨ i = 13 by omega) with rfl | rfl | rfl | rfl | rfl | rfl | rfl | rfl | rfl | rfl | rfl | rfl | rfl | rfl
    rotate_left 2
    cases ho
    have e1 : s 1 = _ := hs 1 (by decide) (by decide) (by kernel_rfl)
    simp only [e1] at hK ⊢
    rotate_left 1
    cases ho
    have e0 : s 0 = _ := hs 0 (by decide) (by decide) (by kernel_rfl)
    have e2 : s 2 = _ := hs 2 (by decide) (by decide) (by kernel_rfl)
    simp only [e0, e2] at hK ⊢
    rotate_left 3
    cases ho
    have e3 : s 3 = _ := hs 3 (by decide) (by decide) (by kernel_rfl)
    have e4 : s 4 = _ := hs 4 (by decide) (by decide) (by kernel_rfl)
    have e5 : s 5 = _ := hs 5 (by decide) (by decide) (by kernel_rfl)
    simp only [e3, e4, e5] at hK ⊢
    rotate_left 1
    cases ho
    obtain ⟨t0, t1, t2, t3, t4, hT, e6⟩ := hs 6 (by decide) (by decide) (by kernel_rfl)
    simp only [e6] at hK ⊢
    rotate_left 1
    cases ho
    obtain ⟨t0, t1, t2, t3, t4, hT, e7⟩ := hs 7 (by decide) (by decide) (by kernel_rfl)
    simp only [e7] at hK ⊢
    rotate_left 1
    cases ho
    obtain ⟨t0, t1, t2, t3, t4, hT, e7⟩ := hs 7 (by decide) (by decide) (by kernel_rfl)
    simp only [e7] at hK ⊢
    rotate_left 1
    cases ho
    obtain ⟨t0, t1, t2, t3, t4, hT, e7⟩ := hs 7 (by decide) (by decide) (by kernel_rfl)
    simp only [e7] at hK ⊢
    rotate_left 1
    · exact absurd rfl hne
    cases ho
    have e9 : s 9 = _ := hs 9 (by decide) (by decide) (by kernel_rfl)
    simp only [e9] at hK ⊢
    rotate_left 1
    cases ho
    have e10 : s 10 = _ := hs 10 (by decide) (by decide) (by kernel_rfl)
    simp only [e10] at hK ⊢
    rotate_left 1
    all_goals
      try cases ho
      simp only [Act.put, List.setIfInBounds_toArray, List.set_cons_zero, List.set_cons_succ] at hK
      clear hs hne hwt
      go_simp
      all_goals (try go_wp2_with (first | (go_at_call 11; (with_reducible refine (polygon_n _ _ hAM2 hf hw).mono ?_); rintro e w' ⟨t0, t1, t2, t3, t4, hT, rfl, hb1⟩)))
      all_goals first | exact hK.out _ _ ⟨_, _, _, _, _, hT, rfl⟩ hb1 | exact hK.out _ _ ⟨_, _, _, _, _, hT, rfl⟩ (bl_refl _) | with_reducible exact hK.out _ _ rfl (bl_refl _) | with_reducible exact hK.out _ _ rfl (by assumption) | exact hK.out _ _ (by assumption) (by assumption)
  case ht_wk =>
    intro s hs W0 W hb0 hb
    have e0 : s 0 = _ := hs 0 (by decide) (by decide)
    have e1 : s 1 = _ := hs 1 (by decide) (by decide)
    have e2 : s 2 = _ := hs 2 (by decide) (by decide)
    have e3 : s 3 = _ := hs 3 (by decide) (by decide)
    have e4 : s 4 = _ := hs 4 (by decide) (by decide)
    have e5 : s 5 = _ := hs 5 (by decide) (by decide)
    obtain ⟨_, _, _, _, _, _, e6⟩ := hs 6 (by decide) (by decide)
    obtain ⟨_, _, _, _, _, _, e7⟩ := hs 7 (by decide) (by decide)
    obtain ⟨t0, t1, t2, t3, t4, hT, e8⟩ := hs 8 (by decide) (by decide)
    have e9 : s 9 = _ := hs 9 (by decide) (by decide)
    have e10 : s 10 = _ := hs 10 (by decide) (by decide)
    have e12 : s 12 = _ := hs 12 (by decide) (by decide)
    have e13 : s 13 = _ := hs 13 (by decide) (by decide)
    simp only [e0, e1, e2, e3, e4, e5, e6, e7, e8, e9, e10, e12, e13]
    rw [e8] at hb
    clear hs e0 e1 e2 e3 e4 e5 e6 e7 e8 e9 e10 e12 e13
    have RA := putN_at (R := w4.heap.size) (W := W0) (v := .agg #[.float .f64 t0, .float .f64 t1, .float .f64 t2, .float .f64 t3, .float .f64 t4]) 5 (fun i hi => by rcases (show i = 0 ∨ i = 1 ∨ i = 2 ∨ i = 3 ∨ i = 4 by omega) with rfl | rfl | rfl | rfl | rfl <;> first | (rw [keep hb0 h0]; rfl) | (rw [keep hb0 h1]; rfl) | (rw [keep hb0 h2]; rfl) | (rw [keep hb0 h3]; rfl) | (rw [keep hb0 h4]; rfl))
    have R0 := keep hb (RA 0 (by decide)); have R1 := keep hb (RA 1 (by decide)); have R2 := keep hb (RA 2 (by decide)); have R3 := keep hb (RA 3 (by decide)); have R4 := keep hb (RA 4 (by decide))
    simp only [cellAt] at R0 R1 R2 R3 R4
    replace z0_0 := keep hb ((putN_far 5 (by simp only; omega)).trans (keep hb0 z0_0)); replace z0_1 := keep hb ((putN_far 5 (by simp only; omega)).trans (keep hb0 z0_1)); replace z1_0 := keep hb ((putN_far 5 (by simp only; omega)).trans (keep hb0 z1_0)); replace z1_1 := keep hb ((putN_far 5 (by simp only; omega)).trans (keep hb0 z1_1)); replace z2_0 := keep hb ((putN_far 5 (by simp only; omega)).trans (keep hb0 z2_0)); replace z2_1 := keep hb ((putN_far 5 (by simp only; omega)).trans (keep hb0 z2_1)); replace z3_0 := keep hb ((putN_far 5 (by simp only; omega)).trans (keep hb0 z3_0)); replace z3_1 := keep hb ((putN_far 5 (by simp only; omega)).trans (keep hb0 z3_1)); replace g0 := keep hb ((putN_far 5 (by simp only; omega)).trans (keep hb0 g0)); replace g1 := keep hb ((putN_far 5 (by simp only; omega)).trans (keep hb0 g1)); replace g2 := keep hb ((putN_far 5 (by simp only; omega)).trans (keep hb0 g2)); replace g3 := keep hb ((putN_far 5 (by simp only; omega)).trans (keep hb0 g3)); replace g4 := keep hb ((putN_far 5 (by simp only; omega)).trans (keep hb0 g4)); replace k77 := keep hb ((putN_far 5 (by simp only; omega)).trans (keep hb0 k77))
    replace sM : Sl W gM 0 n xs ys := fun i hi => ⟨keep hb ((putN_far 5 (by simp only; omega)).trans (keep hb0 (sM i hi).1)), keep hb ((putN_far 5 (by simp only; omega)).trans (keep hb0 (sM i hi).2))⟩
    replace sB : Sl W b off n xs ys := fun i hi => ⟨keep hb ((putN_far 5 (by simp only; omega)).trans (keep hb0 (sB i hi).1)), keep hb ((putN_far 5 (by simp only; omega)).trans (keep hb0 (sB i hi).2))⟩
    have Bw := bl_trans (putN_bel (R := w4.heap.size) (v := .agg #[.float .f64 t0, .float .f64 t1, .float .f64 t2, .float .f64 t3, .float .f64 t4]) (bl_trans Bc hb0) (show w.heap.size ≤ w4.heap.size by omega) 5) hb
    have fP : ∀ a, W.frozen? a = w9.frozen? a := fun a => (hb.2 a).trans ((putN_frozen 5).trans (hb0.2 a))
    replace fh : ∀ o, W.frozen? ⟨w4.heap.size, o, none⟩ = false := fun o => (fP _).trans (fh o)
    replace fg : ∀ o, W.frozen? ⟨w5.heap.size, o, none⟩ = false := fun o => (fP _).trans (fg o)
    have hH5 := hT
    replace h0 := R0
    replace h1 := R1
    replace h2 := R2
    replace h3 := R3
    replace h4 := R4
    have Bc := Bw
    have hAL : AnyS W (.slice (some ⟨b, off, none⟩) n cap) n xs ys := ⟨_, _, rfl, hcap, hml, hby, oS, .inr ⟨hp0, b, off, rfl, sB⟩⟩
    clear RA R0 R1 R2 R3 R4 fP hb hb0 Bw
    go_upto_region 15 with (first | (go_at_call 12; (with_reducible refine (rpolygon_n _ _ hAL hf hw).mono ?_); rintro e wb ⟨v0, v1, v2, v3, v4, hH6, rfl, hb⟩; replace fh : ∀ o, wb.frozen? ⟨w4.heap.size, o, none⟩ = false := (fun o => (hb.2 _).trans (fh o)); replace fg : ∀ o, wb.frozen? ⟨w5.heap.size, o, none⟩ = false := (fun o => (hb.2 _).trans (fg o)); replace z0_0 := keep hb z0_0; replace z0_1 := keep hb z0_1; replace z1_0 := keep hb z1_0; replace z1_1 := keep hb z1_1; replace z2_0 := keep hb z2_0; replace z2_1 := keep hb z2_1; replace z3_0 := keep hb z3_0; replace z3_1 := keep hb z3_1; replace h0 := keep hb h0; replace h1 := keep hb h1; replace h2 := keep hb h2; replace h3 := keep hb h3; replace h4 := keep hb h4; replace g0 := keep hb g0; replace g1 := keep hb g1; replace g2 := keep hb g2; replace g3 := keep hb g3; replace g4 := keep hb g4; replace k77 := keep hb k77; replace Bc := bl_trans Bc hb; replace sM := sM.bel hb; replace sB := sB.bel hb; clear hb))
    obtain ⟨XB, hX, u0, u1, u2, u3, u4, mo, bX⟩ := put5_all (p := .float .f64 v0) (q := .float .f64 v1) (r := .float .f64 v2) (s := .float .f64 v3) (t := .float .f64 v4) g0 g1 g2 g3 g4
    rw [← hX]
    have fQ : ∀ a, XB.frozen? a = wb.frozen? a := fun a => by rw [hX]; simp only [World.frozen?_setCell]
    replace z0_0 := (mo _ _ (.inl (by omega))).trans z0_0; replace z0_1 := (mo _ _ (.inl (by omega))).trans z0_1; replace z1_0 := (mo _ _ (.inl (by omega))).trans z1_0; replace z1_1 := (mo _ _ (.inl (by omega))).trans z1_1; replace z2_0 := (mo _ _ (.inl (by omega))).trans z2_0; replace z2_1 := (mo _ _ (.inl (by omega))).trans z2_1; replace z3_0 := (mo _ _ (.inl (by omega))).trans z3_0; replace z3_1 := (mo _ _ (.inl (by omega))).trans z3_1; replace h0 := (mo _ _ (.inl (by omega))).trans h0; replace h1 := (mo _ _ (.inl (by omega))).trans h1; replace h2 := (mo _ _ (.inl (by omega))).trans h2; replace h3 := (mo _ _ (.inl (by omega))).trans h3; replace h4 := (mo _ _ (.inl (by omega))).trans h4; replace k77 := (mo _ _ (.inl (by omega))).trans k77
    replace Bc := bX _ Bc (by omega)
    replace sM : Sl XB gM 0 n xs ys := fun i hi => ⟨(mo _ _ (.inl (by omega))).trans (sM i hi).1, (mo _ _ (.inl (by omega))).trans (sM i hi).2⟩
    replace sB : Sl XB b off n xs ys := fun i hi => ⟨(mo _ _ (.inl (by omega))).trans (sB i hi).1, (mo _ _ (.inl (by omega))).trans (sB i hi).2⟩
    replace fh : ∀ o, XB.frozen? ⟨w4.heap.size, o, none⟩ = false := fun o => (fQ _).trans (fh o)
    replace fg : ∀ o, XB.frozen? ⟨w5.heap.size, o, none⟩ = false := fun o => (fQ _).trans (fg o)
    replace g0 := u0; replace g1 := u1; replace g2 := u2; replace g3 := u3; replace g4 := u4
    clear hX u0 u1 u2 u3 u4 mo bX fQ
    go_wp2_with (first | (go_at_call 8; (with_reducible refine (same12_n _ hH5 hH6 _ _).mono ?_); rintro e wc ⟨rfl, hb⟩; replace fh : ∀ o, wc.frozen? ⟨w4.heap.size, o, none⟩ = false := (fun o => (hb.2 _).trans (fh o)); replace fg : ∀ o, wc.frozen? ⟨w5.heap.size, o, none⟩ = false := (fun o => (hb.2 _).trans (fg o)); replace z0_0 := keep hb z0_0; replace z0_1 := keep hb z0_1; replace z1_0 := keep hb z1_0; replace z1_1 := keep hb z1_1; replace z2_0 := keep hb z2_0; replace z2_1 := keep hb z2_1; replace z3_0 := keep hb z3_0; replace z3_1 := keep hb z3_1; replace h0 := keep hb h0; replace h1 := keep hb h1; replace h2 := keep hb h2; replace h3 := keep hb h3; replace h4 := keep hb h4; replace g0 := keep hb g0; replace g1 := keep hb g1; replace g2 := keep hb g2; replace g3 := keep hb g3; replace g4 := keep hb g4; replace k77 := keep hb k77; replace Bc := bl_trans Bc hb; replace sM := sM.bel hb; replace sB := sB.bel hb; clear hb) | (go_at_call 13; (with_reducible refine (sameV_n gM cM b off cap n xs ys _ sM sB hml).mono ?_); rintro e wd ⟨rfl, hb⟩; replace fh : ∀ o, wd.frozen? ⟨w4.heap.size, o, none⟩ = false := (fun o => (hb.2 _).trans (fh o)); replace fg : ∀ o, wd.frozen? ⟨w5.heap.size, o, none⟩ = false := (fun o => (hb.2 _).trans (fg o)); replace z0_0 := keep hb z0_0; replace z0_1 := keep hb z0_1; replace z1_0 := keep hb z1_0; replace z1_1 := keep hb z1_1; replace z2_0 := keep hb z2_0; replace z2_1 := keep hb z2_1; replace z3_0 := keep hb z3_0; replace z3_1 := keep hb z3_1; replace h0 := keep hb h0; replace h1 := keep hb h1; replace h2 := keep hb h2; replace h3 := keep hb h3; replace h4 := keep hb h4; replace g0 := keep hb g0; replace g1 := keep hb g1; replace g2 := keep hb g2; replace g3 := keep hb g3; replace g4 := keep hb g4; replace k77 := keep hb k77; replace Bc := bl_trans Bc hb; replace sM := sM.bel hb; replace sB := sB.bel hb; clear hb))
    go_ret
    exact ⟨by first | rfl | simp [e0], Bc⟩
set_option maxRecDepth 100000 in
set_option maxHeartbeats 16000000 in
theorem walk_none (ax ay : Nat) (bx b_y : Nat) (r : Nat) (a : Option Addr) (cap : Nat) (xs ys : Nat → Nat) (fx fy wx wy : Nat) {A B F Y : Vp} {R : Nat} (ha : isP ax ay A) (hB : isP bx b_y B) (hr : isF r R) (hf : isP fx fy F) (hw : isP wx wy Y) (w : World) :
    Calls Tryz.prog 3 #[.agg #[.float .f64 ax, .float .f64 ay], .agg #[.float .f64 bx, .float .f64 b_y], .float .f64 r, .slice a 0 cap, .agg #[.float .f64 fx, .float .f64 fy], .agg #[.float .f64 wx, .float .f64 wy]] w fun e w' => e = .returned (.bool true) ∧ Bel w w' := by
  have oS : Oks xs ys 0 := fun i hi => absurd hi (by omega)
  have q0 := cmp_eq .f64
  have q1 := fun (x y : Nat) (w : World) => run_equalIn_float Tryz.prog w 22 .f64 x y Tryz.underlying22
  have q3 := fun (d x y : Nat) (w : World) => run_equalIn_fl Tryz.prog w d 22 .f64 x y Tryz.underlying22
  have q4 := fun (x y : Nat) (w : World) => run_equalIn_fl Tryz.prog w 9997 22 .f64 x y Tryz.underlying22
  have q5 := fun (x y : Nat) (w : World) => run_equalIn_fl Tryz.prog w 9996 22 .f64 x y Tryz.underlying22
  have q6 := fun (x y : Nat) (w : World) => run_equalIn_fl Tryz.prog w 9998 22 .f64 x y Tryz.underlying22
  have e0 : eqK .f64 4635118810238550016 4635118810238550016 = true := by decide +kernel
  obtain ⟨z0_0, z0_1, z1_0, z1_1, z2_0, z2_1, z3_0, z3_1, B0⟩ := bxYy0 w ax ay bx b_y fx fy wx wy _ rfl
  have Bc := B0
  clear B0
  go_enter Tryz.func3, Tryz.ntmps3
  go_upto_region 10 with (first | (go_at_call 5; (with_reducible refine (awake12 _).mono ?_); rintro e w1 ⟨rfl, hb⟩; replace z0_0 := keep hb z0_0; replace z0_1 := keep hb z0_1; replace z1_0 := keep hb z1_0; replace z1_1 := keep hb z1_1; replace z2_0 := keep hb z2_0; replace z2_1 := keep hb z2_1; replace z3_0 := keep hb z3_0; replace z3_1 := keep hb z3_1; replace Bc := bl_trans Bc hb; have s1 := hb.size; simp only [World.size_alloc] at s1; clear hb; have own0 := Own.nil w1.heap.size w1) | (have zn := m1; clear zn; at_builtin; refine wpList_app (L := []) (M := [(4635118810238550016, 0)]) rfl _ _ rfl rfl _ 0 1 rfl (own0.bel (bl_alloc (bl_refl w1) _ _)) (one_sl w1 (4635118810238550016, 0)) (by decide) (by simp) (by decide) ?_; intro v3 w3 hO3 hb3; have B3 := hb3 w1 (bl_alloc (bl_refl w1) _ _) (Nat.le_refl _); replace z0_0 := keep B3 z0_0; replace z0_1 := keep B3 z0_1; replace z1_0 := keep B3 z1_0; replace z1_1 := keep B3 z1_1; replace z2_0 := keep B3 z2_0; replace z2_1 := keep B3 z2_1; replace z3_0 := keep B3 z3_0; replace z3_1 := keep B3 z3_1; replace Bc := bl_trans Bc B3; have s13 := B3.size; obtain ⟨gM, cM, hv3, hgM, hcM, hcX, sM, k77⟩ := mark_fin (n := 0) (xs := xs) (ys := ys) hO3; rw [Nat.zero_add] at hv3; rw [Nat.zero_mul] at k77; subst hv3; have lM := World.block_lt_of_cell? _ _ k77; simp only at lM; have hcz : (0 : Int) ≤ (cM : Int) := (by omega); clear m1 hO3) | (at_builtin; refine wpList_run rfl _ _ rfl rfl rfl (fun ty => run_app0 w1 ty cap a) ?_; have m1 := hide True.intro) | (go_at_call 6; (with_reducible refine (circle_n _ ha hr hf hw).mono ?_); rintro e w4 ⟨p0, p1, p2, p3, p4, hH1, rfl, hb⟩; replace z0_0 := keep hb z0_0; replace z0_1 := keep hb z0_1; replace z1_0 := keep hb z1_0; replace z1_1 := keep hb z1_1; replace z2_0 := keep hb z2_0; replace z2_1 := keep hb z2_1; replace z3_0 := keep hb z3_0; replace z3_1 := keep hb z3_1; replace Bc := bl_trans Bc hb; replace sM := sM.bel hb; replace k77 := keep hb k77; have l34 := hb.size; clear hb; replace z0_0 := up_alloc (o := .cells #[.float .f64 p0, .float .f64 p1, .float .f64 p2, .float .f64 p3, .float .f64 p4] 28) z0_0; replace z0_1 := up_alloc (o := .cells #[.float .f64 p0, .float .f64 p1, .float .f64 p2, .float .f64 p3, .float .f64 p4] 28) z0_1; replace z1_0 := up_alloc (o := .cells #[.float .f64 p0, .float .f64 p1, .float .f64 p2, .float .f64 p3, .float .f64 p4] 28) z1_0; replace z1_1 := up_alloc (o := .cells #[.float .f64 p0, .float .f64 p1, .float .f64 p2, .float .f64 p3, .float .f64 p4] 28) z1_1; replace z2_0 := up_alloc (o := .cells #[.float .f64 p0, .float .f64 p1, .float .f64 p2, .float .f64 p3, .float .f64 p4] 28) z2_0; replace z2_1 := up_alloc (o := .cells #[.float .f64 p0, .float .f64 p1, .float .f64 p2, .float .f64 p3, .float .f64 p4] 28) z2_1; replace z3_0 := up_alloc (o := .cells #[.float .f64 p0, .float .f64 p1, .float .f64 p2, .float .f64 p3, .float .f64 p4] 28) z3_0; replace z3_1 := up_alloc (o := .cells #[.float .f64 p0, .float .f64 p1, .float .f64 p2, .float .f64 p3, .float .f64 p4] 28) z3_1; replace Bc := bl_alloc Bc #[.float .f64 p0, .float .f64 p1, .float .f64 p2, .float .f64 p3, .float .f64 p4] 28; replace sM := sM.bel (bl_alloc (bl_refl _) #[.float .f64 p0, .float .f64 p1, .float .f64 p2, .float .f64 p3, .float .f64 p4] 28); replace k77 := up_alloc (o := .cells #[.float .f64 p0, .float .f64 p1, .float .f64 p2, .float .f64 p3, .float .f64 p4] 28) k77; obtain ⟨h0, h1, h2, h3, h4⟩ := new5' w4 28 (.float .f64 p0) (.float .f64 p1) (.float .f64 p2) (.float .f64 p3) (.float .f64 p4); have fh : ∀ o, (w4.alloc (.cells #[.float .f64 p0, .float .f64 p1, .float .f64 p2, .float .f64 p3, .float .f64 p4] 28)).frozen? ⟨w4.heap.size, o, none⟩ = false := fun o => ((bl_alloc (bl_refl w4) #[.float .f64 p0, .float .f64 p1, .float .f64 p2, .float .f64 p3, .float .f64 p4] 28).2 _).trans (fresh_frozen (Nat.le_refl _))) | (go_at_call 7; (with_reducible refine (rcircle_n _ ha hr hf hw).mono ?_); rintro e w5 ⟨q0, q1, q2, q3, q4, hH2, rfl, hb⟩; replace fh : ∀ o, w5.frozen? ⟨w4.heap.size, o, none⟩ = false := (fun o => (hb.2 _).trans (fh o)); replace z0_0 := keep hb z0_0; replace z0_1 := keep hb z0_1; replace z1_0 := keep hb z1_0; replace z1_1 := keep hb z1_1; replace z2_0 := keep hb z2_0; replace z2_1 := keep hb z2_1; replace z3_0 := keep hb z3_0; replace z3_1 := keep hb z3_1; replace h0 := keep hb h0; replace h1 := keep hb h1; replace h2 := keep hb h2; replace h3 := keep hb h3; replace h4 := keep hb h4; replace Bc := bl_trans Bc hb; replace sM := sM.bel hb; replace k77 := keep hb k77; have l45 := hb.size; rw [World.size_alloc] at l45; clear hb; replace z0_0 := up_alloc (o := .cells #[.float .f64 q0, .float .f64 q1, .float .f64 q2, .float .f64 q3, .float .f64 q4] 28) z0_0; replace z0_1 := up_alloc (o := .cells #[.float .f64 q0, .float .f64 q1, .float .f64 q2, .float .f64 q3, .float .f64 q4] 28) z0_1; replace z1_0 := up_alloc (o := .cells #[.float .f64 q0, .float .f64 q1, .float .f64 q2, .float .f64 q3, .float .f64 q4] 28) z1_0; replace z1_1 := up_alloc (o := .cells #[.float .f64 q0, .float .f64 q1, .float .f64 q2, .float .f64 q3, .float .f64 q4] 28) z1_1; replace z2_0 := up_alloc (o := .cells #[.float .f64 q0, .float .f64 q1, .float .f64 q2, .float .f64 q3, .float .f64 q4] 28) z2_0; replace z2_1 := up_alloc (o := .cells #[.float .f64 q0, .float .f64 q1, .float .f64 q2, .float .f64 q3, .float .f64 q4] 28) z2_1; replace z3_0 := up_alloc (o := .cells #[.float .f64 q0, .float .f64 q1, .float .f64 q2, .float .f64 q3, .float .f64 q4] 28) z3_0; replace z3_1 := up_alloc (o := .cells #[.float .f64 q0, .float .f64 q1, .float .f64 q2, .float .f64 q3, .float .f64 q4] 28) z3_1; replace h0 := up_alloc (o := .cells #[.float .f64 q0, .float .f64 q1, .float .f64 q2, .float .f64 q3, .float .f64 q4] 28) h0; replace h1 := up_alloc (o := .cells #[.float .f64 q0, .float .f64 q1, .float .f64 q2, .float .f64 q3, .float .f64 q4] 28) h1; replace h2 := up_alloc (o := .cells #[.float .f64 q0, .float .f64 q1, .float .f64 q2, .float .f64 q3, .float .f64 q4] 28) h2; replace h3 := up_alloc (o := .cells #[.float .f64 q0, .float .f64 q1, .float .f64 q2, .float .f64 q3, .float .f64 q4] 28) h3; replace h4 := up_alloc (o := .cells #[.float .f64 q0, .float .f64 q1, .float .f64 q2, .float .f64 q3, .float .f64 q4] 28) h4; replace Bc := bl_alloc Bc #[.float .f64 q0, .float .f64 q1, .float .f64 q2, .float .f64 q3, .float .f64 q4] 28; replace sM := sM.bel (bl_alloc (bl_refl _) #[.float .f64 q0, .float .f64 q1, .float .f64 q2, .float .f64 q3, .float .f64 q4] 28); replace k77 := up_alloc (o := .cells #[.float .f64 q0, .float .f64 q1, .float .f64 q2, .float .f64 q3, .float .f64 q4] 28) k77; replace fh : ∀ o, (w5.alloc (.cells #[.float .f64 q0, .float .f64 q1, .float .f64 q2, .float .f64 q3, .float .f64 q4] 28)).frozen? ⟨w4.heap.size, o, none⟩ = false := (fun o => ((bl_alloc (bl_refl w5) #[.float .f64 q0, .float .f64 q1, .float .f64 q2, .float .f64 q3, .float .f64 q4] 28).2 _).trans (fh o)); obtain ⟨g0, g1, g2, g3, g4⟩ := new5' w5 28 (.float .f64 q0) (.float .f64 q1) (.float .f64 q2) (.float .f64 q3) (.float .f64 q4); have fg : ∀ o, (w5.alloc (.cells #[.float .f64 q0, .float .f64 q1, .float .f64 q2, .float .f64 q3, .float .f64 q4] 28)).frozen? ⟨w5.heap.size, o, none⟩ = false := fun o => ((bl_alloc (bl_refl w5) #[.float .f64 q0, .float .f64 q1, .float .f64 q2, .float .f64 q3, .float .f64 q4] 28).2 _).trans (fresh_frozen (Nat.le_refl _))) | (go_at_call 8; (with_reducible refine (same12_n _ hH1 hH2 _ _).mono ?_); rintro e w6 ⟨rfl, hb⟩; replace fh : ∀ o, w6.frozen? ⟨w4.heap.size, o, none⟩ = false := (fun o => (hb.2 _).trans (fh o)); replace fg : ∀ o, w6.frozen? ⟨w5.heap.size, o, none⟩ = false := (fun o => (hb.2 _).trans (fg o)); replace z0_0 := keep hb z0_0; replace z0_1 := keep hb z0_1; replace z1_0 := keep hb z1_0; replace z1_1 := keep hb z1_1; replace z2_0 := keep hb z2_0; replace z2_1 := keep hb z2_1; replace z3_0 := keep hb z3_0; replace z3_1 := keep hb z3_1; replace h0 := keep hb h0; replace h1 := keep hb h1; replace h2 := keep hb h2; replace h3 := keep hb h3; replace h4 := keep hb h4; replace g0 := keep hb g0; replace g1 := keep hb g1; replace g2 := keep hb g2; replace g3 := keep hb g3; replace g4 := keep hb g4; replace k77 := keep hb k77; replace Bc := bl_trans Bc hb; replace sM := sM.bel hb; clear hb))
  have hcM2 : 0 ≤ cM := by omega
  go_upto_region 11 with (first | (go_at_call 9; (with_reducible refine (segment_n _ ha hB hf hw).mono ?_); rintro e w7 ⟨r0, r1, r2, r3, r4, hH3, rfl, hb⟩; replace fh : ∀ o, w7.frozen? ⟨w4.heap.size, o, none⟩ = false := (fun o => (hb.2 _).trans (fh o)); replace fg : ∀ o, w7.frozen? ⟨w5.heap.size, o, none⟩ = false := (fun o => (hb.2 _).trans (fg o)); replace z0_0 := keep hb z0_0; replace z0_1 := keep hb z0_1; replace z1_0 := keep hb z1_0; replace z1_1 := keep hb z1_1; replace z2_0 := keep hb z2_0; replace z2_1 := keep hb z2_1; replace z3_0 := keep hb z3_0; replace z3_1 := keep hb z3_1; replace h0 := keep hb h0; replace h1 := keep hb h1; replace h2 := keep hb h2; replace h3 := keep hb h3; replace h4 := keep hb h4; replace g0 := keep hb g0; replace g1 := keep hb g1; replace g2 := keep hb g2; replace g3 := keep hb g3; replace g4 := keep hb g4; replace k77 := keep hb k77; replace Bc := bl_trans Bc hb; replace sM := sM.bel hb; clear hb))
  obtain ⟨X7, hX, u0, u1, u2, u3, u4, mo, bX⟩ := put5_all (p := .float .f64 r0) (q := .float .f64 r1) (r := .float .f64 r2) (s := .float .f64 r3) (t := .float .f64 r4) h0 h1 h2 h3 h4
  rw [← hX]
  have fQ : ∀ a, X7.frozen? a = w7.frozen? a := fun a => by rw [hX]; simp only [World.frozen?_setCell]
  replace z0_0 := (mo _ _ (.inl (by omega))).trans z0_0; replace z0_1 := (mo _ _ (.inl (by omega))).trans z0_1; replace z1_0 := (mo _ _ (.inl (by omega))).trans z1_0; replace z1_1 := (mo _ _ (.inl (by omega))).trans z1_1; replace z2_0 := (mo _ _ (.inl (by omega))).trans z2_0; replace z2_1 := (mo _ _ (.inl (by omega))).trans z2_1; replace z3_0 := (mo _ _ (.inl (by omega))).trans z3_0; replace z3_1 := (mo _ _ (.inl (by omega))).trans z3_1; replace g0 := (mo _ _ (.inl (by omega))).trans g0; replace g1 := (mo _ _ (.inl (by omega))).trans g1; replace g2 := (mo _ _ (.inl (by omega))).trans g2; replace g3 := (mo _ _ (.inl (by omega))).trans g3; replace g4 := (mo _ _ (.inl (by omega))).trans g4; replace k77 := (mo _ _ (.inl (by omega))).trans k77
  replace Bc := bX _ Bc (by omega)
  replace sM : Sl X7 gM 0 0 xs ys := fun i hi => ⟨(mo _ _ (.inl (by omega))).trans (sM i hi).1, (mo _ _ (.inl (by omega))).trans (sM i hi).2⟩
  replace fh : ∀ o, X7.frozen? ⟨w4.heap.size, o, none⟩ = false := fun o => (fQ _).trans (fh o)
  replace fg : ∀ o, X7.frozen? ⟨w5.heap.size, o, none⟩ = false := fun o => (fQ _).trans (fg o)
  replace h0 := u0; replace h1 := u1; replace h2 := u2; replace h3 := u3; replace h4 := u4
  clear hX u0 u1 u2 u3 u4 mo bX fQ
  go_upto_region 12 with (first | (go_at_call 10; (with_reducible refine (rsegment_n _ ha hB hf hw).mono ?_); rintro e w8 ⟨s0, s1, s2, s3, s4, hH4, rfl, hb⟩; replace fh : ∀ o, w8.frozen? ⟨w4.heap.size, o, none⟩ = false := (fun o => (hb.2 _).trans (fh o)); replace fg : ∀ o, w8.frozen? ⟨w5.heap.size, o, none⟩ = false := (fun o => (hb.2 _).trans (fg o)); replace z0_0 := keep hb z0_0; replace z0_1 := keep hb z0_1; replace z1_0 := keep hb z1_0; replace z1_1 := keep hb z1_1; replace z2_0 := keep hb z2_0; replace z2_1 := keep hb z2_1; replace z3_0 := keep hb z3_0; replace z3_1 := keep hb z3_1; replace h0 := keep hb h0; replace h1 := keep hb h1; replace h2 := keep hb h2; replace h3 := keep hb h3; replace h4 := keep hb h4; replace g0 := keep hb g0; replace g1 := keep hb g1; replace g2 := keep hb g2; replace g3 := keep hb g3; replace g4 := keep hb g4; replace k77 := keep hb k77; replace Bc := bl_trans Bc hb; replace sM := sM.bel hb; clear hb))
  obtain ⟨X8, hX, u0, u1, u2, u3, u4, mo, bX⟩ := put5_all (p := .float .f64 s0) (q := .float .f64 s1) (r := .float .f64 s2) (s := .float .f64 s3) (t := .float .f64 s4) g0 g1 g2 g3 g4
  rw [← hX]
  have fQ : ∀ a, X8.frozen? a = w8.frozen? a := fun a => by rw [hX]; simp only [World.frozen?_setCell]
  replace z0_0 := (mo _ _ (.inl (by omega))).trans z0_0; replace z0_1 := (mo _ _ (.inl (by omega))).trans z0_1; replace z1_0 := (mo _ _ (.inl (by omega))).trans z1_0; replace z1_1 := (mo _ _ (.inl (by omega))).trans z1_1; replace z2_0 := (mo _ _ (.inl (by omega))).trans z2_0; replace z2_1 := (mo _ _ (.inl (by omega))).trans z2_1; replace z3_0 := (mo _ _ (.inl (by omega))).trans z3_0; replace z3_1 := (mo _ _ (.inl (by omega))).trans z3_1; replace h0 := (mo _ _ (.inl (by omega))).trans h0; replace h1 := (mo _ _ (.inl (by omega))).trans h1; replace h2 := (mo _ _ (.inl (by omega))).trans h2; replace h3 := (mo _ _ (.inl (by omega))).trans h3; replace h4 := (mo _ _ (.inl (by omega))).trans h4; replace k77 := (mo _ _ (.inl (by omega))).trans k77
  replace Bc := bX _ Bc (by omega)
  replace sM : Sl X8 gM 0 0 xs ys := fun i hi => ⟨(mo _ _ (.inl (by omega))).trans (sM i hi).1, (mo _ _ (.inl (by omega))).trans (sM i hi).2⟩
  replace fh : ∀ o, X8.frozen? ⟨w4.heap.size, o, none⟩ = false := fun o => (fQ _).trans (fh o)
  replace fg : ∀ o, X8.frozen? ⟨w5.heap.size, o, none⟩ = false := fun o => (fQ _).trans (fg o)
  replace g0 := u0; replace g1 := u1; replace g2 := u2; replace g3 := u3; replace g4 := u4
  clear hX u0 u1 u2 u3 u4 mo bX fQ
  go_upto_region 13 with (first | (go_at_call 8; (with_reducible refine (same12_n _ hH3 hH4 _ _).mono ?_); rintro e w9 ⟨rfl, hb⟩; replace fh : ∀ o, w9.frozen? ⟨w4.heap.size, o, none⟩ = false := (fun o => (hb.2 _).trans (fh o)); replace fg : ∀ o, w9.frozen? ⟨w5.heap.size, o, none⟩ = false := (fun o => (hb.2 _).trans (fg o)); replace z0_0 := keep hb z0_0; replace z0_1 := keep hb z0_1; replace z1_0 := keep hb z1_0; replace z1_1 := keep hb z1_1; replace z2_0 := keep hb z2_0; replace z2_1 := keep hb z2_1; replace z3_0 := keep hb z3_0; replace z3_1 := keep hb z3_1; replace h0 := keep hb h0; replace h1 := keep hb h1; replace h2 := keep hb h2; replace h3 := keep hb h3; replace h4 := keep hb h4; replace g0 := keep hb g0; replace g1 := keep hb g1; replace g2 := keep hb g2; replace g3 := keep hb g3; replace g4 := keep hb g4; replace k77 := keep hb k77; replace Bc := bl_trans Bc hb; replace sM := sM.bel hb; clear hb))
  refine wp_region_retG 14 11 8 rfl (fun i => !([] : List Nat).contains i) (fun j => ([] : List Nat).contains j) [] (fun i v => match i with | 0 => v = .slice (some ⟨gM, 0, none⟩) 1 cM | 1 => v = .slice a 0 cap | 2 => v = .int .i64 0 | 3 => v = .slice (some ⟨gM, 0, none⟩) 0 cM | 4 => v = .agg #[.float .f64 fx, .float .f64 fy] | 5 => v = .agg #[.float .f64 wx, .float .f64 wy] | 6 => ∃ t0 t1 t2 t3 t4, isH t0 t1 t2 t3 t4 (pgX xs ys 0 (hasV xs ys 0 fx fy) F Y).2 ∧ v = .tuple #[.agg #[.float .f64 t0, .float .f64 t1, .float .f64 t2, .float .f64 t3, .float .f64 t4], .bool (pgX xs ys 0 (hasV xs ys 0 fx fy) F Y).1, .int .i64 (pgE xs ys 0 F Y)] | 7 => ∃ t0 t1 t2 t3 t4, isH t0 t1 t2 t3 t4 (pgX xs ys 0 (hasV xs ys 0 fx fy) F Y).2 ∧ v = .tuple #[.agg #[.float .f64 t0, .float .f64 t1, .float .f64 t2, .float .f64 t3, .float .f64 t4], .bool (pgX xs ys 0 (hasV xs ys 0 fx fy) F Y).1, .int .i64 (pgE xs ys 0 F Y)] | 8 => ∃ t0 t1 t2 t3 t4, isH t0 t1 t2 t3 t4 (pgX xs ys 0 (hasV xs ys 0 fx fy) F Y).2 ∧ v = .agg #[.float .f64 t0, .float .f64 t1, .float .f64 t2, .float .f64 t3, .float .f64 t4] | 9 => v = .bool (pgX xs ys 0 (hasV xs ys 0 fx fy) F Y).1 | 10 => v = .int .i64 (pgE xs ys 0 F Y) | 12 => v = .bool (pgX xs ys 0 (hasV xs ys 0 fx fy) F Y).1 | 13 => v = .int .i64 (pgE xs ys 0 F Y) | _ => False) (putN (w4.heap.size) 5) ?A_wk (by kernel_rfl) (by kernel_rfl) (by kernel_rfl) (by decide) (by decide) (by decide) (by decide) ?hcv_wk ?hnw_wk ?hA_wk ?hst_wk ?hq_wk ?ht_wk
  case hcv_wk =>
    intro j hj v hv
    simp at hj
  case hnw_wk =>
    intro i hi hwt
    rcases (show i = 0 ∨ i = 1 ∨ i = 2 ∨ i = 3 ∨ i = 4 ∨ i = 5 ∨ i = 6 ∨ i = 7 ∨ i = 8 ∨ i = 9 ∨ i = 10 ∨ i = 11 ∨ i = 12 ∨ i = 13 by omega) with rfl | rfl | rfl | rfl | rfl | rfl | rfl | rfl | rfl | rfl | rfl | rfl | rfl | rfl
    all_goals first | exact rfl | exact absurd hwt (by decide)
  case hA_wk =>
    intro s
    simp only [putL, dstO, Act.put, List.getElem?_toArray, List.getElem?_cons_zero, List.getElem?_cons_succ, Option.bind_some, List.setIfInBounds_toArray, List.set_cons_zero, List.set_cons_succ, if_true]
    all_goals exact rfl
  case hst_wk =>
    intro o ho s hs W hb K hK
    cases ho
    have u0 := keep hb h0; have u1 := keep hb h1; have u2 := keep hb h2; have u3 := keep hb h3; have u4 := keep hb h4; have u9 := fun o => (hb.2 ⟨w4.heap.size, o, none⟩).trans (fh o)
    obtain ⟨t0, t1, t2, t3, t4, hT, e8⟩ := hs 8 (by decide) (by kernel_rfl)
    simp only [e8] at hK ⊢
    clear hs
    go_simp
    exact hK.out
  case hq_wk =>
    intro i o hi hne hwt ho s hs W hb K hK
    have uz0_0 := once_keepN hb z0_0 (by simp only; omega); have uz0_1 := once_keepN hb z0_1 (by simp only; omega); have uz1_0 := once_keepN hb z1_0 (by simp only; omega); have uz1_1 := once_keepN hb z1_1 (by simp only; omega); have uz2_0 := once_keepN hb z2_0 (by simp only; omega); have uz2_1 := once_keepN hb z2_1 (by simp only; omega); have uz3_0 := once_keepN hb z3_0 (by simp only; omega); have uz3_1 := once_keepN hb z3_1 (by simp only; omega); have hAM2 : AnyS W (.slice (some ⟨gM, 0, none⟩) 0 cM) 0 xs ys := ⟨_, _, rfl, hcM2, by decide, by decide, oS, .inl rfl⟩
    rcases (show i = 0 ∨ i = 1 ∨ i = 2 ∨ i = 3 ∨ i = 4 ∨ i = 5 ∨ i = 6 ∨ i = 7 ∨ i = 8 ∨ i = 9 ∨ i = 10 ∨ i = 11 ∨ i = 12 ∨ i = 13 by omega) with rfl | rfl | rfl | rfl | rfl | rfl | rfl | rfl | rfl | rfl | rfl | rfl | rfl | rfl
    rotate_left 2
    cases ho
    have e1 : s 1 = _ := hs 1 (by decide) (by decide) (by kernel_rfl)
    simp only [e1] at hK ⊢
    rotate_left 1
    cases ho
    have e0 : s 0 = _ := hs 0 (by decide) (by decide) (by kernel_rfl)
    have e2 : s 2 = _ := hs 2 (by decide) (by decide) (by kernel_rfl)
    simp only [e0, e2] at hK ⊢
    rotate_left 3
    cases ho
    have e3 : s 3 = _ := hs 3 (by decide) (by decide) (by kernel_rfl)
    have e4 : s 4 = _ := hs 4 (by decide) (by decide) (by kernel_rfl)
    have e5 : s 5 = _ := hs 5 (by decide) (by decide) (by kernel_rfl)
    simp only [e3, e4, e5] at hK ⊢
    rotate_left 1
    cases ho
    obtain ⟨t0, t1, t2, t3, t4, hT, e6⟩ := hs 6 (by decide) (by decide) (by kernel_rfl)
    simp only [e6] at hK ⊢
    rotate_left 1
    cases ho
    obtain ⟨t0, t1, t2, t3, t4, hT, e7⟩ := hs 7 (by decide) (by decide) (by kernel_rfl)
    simp only [e7] at hK ⊢
    rotate_left 1
    cases ho
    obtain ⟨t0, t1, t2, t3, t4, hT, e7⟩ := hs 7 (by decide) (by decide) (by kernel_rfl)
    simp only [e7] at hK ⊢
    rotate_left 1
    cases ho
    obtain ⟨t0, t1, t2, t3, t4, hT, e7⟩ := hs 7 (by decide) (by decide) (by kernel_rfl)
    simp only [e7] at hK ⊢
    rotate_left 1
    · exact absurd rfl hne
    cases ho
    have e9 : s 9 = _ := hs 9 (by decide) (by decide) (by kernel_rfl)
    simp only [e9] at hK ⊢
    rotate_left 1
    cases ho
    have e10 : s 10 = _ := hs 10 (by decide) (by decide) (by kernel_rfl)
    simp only [e10] at hK ⊢
    rotate_left 1
    all_goals
      try cases ho
      simp only [Act.put, List.setIfInBounds_toArray, List.set_cons_zero, List.set_cons_succ] at hK
      clear hs hne hwt
      go_simp
      all_goals (try go_wp2_with (first | (go_at_call 11; (with_reducible refine (polygon_n _ _ hAM2 hf hw).mono ?_); rintro e w' ⟨t0, t1, t2, t3, t4, hT, rfl, hb1⟩)))
      all_goals first | exact hK.out _ _ ⟨_, _, _, _, _, hT, rfl⟩ hb1 | exact hK.out _ _ ⟨_, _, _, _, _, hT, rfl⟩ (bl_refl _) | with_reducible exact hK.out _ _ rfl (bl_refl _) | with_reducible exact hK.out _ _ rfl (by assumption) | exact hK.out _ _ (by assumption) (by assumption)
  case ht_wk =>
    intro s hs W0 W hb0 hb
    have e0 : s 0 = _ := hs 0 (by decide) (by decide)
    have e1 : s 1 = _ := hs 1 (by decide) (by decide)
    have e2 : s 2 = _ := hs 2 (by decide) (by decide)
    have e3 : s 3 = _ := hs 3 (by decide) (by decide)
    have e4 : s 4 = _ := hs 4 (by decide) (by decide)
    have e5 : s 5 = _ := hs 5 (by decide) (by decide)
    obtain ⟨_, _, _, _, _, _, e6⟩ := hs 6 (by decide) (by decide)
    obtain ⟨_, _, _, _, _, _, e7⟩ := hs 7 (by decide) (by decide)
    obtain ⟨t0, t1, t2, t3, t4, hT, e8⟩ := hs 8 (by decide) (by decide)
    have e9 : s 9 = _ := hs 9 (by decide) (by decide)
    have e10 : s 10 = _ := hs 10 (by decide) (by decide)
    have e12 : s 12 = _ := hs 12 (by decide) (by decide)
    have e13 : s 13 = _ := hs 13 (by decide) (by decide)
    simp only [e0, e1, e2, e3, e4, e5, e6, e7, e8, e9, e10, e12, e13]
    rw [e8] at hb
    clear hs e0 e1 e2 e3 e4 e5 e6 e7 e8 e9 e10 e12 e13
    have RA := putN_at (R := w4.heap.size) (W := W0) (v := .agg #[.float .f64 t0, .float .f64 t1, .float .f64 t2, .float .f64 t3, .float .f64 t4]) 5 (fun i hi => by rcases (show i = 0 ∨ i = 1 ∨ i = 2 ∨ i = 3 ∨ i = 4 by omega) with rfl | rfl | rfl | rfl | rfl <;> first | (rw [keep hb0 h0]; rfl) | (rw [keep hb0 h1]; rfl) | (rw [keep hb0 h2]; rfl) | (rw [keep hb0 h3]; rfl) | (rw [keep hb0 h4]; rfl))
    have R0 := keep hb (RA 0 (by decide)); have R1 := keep hb (RA 1 (by decide)); have R2 := keep hb (RA 2 (by decide)); have R3 := keep hb (RA 3 (by decide)); have R4 := keep hb (RA 4 (by decide))
    simp only [cellAt] at R0 R1 R2 R3 R4
    replace z0_0 := keep hb ((putN_far 5 (by simp only; omega)).trans (keep hb0 z0_0)); replace z0_1 := keep hb ((putN_far 5 (by simp only; omega)).trans (keep hb0 z0_1)); replace z1_0 := keep hb ((putN_far 5 (by simp only; omega)).trans (keep hb0 z1_0)); replace z1_1 := keep hb ((putN_far 5 (by simp only; omega)).trans (keep hb0 z1_1)); replace z2_0 := keep hb ((putN_far 5 (by simp only; omega)).trans (keep hb0 z2_0)); replace z2_1 := keep hb ((putN_far 5 (by simp only; omega)).trans (keep hb0 z2_1)); replace z3_0 := keep hb ((putN_far 5 (by simp only; omega)).trans (keep hb0 z3_0)); replace z3_1 := keep hb ((putN_far 5 (by simp only; omega)).trans (keep hb0 z3_1)); replace g0 := keep hb ((putN_far 5 (by simp only; omega)).trans (keep hb0 g0)); replace g1 := keep hb ((putN_far 5 (by simp only; omega)).trans (keep hb0 g1)); replace g2 := keep hb ((putN_far 5 (by simp only; omega)).trans (keep hb0 g2)); replace g3 := keep hb ((putN_far 5 (by simp only; omega)).trans (keep hb0 g3)); replace g4 := keep hb ((putN_far 5 (by simp only; omega)).trans (keep hb0 g4)); replace k77 := keep hb ((putN_far 5 (by simp only; omega)).trans (keep hb0 k77))
    replace sM : Sl W gM 0 0 xs ys := fun i hi => ⟨keep hb ((putN_far 5 (by simp only; omega)).trans (keep hb0 (sM i hi).1)), keep hb ((putN_far 5 (by simp only; omega)).trans (keep hb0 (sM i hi).2))⟩
    have Bw := bl_trans (putN_bel (R := w4.heap.size) (v := .agg #[.float .f64 t0, .float .f64 t1, .float .f64 t2, .float .f64 t3, .float .f64 t4]) (bl_trans Bc hb0) (show w.heap.size ≤ w4.heap.size by omega) 5) hb
    have fP : ∀ a, W.frozen? a = w9.frozen? a := fun a => (hb.2 a).trans ((putN_frozen 5).trans (hb0.2 a))
    replace fh : ∀ o, W.frozen? ⟨w4.heap.size, o, none⟩ = false := fun o => (fP _).trans (fh o)
    replace fg : ∀ o, W.frozen? ⟨w5.heap.size, o, none⟩ = false := fun o => (fP _).trans (fg o)
    have hH5 := hT
    replace h0 := R0
    replace h1 := R1
    replace h2 := R2
    replace h3 := R3
    replace h4 := R4
    have Bc := Bw
    have hAL : AnyS W (.slice a 0 cap) 0 xs ys := ⟨_, _, rfl, Nat.zero_le _, by decide, by decide, oS, .inl rfl⟩
    clear RA R0 R1 R2 R3 R4 fP hb hb0 Bw
    go_upto_region 15 with (first | (go_at_call 12; (with_reducible refine (rpolygon_n _ _ hAL hf hw).mono ?_); rintro e wb ⟨v0, v1, v2, v3, v4, hH6, rfl, hb⟩; replace fh : ∀ o, wb.frozen? ⟨w4.heap.size, o, none⟩ = false := (fun o => (hb.2 _).trans (fh o)); replace fg : ∀ o, wb.frozen? ⟨w5.heap.size, o, none⟩ = false := (fun o => (hb.2 _).trans (fg o)); replace z0_0 := keep hb z0_0; replace z0_1 := keep hb z0_1; replace z1_0 := keep hb z1_0; replace z1_1 := keep hb z1_1; replace z2_0 := keep hb z2_0; replace z2_1 := keep hb z2_1; replace z3_0 := keep hb z3_0; replace z3_1 := keep hb z3_1; replace h0 := keep hb h0; replace h1 := keep hb h1; replace h2 := keep hb h2; replace h3 := keep hb h3; replace h4 := keep hb h4; replace g0 := keep hb g0; replace g1 := keep hb g1; replace g2 := keep hb g2; replace g3 := keep hb g3; replace g4 := keep hb g4; replace k77 := keep hb k77; replace Bc := bl_trans Bc hb; replace sM := sM.bel hb; clear hb))
    obtain ⟨XB, hX, u0, u1, u2, u3, u4, mo, bX⟩ := put5_all (p := .float .f64 v0) (q := .float .f64 v1) (r := .float .f64 v2) (s := .float .f64 v3) (t := .float .f64 v4) g0 g1 g2 g3 g4
    rw [← hX]
    have fQ : ∀ a, XB.frozen? a = wb.frozen? a := fun a => by rw [hX]; simp only [World.frozen?_setCell]
    replace z0_0 := (mo _ _ (.inl (by omega))).trans z0_0; replace z0_1 := (mo _ _ (.inl (by omega))).trans z0_1; replace z1_0 := (mo _ _ (.inl (by omega))).trans z1_0; replace z1_1 := (mo _ _ (.inl (by omega))).trans z1_1; replace z2_0 := (mo _ _ (.inl (by omega))).trans z2_0; replace z2_1 := (mo _ _ (.inl (by omega))).trans z2_1; replace z3_0 := (mo _ _ (.inl (by omega))).trans z3_0; replace z3_1 := (mo _ _ (.inl (by omega))).trans z3_1; replace h0 := (mo _ _ (.inl (by omega))).trans h0; replace h1 := (mo _ _ (.inl (by omega))).trans h1; replace h2 := (mo _ _ (.inl (by omega))).trans h2; replace h3 := (mo _ _ (.inl (by omega))).trans h3; replace h4 := (mo _ _ (.inl (by omega))).trans h4; replace k77 := (mo _ _ (.inl (by omega))).trans k77
    replace Bc := bX _ Bc (by omega)
    replace sM : Sl XB gM 0 0 xs ys := fun i hi => ⟨(mo _ _ (.inl (by omega))).trans (sM i hi).1, (mo _ _ (.inl (by omega))).trans (sM i hi).2⟩
    replace fh : ∀ o, XB.frozen? ⟨w4.heap.size, o, none⟩ = false := fun o => (fQ _).trans (fh o)
    replace fg : ∀ o, XB.frozen? ⟨w5.heap.size, o, none⟩ = false := fun o => (fQ _).trans (fg o)
    replace g0 := u0; replace g1 := u1; replace g2 := u2; replace g3 := u3; replace g4 := u4
    clear hX u0 u1 u2 u3 u4 mo bX fQ
    go_wp2_with (first | (go_at_call 8; (with_reducible refine (same12_n _ hH5 hH6 _ _).mono ?_); rintro e wc ⟨rfl, hb⟩; replace fh : ∀ o, wc.frozen? ⟨w4.heap.size, o, none⟩ = false := (fun o => (hb.2 _).trans (fh o)); replace fg : ∀ o, wc.frozen? ⟨w5.heap.size, o, none⟩ = false := (fun o => (hb.2 _).trans (fg o)); replace z0_0 := keep hb z0_0; replace z0_1 := keep hb z0_1; replace z1_0 := keep hb z1_0; replace z1_1 := keep hb z1_1; replace z2_0 := keep hb z2_0; replace z2_1 := keep hb z2_1; replace z3_0 := keep hb z3_0; replace z3_1 := keep hb z3_1; replace h0 := keep hb h0; replace h1 := keep hb h1; replace h2 := keep hb h2; replace h3 := keep hb h3; replace h4 := keep hb h4; replace g0 := keep hb g0; replace g1 := keep hb g1; replace g2 := keep hb g2; replace g3 := keep hb g3; replace g4 := keep hb g4; replace k77 := keep hb k77; replace Bc := bl_trans Bc hb; replace sM := sM.bel hb; clear hb) | (go_at_call 13; (with_reducible refine (sameV_0 gM cM a cap _).mono ?_); rintro e wd ⟨rfl, hb⟩; replace fh : ∀ o, wd.frozen? ⟨w4.heap.size, o, none⟩ = false := (fun o => (hb.2 _).trans (fh o)); replace fg : ∀ o, wd.frozen? ⟨w5.heap.size, o, none⟩ = false := (fun o => (hb.2 _).trans (fg o)); replace z0_0 := keep hb z0_0; replace z0_1 := keep hb z0_1; replace z1_0 := keep hb z1_0; replace z1_1 := keep hb z1_1; replace z2_0 := keep hb z2_0; replace z2_1 := keep hb z2_1; replace z3_0 := keep hb z3_0; replace z3_1 := keep hb z3_1; replace h0 := keep hb h0; replace h1 := keep hb h1; replace h2 := keep hb h2; replace h3 := keep hb h3; replace h4 := keep hb h4; replace g0 := keep hb g0; replace g1 := keep hb g1; replace g2 := keep hb g2; replace g3 := keep hb g3; replace g4 := keep hb g4; replace k77 := keep hb k77; replace Bc := bl_trans Bc hb; replace sM := sM.bel hb; clear hb))
    go_ret
    exact ⟨by first | rfl | simp [e0], Bc⟩

theorem walk_any (ax ay : Nat) (oax : okK .f64 ax) (oay : okK .f64 ay) (bx b_y : Nat) (obx : okK .f64 bx) (oby : okK .f64 b_y) (r : Nat) (orr : okK .f64 r) (Va : Value) (n : Nat) (xs ys : Nat → Nat) (fx fy : Nat) (ofx : okK .f64 fx) (ofy : okK .f64 fy) (wx wy : Nat) (owx : okK .f64 wx) (owy : okK .f64 wy) (w : World) (hA : AnyS w Va n xs ys) :
    Calls Tryz.prog 3 #[.agg #[.float .f64 ax, .float .f64 ay], .agg #[.float .f64 bx, .float .f64 b_y], .float .f64 r, Va, .agg #[.float .f64 fx, .float .f64 fy], .agg #[.float .f64 wx, .float .f64 wy]] w fun e w' => e = .returned (.bool true) ∧ Bel w w' := by
  obtain ⟨av, cap, rfl, hcap, hml, hby, oS, zA⟩ := hA
  rcases zA with rfl | ⟨hp, b, off, rfl, hs⟩
  · exact walk_none ax ay bx b_y r av cap xs ys fx fy wx wy (isP_self oax oay) (isP_self obx oby) (isF_self orr) (isP_self ofx ofy) (isP_self owx owy) w
  · exact walk_some ax ay bx b_y r b off n cap xs ys fx fy wx wy (isP_self oax oay) (isP_self obx oby) (isF_self orr) (isP_self ofx ofy) (isP_self owx owy) w hp hs oS hcap hml hby

end Go.Proofs.YtdeooadeohojcaaGreat
