/-
  What each function of package poly answers, and what the reference of its chapter answers: one contract a function, for every float: the answer stands in the relation of its formula to what was given; of the memory that was there nothing has turned.
-/
import Derived.Test.YtpnkmflkjokhlaaVec
import Derived.Test.YtpnkmflkjokhlaaNi
import Derived.Test.YtpnkmflkjokhlaaNj
import Derived.Test.YtpnkmflkjokhlaaNg
import Derived.Test.YtpnkmflkjokhlaaLa
import Derived.Below
import Derived.Laws.AppendOwn
import Derived.Laws.AppendOwnNone
import Derived.OwnWalk
import Derived.WideShapes
import Derived.Laws.StructEq
import Derived.WalkKit
import Derived.WalkLawsBesides
import Derived.WalkSpells
import Derived.ProofKit
import Derived.OpenShut
import Derived.Deep.RegionHeld3
namespace Go.Proofs.Ytpnkmflkjokhlaa
open Go.ChangeShapes Go.WideShapes Go.ChangeAt Go.RowKit
set_option linter.unusedVariables false
set_option linter.unusedSimpArgs false

set_option maxRecDepth 100000 in
set_option maxHeartbeats 1000000 in
theorem lent10_any (V : Value) (n : Nat) (xs ys : Nat → Nat) (w : World) (h : AnyS w V n xs ys) : Calls Try.prog 15 #[V] w fun e w' => ∃ g c, e = .returned (.slice (some ⟨g, 0, none⟩) (n + 1) c) ∧ w.heap.size ≤ g ∧ Len1 w' g c n xs ys ∧ Bel w w' := by
  obtain ⟨a, cap, rfl, h2, h3, h4, h5, h6⟩ := h
  have own0 := Own.nil w.heap.size w
  have fin : ∀ {v1 : Value} {w1 w2 : World}, Bel w w1 → True := fun _ => trivial
  rcases h6 with rfl | ⟨h0, b, off, rfl, hs⟩
  · go_enter Try.func15, Try.ntmps15
    go_wp2_with (first | (have zn := m1; clear zn; at_builtin; refine wpList_app (L := []) (M := [(4635118810238550016, 0)]) rfl _ _ rfl rfl _ 0 1 rfl (own0.bel (bl_alloc (bl_refl w) _ _)) (mk1_laid w) (by decide) (by simp) (by decide) ?_; intro v1 w1 hO hb; have B := hb w (bl_alloc (bl_refl w) _ _) (Nat.le_refl _); obtain ⟨g, c, rfl, hg, hL⟩ := len1_fin (xs := xs) (ys := ys) (n := 0) hO; have hc := hL.1; have hcm := hL.2.1) | (at_builtin; refine wpList_run rfl _ _ rfl rfl rfl (fun ty => run_app0 w ty cap a) ?_; have m1 := hide True.intro) | go_in)
    go_ret
    exact ⟨g, c, rfl, hg, hL, B⟩
  · have sL : Sl w b off (lst xs ys n).length (px (lst xs ys n)) (py (lst xs ys n)) := by rw [lst_len]; exact hs.eq (fun i hi => (lst_x _ _ _ i hi).symm) (fun i hi => (lst_y _ _ _ i hi).symm)
    have hll := lst_len xs ys n
    have n1 : (n : Int) ≤ (n : Int) + 1 := by omega
    go_enter Try.func15, Try.ntmps15
    go_wp2_with (first | (have zn := m1; clear zn; at_builtin; refine wpList_app (L := lst xs ys n) (M := [(4635118810238550016, 0)]) rfl _ _ rfl rfl _ 0 1 rfl (hO.bel (bl_alloc (bl_refl w1) _ _)) (mk1_laid w1) (by decide) (Nat.le_trans B1.size (by simp)) (by rw [lst_len]; simp; omega) ?_; intro v2 w2 hO2 hb2; have B := hb2 w (bl_alloc B1 _ _) (Nat.le_refl _); obtain ⟨g, c, rfl, hg, hL⟩ := len1_fin hO2; have hc := hL.1; have hcm := hL.2.1; have c1 : (n : Int) ≤ (c : Int) := (by omega)) | (at_builtin; refine wpList_app (L := []) (M := lst xs ys n) rfl _ _ rfl rfl b off cap (by rw [lst_len]; rfl) own0 sL (by rw [lst_len]; exact h0) (Nat.le_refl _) (by rw [lst_len]; simp; omega) ?_; intro v1 w1 hO hb; have B1 := hb w (bl_refl w) (Nat.le_refl _); rw [List.nil_append] at hO; have m1 := hide True.intro) | go_in)
    go_ret
    exact ⟨g, c, rfl, hg, hL, B⟩

theorem npoly_any (V : Value) (n : Nat) (xs ys : Nat → Nat) (px py : Nat) {P : Vp} (w : World) (h : AnyS w V n xs ys) (hp : isP px py P) : Calls Try.prog 16 #[V, .agg #[.float .f64 px, .float .f64 py]] w fun e w' => ∃ x y : Nat, isP x y (pkF (decide (pyE xs ys n px py = 0)) (plF xs ys n P n).1.2.1 (0, 0)) ∧ e = .returned (.tuple #[.agg #[.float .f64 x, .float .f64 y], .int .i64 ((pkF (decide (pyE xs ys n px py = 0)) (plF xs ys n P n).2 0) : Int), .int .i64 (pyE xs ys n px py)]) ∧ Bel w w' := by
  by_cases he : pyE xs ys n px py = 0
  · refine (npoly_ok V n xs ys px py w h hp he).mono ?_
    rintro e w' ⟨x, y, sd, h1, _, h3, h4⟩
    obtain ⟨h5, h6⟩ := h1 he
    have d : decide (pyE xs ys n px py = 0) = true := decide_eq_true he
    rw [d]
    exact ⟨x, y, h5, by rw [h3, h6]; rfl, h4⟩
  · refine (npoly_err V n xs ys px py w h hp he).mono ?_
    rintro e w' ⟨x, y, sd, _, h2, h3, h4⟩
    obtain ⟨rfl, rfl, rfl⟩ := h2 he
    have d : decide (pyE xs ys n px py = 0) = false := decide_eq_false he
    rw [d]
    exact ⟨0, 0, isP_zero, by rw [h3]; rfl, h4⟩

theorem rpoly_any (V : Value) (n : Nat) (xs ys : Nat → Nat) (px py : Nat) {P : Vp} (w : World) (h : AnyS w V n xs ys) (hp : isP px py P) : Calls Try.prog 17 #[V, .agg #[.float .f64 px, .float .f64 py]] w fun e w' => ∃ x y : Nat, isP x y (pkF (decide (pyE xs ys n px py = 0)) (plF xs ys n P n).1.2.1 (0, 0)) ∧ e = .returned (.tuple #[.agg #[.float .f64 x, .float .f64 y], .int .i64 ((pkF (decide (pyE xs ys n px py = 0)) (plF xs ys n P n).2 0) : Int), .int .i64 (pyE xs ys n px py)]) ∧ Bel w w' := by
  by_cases he : pyE xs ys n px py = 0
  · refine (rpoly_ok V n xs ys px py w h hp he).mono ?_
    rintro e w' ⟨x, y, sd, h1, _, h3, h4⟩
    obtain ⟨h5, h6⟩ := h1 he
    have d : decide (pyE xs ys n px py = 0) = true := decide_eq_true he
    rw [d]
    exact ⟨x, y, h5, by rw [h3, h6]; rfl, h4⟩
  · refine (rpoly_err V n xs ys px py w h hp he).mono ?_
    rintro e w' ⟨x, y, sd, _, h2, h3, h4⟩
    obtain ⟨rfl, rfl, rfl⟩ := h2 he
    have d : decide (pyE xs ys n px py = 0) = false := decide_eq_false he
    rw [d]
    exact ⟨0, 0, isP_zero, by rw [h3]; rfl, h4⟩

theorem Len1.sl {w : World} {g c n : Nat} {xs ys : Nat → Nat} (h : Len1 w g c n xs ys) : Sl w g 0 (n + 1) (px (lst xs ys n ++ [(4635118810238550016, 0)])) (py (lst xs ys n ++ [(4635118810238550016, 0)])) := fun i hi => by
  by_cases e : i < n
  · have := h.2.2.1 i e
    rw [px_app1 _ _ _ (by rw [lst_len]; exact e), py_app1 _ _ _ (by rw [lst_len]; exact e), lst_x _ _ _ i e, lst_y _ _ _ i e]
    exact this
  · obtain rfl : i = n := by omega
    have e1 := px_app2 (lst xs ys i) [(4635118810238550016, 0)] 0
    have e2 := py_app2 (lst xs ys i) [(4635118810238550016, 0)] 0
    rw [lst_len, Nat.add_zero] at e1 e2
    rw [e1, e2, Nat.zero_add]
    exact ⟨h.2.2.2.1, h.2.2.2.2⟩
theorem oks_mk {n : Nat} {xs ys : Nat → Nat} (h : Oks xs ys n) : Oks (px (lst xs ys n ++ [(4635118810238550016, 0)])) (py (lst xs ys n ++ [(4635118810238550016, 0)])) (n + 1) := fun i hi => by
  by_cases e : i < n
  · rw [px_app1 _ _ _ (by rw [lst_len]; exact e), py_app1 _ _ _ (by rw [lst_len]; exact e), lst_x _ _ _ i e, lst_y _ _ _ i e]
    exact h i e
  · obtain rfl : i = n := by omega
    have e1 := px_app2 (lst xs ys i) [(4635118810238550016, 0)] 0
    have e2 := py_app2 (lst xs ys i) [(4635118810238550016, 0)] 0
    rw [lst_len, Nat.add_zero] at e1 e2
    rw [e1, e2]
    exact ⟨by rw [okK64]; decide, by rw [okK64]; decide⟩

end Go.Proofs.Ytpnkmflkjokhlaa
