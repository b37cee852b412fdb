/-
  What each function of package grid answers: one contract a function.
-/
import Derived.Test.YtekhnolpgoejdaaGq
import Derived.Test.YtekhnolpgoejdaaVec
import Derived.Laws.FloatArith
import Derived.Laws.StructEq
import Derived.Deep.DeepCutAuto
import Derived.Laws.MakeOwn
import Derived.Below
import Derived.BigQuiet
import Derived.OwnWalk
import Derived.Laws.AppendOwn
import Derived.Laws.AppendOwnNone
import Derived.WalkKit
import Derived.WalkLawsBesides
import Derived.WalkSpells
import Derived.ProofKit
import Derived.OpenShut
import Derived.Deep.RegionHeld3
import Derived.Deep.LoopGhost
namespace Go.Proofs.Ytekhnolpgoejdaa
open Go.ChangeShapes Go.WideShapes Go.ChangeAt Go.RowKit Go.Shelf Go.Lib Go.Sort
set_option linter.unusedVariables false
set_option linter.unusedSimpArgs false


theorem rwide_s (d : Nat) (w : World) : Calls Try.prog 33 #[.float .f64 d] w fun e w' => e = .returned (.bool (mayW d)) ∧ w' = w := by
  have c1 := cmp_le .f64
  have c2 := cmp_ge .f64
  cases h1 : leK .f64 4472074429978902528 d
  · go_enter Try.func33, Try.ntmps33
    go_wp2
    go_ret
    exact ⟨by simp [mayW, h1], rfl⟩
  · cases h2 : leK .f64 d 4787326403894837248
    all_goals
      go_enter Try.func33, Try.ntmps33
      go_wp2
      go_ret
      exact ⟨by simp [mayW, h1, h2], rfl⟩
set_option maxRecDepth 100000 in
set_option maxHeartbeats 8000000 in
theorem rcell_s (x y d : Nat) (w : World) (ox : okK .f64 x) (oy : okK .f64 y) : Calls Try.prog 13 #[.agg #[.float .f64 x, .float .f64 y], .float .f64 d] w fun e w' => e = .returned (.tuple #[.int .i64 (gcX x y d), .int .i64 (gcY x y d), .int .i64 (gcE x y d)]) ∧ Bel w w' := by
  have B0 := bl_alloc (bl_refl w) #[.float .f64 x, .float .f64 y] 26
  have k0 : (w.alloc (.cells #[.float .f64 x, .float .f64 y] 26)).cell? ⟨w.heap.size, 0, none⟩ = some (.float .f64 x) := by rw [World.cell?_alloc_new]; rfl
  have k1 : (w.alloc (.cells #[.float .f64 x, .float .f64 y] 26)).cell? ⟨w.heap.size, 1, none⟩ = some (.float .f64 y) := by rw [World.cell?_alloc_new]; rfl
  have hw0 := fun W => rWithin_any x y 4787326403894837248 ox oy (by rw [okK64]; decide) W
  cases hxy : (withinK .f64 x 4787326403894837248 && withinK .f64 y 4787326403894837248) with
  | false =>
    rw [hxy] at hw0
    have e0 : gcE x y d = 5 := by
      unfold gcE
      cases h1 : withinK .f64 x 4787326403894837248 with
      | false => rfl
      | true =>
        rw [h1] at hxy
        rw [show withinK .f64 y 4787326403894837248 = false from by simpa using hxy]
        rfl
    have e1 : gcX x y d = 0 := by unfold gcX; rw [e0]; rfl
    have e2 : gcY x y d = 0 := by unfold gcY; rw [e0]; rfl
    rw [e0, e1, e2]
    clear hxy
    go_enter Try.func13, Try.ntmps13
    go_wp2_with (first | (go_at_call 32; (with_reducible refine (hw0 _).mono ?_); rintro e w1 ⟨rfl, hb1⟩))
    refine bodyPost_ret (v := .tuple #[.int .i64 0, .int .i64 0, .int .i64 5]) (by simp [results, Try.results13, go_sem]) rfl ?_
    exact ⟨rfl, bl_trans B0 hb1⟩
  | true =>
  rw [hxy] at hw0
  have hx : withinK .f64 x 4787326403894837248 = true := (Bool.and_eq_true _ _ ▸ hxy).1
  have hy : withinK .f64 y 4787326403894837248 = true := (Bool.and_eq_true _ _ ▸ hxy).2
  have nx := within_num hx
  have ny := within_num hy
  clear hxy
  have hwi := fun W => rwide_s d W
  cases hd : mayW d with
  | false =>
    rw [hd] at hwi
    have e0 : gcE x y d = 140 := by unfold gcE; rw [hx, hy, hd]; rfl
    have e1 : gcX x y d = 0 := by unfold gcX; rw [e0]; rfl
    have e2 : gcY x y d = 0 := by unfold gcY; rw [e0]; rfl
    rw [e0, e1, e2]
    go_enter Try.func13, Try.ntmps13
    go_wp2_with (first | (go_at_call 32; (with_reducible refine (hw0 _).mono ?_); rintro e w1 ⟨rfl, hb1⟩) | (go_at_call 33; (with_reducible refine (hwi _).mono ?_); rintro e w' ⟨rfl, hw⟩; rw [hw]; clear hw))
    refine bodyPost_ret (v := .tuple #[.int .i64 0, .int .i64 0, .int .i64 140]) (by simp [results, Try.results13, go_sem]) rfl ?_
    exact ⟨rfl, bl_trans B0 hb1⟩
  | true =>
  rw [hd] at hwi
  obtain ⟨qx, nqx, _⟩ := qu_num nx hd
  obtain ⟨qy, nqy, _⟩ := qu_num ny hd
  have nfx := (fl_num nqx).1
  have nfy := (fl_num nqy).1
  have ofx := (fl_num nqx).2
  have ofy := (fl_num nqy).2
  have ax := abs53 nfx
  have ay := abs53 nfy
  have cx := co_in nx hd
  have cy := co_in ny hd
  obtain ⟨_, _, _, _, lx1, lx2⟩ := co_all nx hd
  obtain ⟨_, _, _, _, ly1, ly2⟩ := co_all ny hd
  have hfx := fun W => floor_s nqx W
  have hfy := fun W => floor_s nqy W
  have e0 : gcE x y d = if withinK .f64 (flK (Dv .quo x d)) 4845873199050653696 = true then (if withinK .f64 (flK (Dv .quo y d)) 4845873199050653696 = true then 0 else 140) else 140 := by unfold gcE; rw [hx, hy, hd]; rfl
  obtain ⟨q1, hq1⟩ : ∃ q, Dv .quo x d = q := ⟨_, rfl⟩
  obtain ⟨q2, hq2⟩ : ∃ q, Dv .quo y d = q := ⟨_, rfl⟩
  rw [hq1] at qx nfx ofx ax cx hfx e0
  rw [hq2] at qy nfy ofy ay cy hfy e0
  obtain ⟨fx, hfx0⟩ : ∃ f, flK q1 = f := ⟨_, rfl⟩
  obtain ⟨fy, hfy0⟩ : ∃ f, flK q2 = f := ⟨_, rfl⟩
  rw [hfx0] at nfx ofx ax cx hfx e0
  rw [hfy0] at nfy ofy ay cy hfy e0
  have rx := fun W => run_quo_some 24 qx W
  have ry := fun W => run_quo_some 24 qy W
  have abx := fun W => abs_any fx W ofx
  have aby := fun W => abs_any fy W ofy
  obtain ⟨gx, hgx⟩ : ∃ g, rgK .f64 fx = g := ⟨_, rfl⟩
  obtain ⟨gy, hgy⟩ : ∃ g, rgK .f64 fy = g := ⟨_, rfl⟩
  rw [hgx] at ax abx
  rw [hgy] at ay aby
  clear hgx hgy hfx0 hfy0 hq1 hq2
  have c2 := cmp_gt .f64
  cases ha : withinK .f64 fx 4845873199050653696 with
  | false =>
    rw [ha] at ax e0
    have e1 : gcX x y d = 0 := by unfold gcX; rw [e0]; rfl
    have e2 : gcY x y d = 0 := by unfold gcY; rw [e0]; rfl
    rw [e0, e1, e2]
    simp only [Bool.not_false] at ax
    clear e0 e1 e2 cx cy ay ha
    go_enter Try.func13, Try.ntmps13
    go_wp2_with (first | (go_at_call 32; (with_reducible refine (hw0 _).mono ?_); rintro e w1 ⟨rfl, hb1⟩; replace k0 := keepB hb1 k0; replace k1 := keepB hb1 k1) | (go_at_call 33; (with_reducible refine (hwi _).mono ?_); rintro e w' ⟨rfl, hw⟩; rw [hw]; clear hw) | (go_at_call 34; first | ((with_reducible refine (hfx _).mono ?_); rintro e w' ⟨rfl, hw⟩; rw [hw]; clear hw) | ((with_reducible refine (hfy _).mono ?_); rintro e w' ⟨rfl, hw⟩; rw [hw]; clear hw)) | (go_at_call 35; (with_reducible refine (abx _).mono ?_); rintro e w' ⟨rfl, hw⟩; rw [hw]; clear hw))
    refine bodyPost_ret (v := .tuple #[.int .i64 0, .int .i64 0, .int .i64 140]) (by simp [results, Try.results13, go_sem]) rfl ?_
    exact ⟨rfl, bl_trans B0 hb1⟩
  | true =>
  rw [ha] at ax e0
  cases hb : withinK .f64 fy 4845873199050653696 with
  | false =>
    rw [hb] at ay e0
    have e1 : gcX x y d = 0 := by unfold gcX; rw [e0]; rfl
    have e2 : gcY x y d = 0 := by unfold gcY; rw [e0]; rfl
    rw [e0, e1, e2]
    simp only [Bool.not_false, Bool.not_true] at ax ay
    clear e0 e1 e2 cx cy ha hb
    go_enter Try.func13, Try.ntmps13
    go_wp2_with (first | (go_at_call 32; (with_reducible refine (hw0 _).mono ?_); rintro e w1 ⟨rfl, hb1⟩; replace k0 := keepB hb1 k0; replace k1 := keepB hb1 k1) | (go_at_call 33; (with_reducible refine (hwi _).mono ?_); rintro e w' ⟨rfl, hw⟩; rw [hw]; clear hw) | (go_at_call 34; first | ((with_reducible refine (hfx _).mono ?_); rintro e w' ⟨rfl, hw⟩; rw [hw]; clear hw) | ((with_reducible refine (hfy _).mono ?_); rintro e w' ⟨rfl, hw⟩; rw [hw]; clear hw)) | (go_at_call 35; first | ((with_reducible refine (abx _).mono ?_); rintro e w' ⟨rfl, hw⟩; rw [hw]; clear hw) | ((with_reducible refine (aby _).mono ?_); rintro e w' ⟨rfl, hw⟩; rw [hw]; clear hw)))
    refine bodyPost_ret (v := .tuple #[.int .i64 0, .int .i64 0, .int .i64 140]) (by simp [results, Try.results13, go_sem]) rfl ?_
    exact ⟨rfl, bl_trans B0 hb1⟩
  | true =>
    rw [hb] at ay e0
    have e1 : gcX x y d = coK x d := by unfold gcX; rw [e0]; rfl
    have e2 : gcY x y d = coK y d := by unfold gcY; rw [e0]; rfl
    rw [e0, e1, e2]
    simp only [Bool.not_true] at ax ay
    have vx := fun W => conv_int (cx ha) lx1 lx2 W
    have vy := fun W => conv_int (cy hb) ly1 ly2 W
    obtain ⟨ix, hix⟩ : ∃ c, coK x d = c := ⟨_, rfl⟩
    obtain ⟨iy, hiy⟩ : ∃ c, coK y d = c := ⟨_, rfl⟩
    rw [hix] at vx ⊢
    rw [hiy] at vy ⊢
    clear e0 e1 e2 cx cy ha hb hix hiy lx1 lx2 ly1 ly2
    go_enter Try.func13, Try.ntmps13
    go_wp2_with (first | (go_at_call 32; (with_reducible refine (hw0 _).mono ?_); rintro e w1 ⟨rfl, hb1⟩; replace k0 := keepB hb1 k0; replace k1 := keepB hb1 k1) | (go_at_call 33; (with_reducible refine (hwi _).mono ?_); rintro e w' ⟨rfl, hw⟩; rw [hw]; clear hw) | (go_at_call 34; first | ((with_reducible refine (hfx _).mono ?_); rintro e w' ⟨rfl, hw⟩; rw [hw]; clear hw) | ((with_reducible refine (hfy _).mono ?_); rintro e w' ⟨rfl, hw⟩; rw [hw]; clear hw)) | (go_at_call 35; first | ((with_reducible refine (abx _).mono ?_); rintro e w' ⟨rfl, hw⟩; rw [hw]; clear hw) | ((with_reducible refine (aby _).mono ?_); rintro e w' ⟨rfl, hw⟩; rw [hw]; clear hw)))
    refine bodyPost_ret (v := .tuple #[.int .i64 ix, .int .i64 iy, .int .i64 0]) (by simp [results, Try.results13, go_sem]) rfl ?_
    exact ⟨rfl, bl_trans B0 hb1⟩

end Go.Proofs.Ytekhnolpgoejdaa
