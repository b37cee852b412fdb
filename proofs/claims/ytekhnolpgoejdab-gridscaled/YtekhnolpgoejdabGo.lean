/-
  What each function of package grid answers: one contract a function.
-/
import Derived.Test.YtekhnolpgoejdabGn
import Derived.Laws.FloatArith
import Derived.Laws.StructEq
import Derived.Deep.DeepCutAuto
import Derived.Laws.MakeOwn
import Derived.Below
import Derived.BigQuiet
import Derived.OwnWalk
import Derived.Laws.AppendOwn
import Derived.Laws.AppendOwnNone
import Derived.WalkKit
import Derived.WalkLawsBesides
import Derived.WalkSpells
import Derived.ProofKit
import Derived.OpenShut
import Derived.Deep.RegionHeld3
import Derived.Deep.LoopGhost
namespace Go.Proofs.Ytekhnolpgoejdab
open Go.ChangeShapes Go.WideShapes Go.ChangeAt Go.RowKit Go.Shelf Go.Lib Go.Sort
set_option linter.unusedVariables false
set_option linter.unusedSimpArgs false


def gcE (x y d : Nat) : Int := if withinK .f64 x 4787326403894837248 = true then (if withinK .f64 y 4787326403894837248 = true then (if mayW d = true then (if withinK .f64 (flK (Dv .quo x d)) 4845873199050653696 = true then (if withinK .f64 (flK (Dv .quo y d)) 4845873199050653696 = true then 0 else 140) else 140) else 140) else 5) else 5
def gcX (x y d : Nat) : Int := if gcE x y d = 0 then coK x d else 0
def gcY (x y d : Nat) : Int := if gcE x y d = 0 then coK y d else 0
theorem within_num {x m : Nat} (h : withinK .f64 x m = true) : nanK .f64 x = false := by
  unfold withinK at h
  revert h
  cases hn : nanK .f64 x with
  | false => intro _; rfl
  | true => intro h; exfalso; revert h; simp [leK, ltK, hn]
set_option maxRecDepth 100000 in
set_option maxHeartbeats 8000000 in
theorem cell14_s (x y d : Nat) (w : World) : Calls Try.prog 13 #[.agg #[.float .f64 x, .float .f64 y], .float .f64 d] w fun e w' => e = .returned (.tuple #[.int .i64 (gcX x y d), .int .i64 (gcY x y d), .int .i64 (gcE x y d)]) ∧ Bel w w' := by
  have B0 := bl_alloc (bl_refl w) #[.float .f64 x, .float .f64 y] 33
  cases hx : withinK .f64 x 4787326403894837248 with
  | false =>
    have e0 : gcE x y d = 5 := by unfold gcE; rw [hx]; rfl
    have e1 : gcX x y d = 0 := by unfold gcX; rw [e0]; rfl
    have e2 : gcY x y d = 0 := by unfold gcY; rw [e0]; rfl
    rw [e0, e1, e2]
    have qx : ∀ W, Calls Try.prog 34 #[.float .f64 x, .float .f64 4787326403894837248] W fun e w' => e = .returned (.bool false) ∧ w' = W := fun W => by rw [← hx]; exact within_6 x 4787326403894837248 W
    go_enter Try.func13, Try.ntmps13
    go_wp2_with (first | (go_at_call 34; (with_reducible refine (qx _).mono ?_); rintro e w' ⟨rfl, hw⟩; rw [hw]; clear hw))
    refine bodyPost_ret (v := .tuple #[.int .i64 0, .int .i64 0, .int .i64 5]) (by simp [results, Try.results13, go_sem]) rfl ?_
    exact ⟨rfl, B0⟩
  | true =>
  have nx := within_num hx
  have qx : ∀ W, Calls Try.prog 34 #[.float .f64 x, .float .f64 4787326403894837248] W fun e w' => e = .returned (.bool true) ∧ w' = W := fun W => by rw [← hx]; exact within_6 x 4787326403894837248 W
  cases hy : withinK .f64 y 4787326403894837248 with
  | false =>
    have e0 : gcE x y d = 5 := by unfold gcE; rw [hx, hy]; rfl
    have e1 : gcX x y d = 0 := by unfold gcX; rw [e0]; rfl
    have e2 : gcY x y d = 0 := by unfold gcY; rw [e0]; rfl
    rw [e0, e1, e2]
    have qy : ∀ W, Calls Try.prog 34 #[.float .f64 y, .float .f64 4787326403894837248] W fun e w' => e = .returned (.bool false) ∧ w' = W := fun W => by rw [← hy]; exact within_6 y 4787326403894837248 W
    go_enter Try.func13, Try.ntmps13
    go_wp2_with (first | (go_at_call 34; first | ((with_reducible refine (qx _).mono ?_); rintro e w' ⟨rfl, hw⟩; rw [hw]; clear hw) | ((with_reducible refine (qy _).mono ?_); rintro e w' ⟨rfl, hw⟩; rw [hw]; clear hw)))
    refine bodyPost_ret (v := .tuple #[.int .i64 0, .int .i64 0, .int .i64 5]) (by simp [results, Try.results13, go_sem]) rfl ?_
    exact ⟨rfl, B0⟩
  | true =>
  have ny := within_num hy
  have qy : ∀ W, Calls Try.prog 34 #[.float .f64 y, .float .f64 4787326403894837248] W fun e w' => e = .returned (.bool true) ∧ w' = W := fun W => by rw [← hy]; exact within_6 y 4787326403894837248 W
  cases hd : mayW d with
  | false =>
    have e0 : gcE x y d = 140 := by unfold gcE; rw [hx, hy, hd]; rfl
    have e1 : gcX x y d = 0 := by unfold gcX; rw [e0]; rfl
    have e2 : gcY x y d = 0 := by unfold gcY; rw [e0]; rfl
    rw [e0, e1, e2]
    go_enter Try.func13, Try.ntmps13
    go_wp2_with (first | (go_at_call 34; first | ((with_reducible refine (qx _).mono ?_); rintro e w' ⟨rfl, hw⟩; rw [hw]; clear hw) | ((with_reducible refine (qy _).mono ?_); rintro e w' ⟨rfl, hw⟩; rw [hw]; clear hw)) | (go_at_call 35; (with_reducible refine (mayBe_s _ _).mono ?_); rintro e w' ⟨rfl, hw⟩; rw [hw, hd]; clear hw))
    refine bodyPost_ret (v := .tuple #[.int .i64 0, .int .i64 0, .int .i64 140]) (by simp [results, Try.results13, go_sem]) rfl ?_
    exact ⟨rfl, B0⟩
  | true =>
  obtain ⟨fx, hfx⟩ : ∃ f, flK (Dv .quo x d) = f := ⟨_, rfl⟩
  obtain ⟨fy, hfy⟩ : ∃ f, flK (Dv .quo y d) = f := ⟨_, rfl⟩
  have wx := fun W => widths_s nx hd W
  have wy := fun W => widths_s ny hd W
  rw [hfx] at wx
  rw [hfy] at wy
  cases ha : withinK .f64 fx 4845873199050653696 with
  | false =>
    have e0 : gcE x y d = 140 := by unfold gcE; rw [hx, hy, hd, hfx, ha]; rfl
    have e1 : gcX x y d = 0 := by unfold gcX; rw [e0]; rfl
    have e2 : gcY x y d = 0 := by unfold gcY; rw [e0]; rfl
    rw [e0, e1, e2]
    have qa : ∀ W, Calls Try.prog 34 #[.float .f64 fx, .float .f64 4845873199050653696] W fun e w' => e = .returned (.bool false) ∧ w' = W := fun W => by rw [← ha]; exact within_6 fx 4845873199050653696 W
    clear hfx hfy ha
    go_enter Try.func13, Try.ntmps13
    go_wp2_with (first | (go_at_call 34; first | ((with_reducible refine (qx _).mono ?_); rintro e w' ⟨rfl, hw⟩; rw [hw]; clear hw) | ((with_reducible refine (qy _).mono ?_); rintro e w' ⟨rfl, hw⟩; rw [hw]; clear hw) | ((with_reducible refine (qa _).mono ?_); rintro e w' ⟨rfl, hw⟩; rw [hw]; clear hw)) | (go_at_call 35; (with_reducible refine (mayBe_s _ _).mono ?_); rintro e w' ⟨rfl, hw⟩; rw [hw, hd]; clear hw) | (go_at_call 36; (with_reducible refine (wx _).mono ?_); rintro e w' ⟨rfl, hw⟩; rw [hw]; clear hw))
    refine bodyPost_ret (v := .tuple #[.int .i64 0, .int .i64 0, .int .i64 140]) (by simp [results, Try.results13, go_sem]) rfl ?_
    exact ⟨rfl, B0⟩
  | true =>
  have qa : ∀ W, Calls Try.prog 34 #[.float .f64 fx, .float .f64 4845873199050653696] W fun e w' => e = .returned (.bool true) ∧ w' = W := fun W => by rw [← ha]; exact within_6 fx 4845873199050653696 W
  cases hb : withinK .f64 fy 4845873199050653696 with
  | false =>
    have e0 : gcE x y d = 140 := by unfold gcE; rw [hx, hy, hd, hfx, hfy, ha, hb]; rfl
    have e1 : gcX x y d = 0 := by unfold gcX; rw [e0]; rfl
    have e2 : gcY x y d = 0 := by unfold gcY; rw [e0]; rfl
    rw [e0, e1, e2]
    have qb : ∀ W, Calls Try.prog 34 #[.float .f64 fy, .float .f64 4845873199050653696] W fun e w' => e = .returned (.bool false) ∧ w' = W := fun W => by rw [← hb]; exact within_6 fy 4845873199050653696 W
    clear hfx hfy ha hb
    go_enter Try.func13, Try.ntmps13
    go_wp2_with (first | (go_at_call 34; first | ((with_reducible refine (qx _).mono ?_); rintro e w' ⟨rfl, hw⟩; rw [hw]; clear hw) | ((with_reducible refine (qy _).mono ?_); rintro e w' ⟨rfl, hw⟩; rw [hw]; clear hw) | ((with_reducible refine (qa _).mono ?_); rintro e w' ⟨rfl, hw⟩; rw [hw]; clear hw) | ((with_reducible refine (qb _).mono ?_); rintro e w' ⟨rfl, hw⟩; rw [hw]; clear hw)) | (go_at_call 35; (with_reducible refine (mayBe_s _ _).mono ?_); rintro e w' ⟨rfl, hw⟩; rw [hw, hd]; clear hw) | (go_at_call 36; first | ((with_reducible refine (wx _).mono ?_); rintro e w' ⟨rfl, hw⟩; rw [hw]; clear hw) | ((with_reducible refine (wy _).mono ?_); rintro e w' ⟨rfl, hw⟩; rw [hw]; clear hw)))
    refine bodyPost_ret (v := .tuple #[.int .i64 0, .int .i64 0, .int .i64 140]) (by simp [results, Try.results13, go_sem]) rfl ?_
    exact ⟨rfl, B0⟩
  | true =>
    have e0 : gcE x y d = 0 := by unfold gcE; rw [hx, hy, hd, hfx, hfy, ha, hb]; rfl
    have e1 : gcX x y d = coK x d := by unfold gcX; rw [e0]; rfl
    have e2 : gcY x y d = coK y d := by unfold gcY; rw [e0]; rfl
    rw [e0, e1, e2]
    have qb : ∀ W, Calls Try.prog 34 #[.float .f64 fy, .float .f64 4845873199050653696] W fun e w' => e = .returned (.bool true) ∧ w' = W := fun W => by rw [← hb]; exact within_6 fy 4845873199050653696 W
    clear hfx hfy ha hb e0 e1 e2
    have hco := fun W => cellOf_s nx ny hd W
    obtain ⟨cx, hcx⟩ : ∃ c, coK x d = c := ⟨_, rfl⟩
    obtain ⟨cy, hcy⟩ : ∃ c, coK y d = c := ⟨_, rfl⟩
    rw [hcx, hcy] at hco ⊢
    clear hcx hcy
    unfold ceV at hco
    simp only at hco
    go_enter Try.func13, Try.ntmps13
    go_upto_region 8 with (first | (go_at_call 34; first | ((with_reducible refine (qx _).mono ?_); rintro e w' ⟨rfl, hw⟩; rw [hw]; clear hw) | ((with_reducible refine (qy _).mono ?_); rintro e w' ⟨rfl, hw⟩; rw [hw]; clear hw) | ((with_reducible refine (qa _).mono ?_); rintro e w' ⟨rfl, hw⟩; rw [hw]; clear hw) | ((with_reducible refine (qb _).mono ?_); rintro e w' ⟨rfl, hw⟩; rw [hw]; clear hw)) | (go_at_call 35; (with_reducible refine (mayBe_s _ _).mono ?_); rintro e w' ⟨rfl, hw⟩; rw [hw, hd]; clear hw) | (go_at_call 36; first | ((with_reducible refine (wx _).mono ?_); rintro e w' ⟨rfl, hw⟩; rw [hw]; clear hw) | ((with_reducible refine (wy _).mono ?_); rintro e w' ⟨rfl, hw⟩; rw [hw]; clear hw)) | (go_at_call 37; (with_reducible refine (hco _).mono ?_); rintro e w1 ⟨rfl, hb1⟩))
    have k0 : (w1.alloc (.cells #[.int .i64 cx, .int .i64 cy] 75)).cell? ⟨w1.heap.size, 0, none⟩ = some (.int .i64 cx) := by rw [World.cell?_alloc_new]; rfl
    have k1 : (w1.alloc (.cells #[.int .i64 cx, .int .i64 cy] 75)).cell? ⟨w1.heap.size, 1, none⟩ = some (.int .i64 cy) := by rw [World.cell?_alloc_new]; rfl
    have B2 := bl_alloc (bl_trans B0 hb1) #[.int .i64 cx, .int .i64 cy] 75
    go_wp2
    go_region
    all_goals (go_wp2; refine bodyPost_ret (v := .tuple #[.int .i64 cx, .int .i64 cy, .int .i64 0]) (by simp [results, Try.results13, go_sem]) rfl ?_; exact ⟨rfl, by first | exact bl_drew B2 | exact B2⟩)

end Go.Proofs.Ytekhnolpgoejdab
