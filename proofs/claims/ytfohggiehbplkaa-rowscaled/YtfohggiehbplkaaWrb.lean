/-
  What each function of package poly answers, and what the reference of its chapter answers: one contract a function, for every float: the answer stands in the relation of its formula to what was given; of the memory that was there nothing has turned.
-/
import Derived.Test.YtfohggiehbplkaaVec
import Derived.Test.YtfohggiehbplkaaWra
import Derived.Test.YtfohggiehbplkaaWf
import Derived.Test.YtfohggiehbplkaaWl
import Derived.Below
import Derived.WalkKit
import Derived.WalkLawsBesides
import Derived.WalkSpells
import Derived.ProofKit
import Derived.OpenShut
import Derived.Deep.RegionHeld3
namespace Go.Proofs.Ytfohggiehbplkaa
open Go.ChangeShapes Go.WideShapes Go.ChangeAt Go.RowKit
set_option linter.unusedVariables false
set_option linter.unusedSimpArgs false


theorem run_mul_o (t : TypeId) {m n x y : Nat} (w : World) (hx : Bd m x) (hy : Bd n y) (hn : m + n ≤ 900) : (binOp .mul t (.float .f64 x) (.float .f64 y)).run Try.prog w = .ok (.float .f64 (oF .mul x y)) w := by
  rw [run_mul_dv _ _ _ _ _ hx.2.1 hy.2.1, oF_dv (some_mul hx.2.1 hy.2.1) (bd_mul hx hy hn)]
theorem run_add_o (t : TypeId) {n x y : Nat} (w : World) (hx : Bd n x) (hy : Bd n y) (hn : n ≤ 900) : (binOp .add t (.float .f64 x) (.float .f64 y)).run Try.prog w = .ok (.float .f64 (oF .add x y)) w := by
  rw [run_add_dv _ _ _ _ _ hx.2.1 hy.2.1, oF_dv (some_add hx.2.1 hy.2.1) (bd_add hx hy hn)]
theorem run_sub_o (t : TypeId) {n x y : Nat} (w : World) (hx : Bd n x) (hy : Bd n y) (hn : n ≤ 900) : (binOp .sub t (.float .f64 x) (.float .f64 y)).run Try.prog w = .ok (.float .f64 (oF .sub x y)) w := by
  rw [run_sub_dv _ _ _ _ _ hx.2.1 hy.2.1 hy.1, oF_dv (some_sub hx.2.1 hy.2.1 hy.1) (bd_sub hx hy hn)]
theorem calls_belz {P : Program} {f : FuncId} {args : Array Value} {W : World} {p : BelBy W} {v : Value}
    (h : Calls P f args p.world fun e w' => e = .returned v ∧ w' = p.world) : Calls P f args p.world fun e w'' => e = .returned v ∧ ∃ q : BelBy W, w'' = q.world :=
  h.mono fun _ w' ⟨he, hb⟩ => ⟨he, p, hb⟩
theorem one_same9 (R : RD) (a b : SD) (w : World) (oR : rok R) (oa : sok a) (ob : sok b) (hal : alB R a b = true) (g : okB R a b = false) : Calls Try.prog 18 #[.agg #[.int .i64 R.ra, .int .i64 R.rb, .float .f64 R.r2, .float .f64 R.r3, .float .f64 R.r4, .float .f64 R.r5, .float .f64 R.r6, .float .f64 R.r7, .float .f64 R.r8, .float .f64 R.r9, .float .f64 R.r10, .float .f64 R.r11, .int .i64 R.ro, .float .f64 R.r13], .agg #[.float .f64 a.sm, .float .f64 a.si, .float .f64 a.sx, .float .f64 a.sy, .float .f64 a.ss], .agg #[.float .f64 b.sm, .float .f64 b.si, .float .f64 b.sx, .float .f64 b.sy, .float .f64 b.ss]] w fun e w' => e = .returned (.tuple #[.agg #[.int .i64 R.ra, .int .i64 R.rb, .float .f64 R.r2, .float .f64 R.r3, .float .f64 R.r4, .float .f64 R.r5, .float .f64 R.r6, .float .f64 R.r7, .float .f64 R.r8, .float .f64 R.r9, .float .f64 R.r10, .float .f64 R.r11, .int .i64 R.ro, .float .f64 R.r13], .agg #[.float .f64 a.sm, .float .f64 a.si, .float .f64 a.sx, .float .f64 a.sy, .float .f64 a.ss], .agg #[.float .f64 b.sm, .float .f64 b.si, .float .f64 b.sx, .float .f64 b.sy, .float .f64 b.ss], .int .i64 0]) ∧ Bel w w' :=
  one_s1 R a b w oR oa ob hal g
set_option maxRecDepth 100000 in
set_option maxHeartbeats 4000000 in
theorem goes_w (R : RD) (a b : SD) (w : World) (hA : ∀ i, i < 6 → Bd 40 (AW R i)) (hV : ∀ i, i < 6 → Bd 600 (VW a b i)) : Calls Try.prog 21 #[.agg #[.int .i64 R.ra, .int .i64 R.rb, .float .f64 R.r2, .float .f64 R.r3, .float .f64 R.r4, .float .f64 R.r5, .float .f64 R.r6, .float .f64 R.r7, .float .f64 R.r8, .float .f64 R.r9, .float .f64 R.r10, .float .f64 R.r11, .int .i64 R.ro, .float .f64 R.r13], .agg #[.float .f64 a.sm, .float .f64 a.si, .float .f64 a.sx, .float .f64 a.sy, .float .f64 a.ss], .agg #[.float .f64 b.sm, .float .f64 b.si, .float .f64 b.sx, .float .f64 b.sy, .float .f64 b.ss]] w fun e w' => e = .returned (.float .f64 (goW (AW R) (VW a b))) ∧ Bel w w' := by
  have b0 : Bd 641 (oF .mul R.r2 a.sx) := (pm (hA 0 (by omega)) (hV 0 (by omega)) (Nat.le_refl _) (Nat.le_refl _)).1
  have r0 := fun W => run_mul_o 24 W (hA 0 (by omega)) (hV 0 (by omega)) (by omega)
  have o0 := b0.1
  have b1 : Bd 641 (oF .mul R.r3 a.sy) := (pm (hA 1 (by omega)) (hV 1 (by omega)) (Nat.le_refl _) (Nat.le_refl _)).1
  have r1 := fun W => run_mul_o 24 W (hA 1 (by omega)) (hV 1 (by omega)) (by omega)
  have o1 := b1.1
  have b2 : Bd 641 (oF .mul R.r6 a.ss) := (pm (hA 2 (by omega)) (hV 2 (by omega)) (Nat.le_refl _) (Nat.le_refl _)).1
  have r2 := fun W => run_mul_o 24 W (hA 2 (by omega)) (hV 2 (by omega)) (by omega)
  have o2 := b2.1
  have b3 : Bd 641 (oF .mul R.r4 b.sx) := (pm (hA 3 (by omega)) (hV 3 (by omega)) (Nat.le_refl _) (Nat.le_refl _)).1
  have r3 := fun W => run_mul_o 24 W (hA 3 (by omega)) (hV 3 (by omega)) (by omega)
  have o3 := b3.1
  have b4 : Bd 641 (oF .mul R.r5 b.sy) := (pm (hA 4 (by omega)) (hV 4 (by omega)) (Nat.le_refl _) (Nat.le_refl _)).1
  have r4 := fun W => run_mul_o 24 W (hA 4 (by omega)) (hV 4 (by omega)) (by omega)
  have o4 := b4.1
  have b5 : Bd 641 (oF .mul R.r7 b.ss) := (pm (hA 5 (by omega)) (hV 5 (by omega)) (Nat.le_refl _) (Nat.le_refl _)).1
  have r5 := fun W => run_mul_o 24 W (hA 5 (by omega)) (hV 5 (by omega)) (by omega)
  have o5 := b5.1
  have bd1 : Bd 643 (oF .add (rgK .f64 (oF .mul R.r2 a.sx)) (rgK .f64 (oF .mul R.r3 a.sy))) := (add_oB (rg_bd b0) (rg_bd b1) (by omega)).1
  have bd2 : Bd 643 (oF .add (rgK .f64 (oF .mul R.r4 b.sx)) (rgK .f64 (oF .mul R.r5 b.sy))) := (add_oB (rg_bd b3) (rg_bd b4) (by omega)).1
  have bs1 : Bd 645 (oF .add (oF .add (rgK .f64 (oF .mul R.r2 a.sx)) (rgK .f64 (oF .mul R.r3 a.sy))) (rgK .f64 (oF .mul R.r6 a.ss))) := (add_oB bd1 (bd_mono (rg_bd b2) (show 641 ≤ 643 by omega)) (by omega)).1
  have bs2 : Bd 645 (oF .add (oF .add (rgK .f64 (oF .mul R.r4 b.sx)) (rgK .f64 (oF .mul R.r5 b.sy))) (rgK .f64 (oF .mul R.r7 b.ss))) := (add_oB bd2 (bd_mono (rg_bd b5) (show 641 ≤ 643 by omega)) (by omega)).1
  have q1 := fun W => run_add_o 24 W (rg_bd b0) (rg_bd b1) (by omega)
  have q2 := fun W => run_add_o 24 W bd1 (bd_mono (rg_bd b2) (show 641 ≤ 643 by omega)) (by omega)
  have q3 := fun W => run_add_o 24 W (rg_bd b3) (rg_bd b4) (by omega)
  have q4 := fun W => run_add_o 24 W bd2 (bd_mono (rg_bd b5) (show 641 ≤ 643 by omega)) (by omega)
  have q5 := fun W => run_add_o 24 W bs1 bs2 (by omega)
  unfold AW VW at r0 r1 r2 r3 r4 r5
  simp only at r0 r1 r2 r3 r4 r5
  obtain ⟨hR, hRt, hA_, hA_t, hB_, hB_t, B0, hz0⟩ := frm0 R a b w
  have k2 : (((w.alloc (.cells #[.int .i64 R.ra, .int .i64 R.rb, .float .f64 R.r2, .float .f64 R.r3, .float .f64 R.r4, .float .f64 R.r5, .float .f64 R.r6, .float .f64 R.r7, .float .f64 R.r8, .float .f64 R.r9, .float .f64 R.r10, .float .f64 R.r11, .int .i64 R.ro, .float .f64 R.r13] 43)).alloc (.cells #[.float .f64 a.sm, .float .f64 a.si, .float .f64 a.sx, .float .f64 a.sy, .float .f64 a.ss] 45)).alloc (.cells #[.float .f64 b.sm, .float .f64 b.si, .float .f64 b.sx, .float .f64 b.sy, .float .f64 b.ss] 45)).cell? ⟨w.heap.size, 2, none⟩ = some (.float .f64 R.r2) := by have h := hR 2 _ rfl; rwa [Nat.zero_add] at h
  have k3 : (((w.alloc (.cells #[.int .i64 R.ra, .int .i64 R.rb, .float .f64 R.r2, .float .f64 R.r3, .float .f64 R.r4, .float .f64 R.r5, .float .f64 R.r6, .float .f64 R.r7, .float .f64 R.r8, .float .f64 R.r9, .float .f64 R.r10, .float .f64 R.r11, .int .i64 R.ro, .float .f64 R.r13] 43)).alloc (.cells #[.float .f64 a.sm, .float .f64 a.si, .float .f64 a.sx, .float .f64 a.sy, .float .f64 a.ss] 45)).alloc (.cells #[.float .f64 b.sm, .float .f64 b.si, .float .f64 b.sx, .float .f64 b.sy, .float .f64 b.ss] 45)).cell? ⟨w.heap.size, 3, none⟩ = some (.float .f64 R.r3) := by have h := hR 3 _ rfl; rwa [Nat.zero_add] at h
  have k4 : (((w.alloc (.cells #[.int .i64 R.ra, .int .i64 R.rb, .float .f64 R.r2, .float .f64 R.r3, .float .f64 R.r4, .float .f64 R.r5, .float .f64 R.r6, .float .f64 R.r7, .float .f64 R.r8, .float .f64 R.r9, .float .f64 R.r10, .float .f64 R.r11, .int .i64 R.ro, .float .f64 R.r13] 43)).alloc (.cells #[.float .f64 a.sm, .float .f64 a.si, .float .f64 a.sx, .float .f64 a.sy, .float .f64 a.ss] 45)).alloc (.cells #[.float .f64 b.sm, .float .f64 b.si, .float .f64 b.sx, .float .f64 b.sy, .float .f64 b.ss] 45)).cell? ⟨w.heap.size, 4, none⟩ = some (.float .f64 R.r4) := by have h := hR 4 _ rfl; rwa [Nat.zero_add] at h
  have k5 : (((w.alloc (.cells #[.int .i64 R.ra, .int .i64 R.rb, .float .f64 R.r2, .float .f64 R.r3, .float .f64 R.r4, .float .f64 R.r5, .float .f64 R.r6, .float .f64 R.r7, .float .f64 R.r8, .float .f64 R.r9, .float .f64 R.r10, .float .f64 R.r11, .int .i64 R.ro, .float .f64 R.r13] 43)).alloc (.cells #[.float .f64 a.sm, .float .f64 a.si, .float .f64 a.sx, .float .f64 a.sy, .float .f64 a.ss] 45)).alloc (.cells #[.float .f64 b.sm, .float .f64 b.si, .float .f64 b.sx, .float .f64 b.sy, .float .f64 b.ss] 45)).cell? ⟨w.heap.size, 5, none⟩ = some (.float .f64 R.r5) := by have h := hR 5 _ rfl; rwa [Nat.zero_add] at h
  have k6 : (((w.alloc (.cells #[.int .i64 R.ra, .int .i64 R.rb, .float .f64 R.r2, .float .f64 R.r3, .float .f64 R.r4, .float .f64 R.r5, .float .f64 R.r6, .float .f64 R.r7, .float .f64 R.r8, .float .f64 R.r9, .float .f64 R.r10, .float .f64 R.r11, .int .i64 R.ro, .float .f64 R.r13] 43)).alloc (.cells #[.float .f64 a.sm, .float .f64 a.si, .float .f64 a.sx, .float .f64 a.sy, .float .f64 a.ss] 45)).alloc (.cells #[.float .f64 b.sm, .float .f64 b.si, .float .f64 b.sx, .float .f64 b.sy, .float .f64 b.ss] 45)).cell? ⟨w.heap.size, 6, none⟩ = some (.float .f64 R.r6) := by have h := hR 6 _ rfl; rwa [Nat.zero_add] at h
  have k7 : (((w.alloc (.cells #[.int .i64 R.ra, .int .i64 R.rb, .float .f64 R.r2, .float .f64 R.r3, .float .f64 R.r4, .float .f64 R.r5, .float .f64 R.r6, .float .f64 R.r7, .float .f64 R.r8, .float .f64 R.r9, .float .f64 R.r10, .float .f64 R.r11, .int .i64 R.ro, .float .f64 R.r13] 43)).alloc (.cells #[.float .f64 a.sm, .float .f64 a.si, .float .f64 a.sx, .float .f64 a.sy, .float .f64 a.ss] 45)).alloc (.cells #[.float .f64 b.sm, .float .f64 b.si, .float .f64 b.sx, .float .f64 b.sy, .float .f64 b.ss] 45)).cell? ⟨w.heap.size, 7, none⟩ = some (.float .f64 R.r7) := by have h := hR 7 _ rfl; rwa [Nat.zero_add] at h
  have a2 : (((w.alloc (.cells #[.int .i64 R.ra, .int .i64 R.rb, .float .f64 R.r2, .float .f64 R.r3, .float .f64 R.r4, .float .f64 R.r5, .float .f64 R.r6, .float .f64 R.r7, .float .f64 R.r8, .float .f64 R.r9, .float .f64 R.r10, .float .f64 R.r11, .int .i64 R.ro, .float .f64 R.r13] 43)).alloc (.cells #[.float .f64 a.sm, .float .f64 a.si, .float .f64 a.sx, .float .f64 a.sy, .float .f64 a.ss] 45)).alloc (.cells #[.float .f64 b.sm, .float .f64 b.si, .float .f64 b.sx, .float .f64 b.sy, .float .f64 b.ss] 45)).cell? ⟨w.heap.size + 1, 2, none⟩ = some (.float .f64 a.sx) := by have h := hA_ 2 _ rfl; rwa [Nat.zero_add] at h
  have c2 : (((w.alloc (.cells #[.int .i64 R.ra, .int .i64 R.rb, .float .f64 R.r2, .float .f64 R.r3, .float .f64 R.r4, .float .f64 R.r5, .float .f64 R.r6, .float .f64 R.r7, .float .f64 R.r8, .float .f64 R.r9, .float .f64 R.r10, .float .f64 R.r11, .int .i64 R.ro, .float .f64 R.r13] 43)).alloc (.cells #[.float .f64 a.sm, .float .f64 a.si, .float .f64 a.sx, .float .f64 a.sy, .float .f64 a.ss] 45)).alloc (.cells #[.float .f64 b.sm, .float .f64 b.si, .float .f64 b.sx, .float .f64 b.sy, .float .f64 b.ss] 45)).cell? ⟨w.heap.size + 1 + 1, 2, none⟩ = some (.float .f64 b.sx) := by have h := hB_ 2 _ rfl; rwa [Nat.zero_add] at h
  have a3 : (((w.alloc (.cells #[.int .i64 R.ra, .int .i64 R.rb, .float .f64 R.r2, .float .f64 R.r3, .float .f64 R.r4, .float .f64 R.r5, .float .f64 R.r6, .float .f64 R.r7, .float .f64 R.r8, .float .f64 R.r9, .float .f64 R.r10, .float .f64 R.r11, .int .i64 R.ro, .float .f64 R.r13] 43)).alloc (.cells #[.float .f64 a.sm, .float .f64 a.si, .float .f64 a.sx, .float .f64 a.sy, .float .f64 a.ss] 45)).alloc (.cells #[.float .f64 b.sm, .float .f64 b.si, .float .f64 b.sx, .float .f64 b.sy, .float .f64 b.ss] 45)).cell? ⟨w.heap.size + 1, 3, none⟩ = some (.float .f64 a.sy) := by have h := hA_ 3 _ rfl; rwa [Nat.zero_add] at h
  have c3 : (((w.alloc (.cells #[.int .i64 R.ra, .int .i64 R.rb, .float .f64 R.r2, .float .f64 R.r3, .float .f64 R.r4, .float .f64 R.r5, .float .f64 R.r6, .float .f64 R.r7, .float .f64 R.r8, .float .f64 R.r9, .float .f64 R.r10, .float .f64 R.r11, .int .i64 R.ro, .float .f64 R.r13] 43)).alloc (.cells #[.float .f64 a.sm, .float .f64 a.si, .float .f64 a.sx, .float .f64 a.sy, .float .f64 a.ss] 45)).alloc (.cells #[.float .f64 b.sm, .float .f64 b.si, .float .f64 b.sx, .float .f64 b.sy, .float .f64 b.ss] 45)).cell? ⟨w.heap.size + 1 + 1, 3, none⟩ = some (.float .f64 b.sy) := by have h := hB_ 3 _ rfl; rwa [Nat.zero_add] at h
  have a4 : (((w.alloc (.cells #[.int .i64 R.ra, .int .i64 R.rb, .float .f64 R.r2, .float .f64 R.r3, .float .f64 R.r4, .float .f64 R.r5, .float .f64 R.r6, .float .f64 R.r7, .float .f64 R.r8, .float .f64 R.r9, .float .f64 R.r10, .float .f64 R.r11, .int .i64 R.ro, .float .f64 R.r13] 43)).alloc (.cells #[.float .f64 a.sm, .float .f64 a.si, .float .f64 a.sx, .float .f64 a.sy, .float .f64 a.ss] 45)).alloc (.cells #[.float .f64 b.sm, .float .f64 b.si, .float .f64 b.sx, .float .f64 b.sy, .float .f64 b.ss] 45)).cell? ⟨w.heap.size + 1, 4, none⟩ = some (.float .f64 a.ss) := by have h := hA_ 4 _ rfl; rwa [Nat.zero_add] at h
  have c4 : (((w.alloc (.cells #[.int .i64 R.ra, .int .i64 R.rb, .float .f64 R.r2, .float .f64 R.r3, .float .f64 R.r4, .float .f64 R.r5, .float .f64 R.r6, .float .f64 R.r7, .float .f64 R.r8, .float .f64 R.r9, .float .f64 R.r10, .float .f64 R.r11, .int .i64 R.ro, .float .f64 R.r13] 43)).alloc (.cells #[.float .f64 a.sm, .float .f64 a.si, .float .f64 a.sx, .float .f64 a.sy, .float .f64 a.ss] 45)).alloc (.cells #[.float .f64 b.sm, .float .f64 b.si, .float .f64 b.sx, .float .f64 b.sy, .float .f64 b.ss] 45)).cell? ⟨w.heap.size + 1 + 1, 4, none⟩ = some (.float .f64 b.ss) := by have h := hB_ 4 _ rfl; rwa [Nat.zero_add] at h
  go_enter Try.func21, Try.ntmps21
  go_wp2
  have BN := belBy_some (((w.alloc (.cells #[.int .i64 R.ra, .int .i64 R.rb, .float .f64 R.r2, .float .f64 R.r3, .float .f64 R.r4, .float .f64 R.r5, .float .f64 R.r6, .float .f64 R.r7, .float .f64 R.r8, .float .f64 R.r9, .float .f64 R.r10, .float .f64 R.r11, .int .i64 R.ro, .float .f64 R.r13] 43)).alloc (.cells #[.float .f64 a.sm, .float .f64 a.si, .float .f64 a.sx, .float .f64 a.sy, .float .f64 a.ss] 45)).alloc (.cells #[.float .f64 b.sm, .float .f64 b.si, .float .f64 b.sx, .float .f64 b.sy, .float .f64 b.ss] 45))
  replace k2 := belBy_cell (W := (((w.alloc (.cells #[.int .i64 R.ra, .int .i64 R.rb, .float .f64 R.r2, .float .f64 R.r3, .float .f64 R.r4, .float .f64 R.r5, .float .f64 R.r6, .float .f64 R.r7, .float .f64 R.r8, .float .f64 R.r9, .float .f64 R.r10, .float .f64 R.r11, .int .i64 R.ro, .float .f64 R.r13] 43)).alloc (.cells #[.float .f64 a.sm, .float .f64 a.si, .float .f64 a.sx, .float .f64 a.sy, .float .f64 a.ss] 45)).alloc (.cells #[.float .f64 b.sm, .float .f64 b.si, .float .f64 b.sx, .float .f64 b.sy, .float .f64 b.ss] 45))) k2
  replace k3 := belBy_cell (W := (((w.alloc (.cells #[.int .i64 R.ra, .int .i64 R.rb, .float .f64 R.r2, .float .f64 R.r3, .float .f64 R.r4, .float .f64 R.r5, .float .f64 R.r6, .float .f64 R.r7, .float .f64 R.r8, .float .f64 R.r9, .float .f64 R.r10, .float .f64 R.r11, .int .i64 R.ro, .float .f64 R.r13] 43)).alloc (.cells #[.float .f64 a.sm, .float .f64 a.si, .float .f64 a.sx, .float .f64 a.sy, .float .f64 a.ss] 45)).alloc (.cells #[.float .f64 b.sm, .float .f64 b.si, .float .f64 b.sx, .float .f64 b.sy, .float .f64 b.ss] 45))) k3
  replace k4 := belBy_cell (W := (((w.alloc (.cells #[.int .i64 R.ra, .int .i64 R.rb, .float .f64 R.r2, .float .f64 R.r3, .float .f64 R.r4, .float .f64 R.r5, .float .f64 R.r6, .float .f64 R.r7, .float .f64 R.r8, .float .f64 R.r9, .float .f64 R.r10, .float .f64 R.r11, .int .i64 R.ro, .float .f64 R.r13] 43)).alloc (.cells #[.float .f64 a.sm, .float .f64 a.si, .float .f64 a.sx, .float .f64 a.sy, .float .f64 a.ss] 45)).alloc (.cells #[.float .f64 b.sm, .float .f64 b.si, .float .f64 b.sx, .float .f64 b.sy, .float .f64 b.ss] 45))) k4
  replace k5 := belBy_cell (W := (((w.alloc (.cells #[.int .i64 R.ra, .int .i64 R.rb, .float .f64 R.r2, .float .f64 R.r3, .float .f64 R.r4, .float .f64 R.r5, .float .f64 R.r6, .float .f64 R.r7, .float .f64 R.r8, .float .f64 R.r9, .float .f64 R.r10, .float .f64 R.r11, .int .i64 R.ro, .float .f64 R.r13] 43)).alloc (.cells #[.float .f64 a.sm, .float .f64 a.si, .float .f64 a.sx, .float .f64 a.sy, .float .f64 a.ss] 45)).alloc (.cells #[.float .f64 b.sm, .float .f64 b.si, .float .f64 b.sx, .float .f64 b.sy, .float .f64 b.ss] 45))) k5
  replace k6 := belBy_cell (W := (((w.alloc (.cells #[.int .i64 R.ra, .int .i64 R.rb, .float .f64 R.r2, .float .f64 R.r3, .float .f64 R.r4, .float .f64 R.r5, .float .f64 R.r6, .float .f64 R.r7, .float .f64 R.r8, .float .f64 R.r9, .float .f64 R.r10, .float .f64 R.r11, .int .i64 R.ro, .float .f64 R.r13] 43)).alloc (.cells #[.float .f64 a.sm, .float .f64 a.si, .float .f64 a.sx, .float .f64 a.sy, .float .f64 a.ss] 45)).alloc (.cells #[.float .f64 b.sm, .float .f64 b.si, .float .f64 b.sx, .float .f64 b.sy, .float .f64 b.ss] 45))) k6
  replace k7 := belBy_cell (W := (((w.alloc (.cells #[.int .i64 R.ra, .int .i64 R.rb, .float .f64 R.r2, .float .f64 R.r3, .float .f64 R.r4, .float .f64 R.r5, .float .f64 R.r6, .float .f64 R.r7, .float .f64 R.r8, .float .f64 R.r9, .float .f64 R.r10, .float .f64 R.r11, .int .i64 R.ro, .float .f64 R.r13] 43)).alloc (.cells #[.float .f64 a.sm, .float .f64 a.si, .float .f64 a.sx, .float .f64 a.sy, .float .f64 a.ss] 45)).alloc (.cells #[.float .f64 b.sm, .float .f64 b.si, .float .f64 b.sx, .float .f64 b.sy, .float .f64 b.ss] 45))) k7
  replace a2 := belBy_cell (W := (((w.alloc (.cells #[.int .i64 R.ra, .int .i64 R.rb, .float .f64 R.r2, .float .f64 R.r3, .float .f64 R.r4, .float .f64 R.r5, .float .f64 R.r6, .float .f64 R.r7, .float .f64 R.r8, .float .f64 R.r9, .float .f64 R.r10, .float .f64 R.r11, .int .i64 R.ro, .float .f64 R.r13] 43)).alloc (.cells #[.float .f64 a.sm, .float .f64 a.si, .float .f64 a.sx, .float .f64 a.sy, .float .f64 a.ss] 45)).alloc (.cells #[.float .f64 b.sm, .float .f64 b.si, .float .f64 b.sx, .float .f64 b.sy, .float .f64 b.ss] 45))) a2
  replace a3 := belBy_cell (W := (((w.alloc (.cells #[.int .i64 R.ra, .int .i64 R.rb, .float .f64 R.r2, .float .f64 R.r3, .float .f64 R.r4, .float .f64 R.r5, .float .f64 R.r6, .float .f64 R.r7, .float .f64 R.r8, .float .f64 R.r9, .float .f64 R.r10, .float .f64 R.r11, .int .i64 R.ro, .float .f64 R.r13] 43)).alloc (.cells #[.float .f64 a.sm, .float .f64 a.si, .float .f64 a.sx, .float .f64 a.sy, .float .f64 a.ss] 45)).alloc (.cells #[.float .f64 b.sm, .float .f64 b.si, .float .f64 b.sx, .float .f64 b.sy, .float .f64 b.ss] 45))) a3
  replace a4 := belBy_cell (W := (((w.alloc (.cells #[.int .i64 R.ra, .int .i64 R.rb, .float .f64 R.r2, .float .f64 R.r3, .float .f64 R.r4, .float .f64 R.r5, .float .f64 R.r6, .float .f64 R.r7, .float .f64 R.r8, .float .f64 R.r9, .float .f64 R.r10, .float .f64 R.r11, .int .i64 R.ro, .float .f64 R.r13] 43)).alloc (.cells #[.float .f64 a.sm, .float .f64 a.si, .float .f64 a.sx, .float .f64 a.sy, .float .f64 a.ss] 45)).alloc (.cells #[.float .f64 b.sm, .float .f64 b.si, .float .f64 b.sx, .float .f64 b.sy, .float .f64 b.ss] 45))) a4
  replace c2 := belBy_cell (W := (((w.alloc (.cells #[.int .i64 R.ra, .int .i64 R.rb, .float .f64 R.r2, .float .f64 R.r3, .float .f64 R.r4, .float .f64 R.r5, .float .f64 R.r6, .float .f64 R.r7, .float .f64 R.r8, .float .f64 R.r9, .float .f64 R.r10, .float .f64 R.r11, .int .i64 R.ro, .float .f64 R.r13] 43)).alloc (.cells #[.float .f64 a.sm, .float .f64 a.si, .float .f64 a.sx, .float .f64 a.sy, .float .f64 a.ss] 45)).alloc (.cells #[.float .f64 b.sm, .float .f64 b.si, .float .f64 b.sx, .float .f64 b.sy, .float .f64 b.ss] 45))) c2
  replace c3 := belBy_cell (W := (((w.alloc (.cells #[.int .i64 R.ra, .int .i64 R.rb, .float .f64 R.r2, .float .f64 R.r3, .float .f64 R.r4, .float .f64 R.r5, .float .f64 R.r6, .float .f64 R.r7, .float .f64 R.r8, .float .f64 R.r9, .float .f64 R.r10, .float .f64 R.r11, .int .i64 R.ro, .float .f64 R.r13] 43)).alloc (.cells #[.float .f64 a.sm, .float .f64 a.si, .float .f64 a.sx, .float .f64 a.sy, .float .f64 a.ss] 45)).alloc (.cells #[.float .f64 b.sm, .float .f64 b.si, .float .f64 b.sx, .float .f64 b.sy, .float .f64 b.ss] 45))) c3
  replace c4 := belBy_cell (W := (((w.alloc (.cells #[.int .i64 R.ra, .int .i64 R.rb, .float .f64 R.r2, .float .f64 R.r3, .float .f64 R.r4, .float .f64 R.r5, .float .f64 R.r6, .float .f64 R.r7, .float .f64 R.r8, .float .f64 R.r9, .float .f64 R.r10, .float .f64 R.r11, .int .i64 R.ro, .float .f64 R.r13] 43)).alloc (.cells #[.float .f64 a.sm, .float .f64 a.si, .float .f64 a.sx, .float .f64 a.sy, .float .f64 a.ss] 45)).alloc (.cells #[.float .f64 b.sm, .float .f64 b.si, .float .f64 b.sx, .float .f64 b.sy, .float .f64 b.ss] 45))) c4
  refine wp_region_quiet_bel (by kernel_rfl) (by kernel_rfl) ?_
  repeat (go_big_quiet_step (first | (go_at_call 22; exact calls_belz (abs_any _ _ (by with_reducible assumption)))))
  refine wpQuiet_nil ?_
  rintro _ ⟨pW, rfl⟩
  go_wp2
  have BN2 := belBy_some pW.world
  replace k2 := belBy_cell (W := pW.world) (k2 pW)
  replace k3 := belBy_cell (W := pW.world) (k3 pW)
  replace k4 := belBy_cell (W := pW.world) (k4 pW)
  replace k5 := belBy_cell (W := pW.world) (k5 pW)
  replace k6 := belBy_cell (W := pW.world) (k6 pW)
  replace k7 := belBy_cell (W := pW.world) (k7 pW)
  replace a2 := belBy_cell (W := pW.world) (a2 pW)
  replace a3 := belBy_cell (W := pW.world) (a3 pW)
  replace a4 := belBy_cell (W := pW.world) (a4 pW)
  replace c2 := belBy_cell (W := pW.world) (c2 pW)
  replace c3 := belBy_cell (W := pW.world) (c3 pW)
  replace c4 := belBy_cell (W := pW.world) (c4 pW)
  refine wp_region_quiet_bel (by kernel_rfl) (by kernel_rfl) ?_
  repeat (go_big_quiet_step (first | (go_at_call 22; exact calls_belz (abs_any _ _ (by with_reducible assumption)))))
  refine wpQuiet_nil ?_
  rintro _ ⟨qW, rfl⟩
  go_wp2
  go_ret
  exact ⟨rfl, bl_trans (bl_trans B0 pW.h) qW.h⟩

end Go.Proofs.Ytfohggiehbplkaa
