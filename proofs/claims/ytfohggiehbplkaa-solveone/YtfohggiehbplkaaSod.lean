/-
  Plain facts that go together.
-/
import Derived.Test.YtfohggiehbplkaaVec
import Derived.Test.YtfohggiehbplkaaSob
import Derived.Test.YtfohggiehbplkaaWrb
import Derived.Below
import Derived.WalkKit
import Derived.WalkLawsBesides
import Derived.WalkSpells
import Derived.ProofKit
import Derived.OpenShut
import Derived.Deep.RegionHeld3
namespace Go.Proofs.Ytfohggiehbplkaa
open Go.ChangeShapes Go.WideShapes Go.ChangeAt Go.RowKit
set_option linter.unusedSimpArgs false
set_option linter.unusedVariables false
/-- what the law asks of its row -/
structure MlQ (T : RD) (a b : SD) : Prop where
  r2 : mdB T.r2 = true
  r3 : mdB T.r3 = true
  r4 : mdB T.r4 = true
  r5 : mdB T.r5 = true
  r6 : mdB T.r6 = true
  r7 : mdB T.r7 = true
  am : leK .f64 0 a.sm = true
  ai : leK .f64 0 a.si = true
  a1 : mdB a.sm = true
  a2 : mdB a.si = true
  a3 : mdB a.sx = true
  a4 : mdB a.sy = true
  a5 : mdB a.ss = true
  bm : leK .f64 0 b.sm = true
  bi : leK .f64 0 b.si = true
  b1 : mdB b.sm = true
  b2 : mdB b.si = true
  b3 : mdB b.sx = true
  b4 : mdB b.sy = true
  b5 : mdB b.ss = true
  e8 : T.r8 = 0
  e9 : T.r9 = 0
  e10 : T.r10 = infW
  e11 : T.r11 = 0
  e13 : T.r13 = 0
  ea : T.ra = 0
  eb : T.rb = 1
  eo : T.ro = -1
theorem MlQ.un {T : RD} {a b : SD} (h : MlQ T a b) (oR : rok T) (oa : sok a) (ob : sok b) : UsN T a b := by
  obtain ⟨o2, o3, o4, o5, o6, o7, o8, o9, o10, o11, o13⟩ := oR
  obtain ⟨oam, oai, oax, oay, oas⟩ := oa
  obtain ⟨obm, obi, obx, oby, obs⟩ := ob
  have g := fun {x : Nat} (o : okK .f64 x) (h : mdB x = true) => us_num o (md_us o h)
  refine ⟨fun i hi => ?_, fun i hi => ?_, fun i hi => ?_, fun i hi => ?_, by rw [h.e8]; exact zero_us, by rw [h.e11]; exact zero_us, by rw [h.e9]; exact zero_us, .inr ?_, ?_⟩
  · rcases (show i = 0 ∨ i = 1 ∨ i = 2 ∨ i = 3 ∨ i = 4 ∨ i = 5 by omega) with rfl | rfl | rfl | rfl | rfl | rfl
    · exact g o2 h.r2
    · exact g o3 h.r3
    · exact g o6 h.r6
    · exact g o4 h.r4
    · exact g o5 h.r5
    · exact g o7 h.r7
  · rcases (show i = 0 ∨ i = 1 ∨ i = 2 ∨ i = 3 ∨ i = 4 ∨ i = 5 by omega) with rfl | rfl | rfl | rfl | rfl | rfl
    · exact g oax h.a3
    · exact g oay h.a4
    · exact g oas h.a5
    · exact g obx h.b3
    · exact g oby h.b4
    · exact g obs h.b5
  · rcases (show i = 0 ∨ i = 1 ∨ i = 2 ∨ i = 3 ∨ i = 4 ∨ i = 5 by omega) with rfl | rfl | rfl | rfl | rfl | rfl
    · exact g oam h.a1
    · exact g oam h.a1
    · exact g oai h.a2
    · exact g obm h.b1
    · exact g obm h.b1
    · exact g obi h.b2
  · rcases (show i = 0 ∨ i = 1 ∨ i = 2 ∨ i = 3 ∨ i = 4 ∨ i = 5 by omega) with rfl | rfl | rfl | rfl | rfl | rfl
    · exact us_pos (g oam h.a1) h.am
    · exact us_pos (g oam h.a1) h.am
    · exact us_pos (g oai h.a2) h.ai
    · exact us_pos (g obm h.b1) h.bm
    · exact us_pos (g obm h.b1) h.bm
    · exact us_pos (g obi h.b2) h.bi
  · rw [h.e10]
    exact ⟨by rw [okK64]; decide, by decide +kernel⟩
  · rw [h.e9, h.e10]
    decide +kernel
theorem we_us {m : Nat} (h : Us m) (p : leK .f64 0 m = true) : weB m = true := by
  unfold weB
  rw [p, h.bd.2.1]
  rfl
theorem MlQ.st {T : RD} {a b : SD} (h : MlQ T a b) (u : UsN T a b) : stB a = true ∧ stB b = true := by
  have m0 := we_us (u.fm 0 (by omega)) h.am
  have m2 := we_us (u.fm 2 (by omega)) h.ai
  have m3 := we_us (u.fm 3 (by omega)) h.bm
  have m5 := we_us (u.fm 5 (by omega)) h.bi
  unfold stB
  exact ⟨by rw [show weB a.sm = true from m0, show weB a.si = true from m2]; rfl, by rw [show weB b.sm = true from m3, show weB b.si = true from m5]; rfl⟩
/-- the two stills -/
def twS (a b : SD) : Nat → SD := fun i => if i = 0 then a else b
/-- the row alone may be asked of the two -/
theorem MlQ.asked {T : RD} {a b : SD} (h : MlQ T a b) (u : UsN T a b) : chB T 1 2 = true := by
  have f0 := (u.fa 0 (by omega)).bd.2.1
  have f1 := (u.fa 1 (by omega)).bd.2.1
  have f2 := (u.fa 2 (by omega)).bd.2.1
  have f3 := (u.fa 3 (by omega)).bd.2.1
  have f4 := (u.fa 4 (by omega)).bd.2.1
  have f5 := (u.fa 5 (by omega)).bd.2.1
  unfold AW at f0 f1 f2 f3 f4 f5
  simp only at f0 f1 f2 f3 f4 f5
  unfold chB mayB
  rw [h.ea, h.eb, h.eo, h.e8, h.e9, h.e10, h.e11, h.e13, f0, f1, f2, f3, f4, f5]
  decide +kernel
/-- the model of one row of two stills: warm, and one turn -/
theorem it_one {T : RD} {a b : SD} (ea : T.ra = 0) (eb : T.rb = 1) (eo : T.ro = -1) (e11 : T.r11 = 0) :
    itM (fun _ => T) (fun i => tlS (twS a b i)) 1 0 = (fun _ => T, warmM (fun _ => T) (fun i => tlS (twS a b i)) 1) ∧
    warmM (fun _ => T) (fun i => tlS (twS a b i)) 1 0 = (pushed T (tlS a) (tlS b) 0).1 ∧ warmM (fun _ => T) (fun i => tlS (twS a b i)) 1 1 = (pushed T (tlS a) (tlS b) 0).2 ∧
    (itM (fun _ => T) (fun i => tlS (twS a b i)) 1 1).1 0 = onR T (pushed T (tlS a) (tlS b) 0).1 (pushed T (tlS a) (tlS b) 0).2 ∧
    (itM (fun _ => T) (fun i => tlS (twS a b i)) 1 1).2 0 = onA T (pushed T (tlS a) (tlS b) 0).1 (pushed T (tlS a) (tlS b) 0).2 ∧
    (itM (fun _ => T) (fun i => tlS (twS a b i)) 1 1).2 1 = onB T (pushed T (tlS a) (tlS b) 0).1 (pushed T (tlS a) (tlS b) 0).2 := by
  have z : bitsK 0 = 0 := bits_zero
  have w0 : warmM (fun _ => T) (fun i => tlS (twS a b i)) 1 0 = (pushed T (tlS a) (tlS b) 0).1 := by
    unfold warmM warmM setF pushed
    rw [ea, eb, e11, z]
    rfl
  have w1 : warmM (fun _ => T) (fun i => tlS (twS a b i)) 1 1 = (pushed T (tlS a) (tlS b) 0).2 := by
    unfold warmM warmM setF pushed
    rw [ea, eb, e11, z]
    rfl
  have tr : toR (fun _ => T) 0 = T := by unfold toR; rw [if_neg (by rw [eo]; decide)]
  have e : itM (fun _ => T) (fun i => tlS (twS a b i)) 1 1 = rndM (fun _ => T) (warmM (fun _ => T) (fun i => tlS (twS a b i)) 1) 1 := rfl
  refine ⟨rfl, w0, w1, ?_, ?_, ?_⟩
  all_goals
    rw [e]
    unfold rndM rndM setF
    simp only [tr]
    rw [ea, eb]
    simp only [show (0 : Int).toNat = 0 from rfl, show (1 : Int).toNat = 1 from rfl]
    rw [w0, w1]
    rfl
set_option maxRecDepth 100000 in
set_option maxHeartbeats 4000000 in
theorem made_w (R : RD) (a b : SD) (w : World) (hA : ∀ i, i < 6 → Bd 40 (AW R i)) (hV : ∀ i, i < 6 → Bd 600 (VW a b i)) : Calls Try.prog 43 #[.agg #[.int .i64 R.ra, .int .i64 R.rb, .float .f64 R.r2, .float .f64 R.r3, .float .f64 R.r4, .float .f64 R.r5, .float .f64 R.r6, .float .f64 R.r7, .float .f64 R.r8, .float .f64 R.r9, .float .f64 R.r10, .float .f64 R.r11, .int .i64 R.ro, .float .f64 R.r13], .agg #[.float .f64 a.sm, .float .f64 a.si, .float .f64 a.sx, .float .f64 a.sy, .float .f64 a.ss], .agg #[.float .f64 b.sm, .float .f64 b.si, .float .f64 b.sx, .float .f64 b.sy, .float .f64 b.ss]] w fun e w' => e = .returned (.float .f64 (goW (AW R) (VW a b))) ∧ Bel w w' := by
  have b0 : Bd 641 (oF .mul R.r2 a.sx) := (pm (hA 0 (by omega)) (hV 0 (by omega)) (Nat.le_refl _) (Nat.le_refl _)).1
  have r0 := fun W => run_mul_o 24 W (hA 0 (by omega)) (hV 0 (by omega)) (by omega)
  have o0 := b0.1
  have b1 : Bd 641 (oF .mul R.r3 a.sy) := (pm (hA 1 (by omega)) (hV 1 (by omega)) (Nat.le_refl _) (Nat.le_refl _)).1
  have r1 := fun W => run_mul_o 24 W (hA 1 (by omega)) (hV 1 (by omega)) (by omega)
  have o1 := b1.1
  have b2 : Bd 641 (oF .mul R.r6 a.ss) := (pm (hA 2 (by omega)) (hV 2 (by omega)) (Nat.le_refl _) (Nat.le_refl _)).1
  have r2 := fun W => run_mul_o 24 W (hA 2 (by omega)) (hV 2 (by omega)) (by omega)
  have o2 := b2.1
  have b3 : Bd 641 (oF .mul R.r4 b.sx) := (pm (hA 3 (by omega)) (hV 3 (by omega)) (Nat.le_refl _) (Nat.le_refl _)).1
  have r3 := fun W => run_mul_o 24 W (hA 3 (by omega)) (hV 3 (by omega)) (by omega)
  have o3 := b3.1
  have b4 : Bd 641 (oF .mul R.r5 b.sy) := (pm (hA 4 (by omega)) (hV 4 (by omega)) (Nat.le_refl _) (Nat.le_refl _)).1
  have r4 := fun W => run_mul_o 24 W (hA 4 (by omega)) (hV 4 (by omega)) (by omega)
  have o4 := b4.1
  have b5 : Bd 641 (oF .mul R.r7 b.ss) := (pm (hA 5 (by omega)) (hV 5 (by omega)) (Nat.le_refl _) (Nat.le_refl _)).1
  have r5 := fun W => run_mul_o 24 W (hA 5 (by omega)) (hV 5 (by omega)) (by omega)
  have o5 := b5.1
  have bd1 : Bd 643 (oF .add (rgK .f64 (oF .mul R.r2 a.sx)) (rgK .f64 (oF .mul R.r3 a.sy))) := (add_oB (rg_bd b0) (rg_bd b1) (by omega)).1
  have bd2 : Bd 643 (oF .add (rgK .f64 (oF .mul R.r4 b.sx)) (rgK .f64 (oF .mul R.r5 b.sy))) := (add_oB (rg_bd b3) (rg_bd b4) (by omega)).1
  have bs1 : Bd 645 (oF .add (oF .add (rgK .f64 (oF .mul R.r2 a.sx)) (rgK .f64 (oF .mul R.r3 a.sy))) (rgK .f64 (oF .mul R.r6 a.ss))) := (add_oB bd1 (bd_mono (rg_bd b2) (show 641 ≤ 643 by omega)) (by omega)).1
  have bs2 : Bd 645 (oF .add (oF .add (rgK .f64 (oF .mul R.r4 b.sx)) (rgK .f64 (oF .mul R.r5 b.sy))) (rgK .f64 (oF .mul R.r7 b.ss))) := (add_oB bd2 (bd_mono (rg_bd b5) (show 641 ≤ 643 by omega)) (by omega)).1
  have q1 := fun W => run_add_o 24 W (rg_bd b0) (rg_bd b1) (by omega)
  have q2 := fun W => run_add_o 24 W bd1 (bd_mono (rg_bd b2) (show 641 ≤ 643 by omega)) (by omega)
  have q3 := fun W => run_add_o 24 W (rg_bd b3) (rg_bd b4) (by omega)
  have q4 := fun W => run_add_o 24 W bd2 (bd_mono (rg_bd b5) (show 641 ≤ 643 by omega)) (by omega)
  have q5 := fun W => run_add_o 24 W bs1 bs2 (by omega)
  unfold AW VW at r0 r1 r2 r3 r4 r5
  simp only at r0 r1 r2 r3 r4 r5
  obtain ⟨_, rfl, hR, hRt, hA_, hA_t, hB_, hB_t, B0, hz0⟩ := frm0 R a b w
  have k2 : (((w.alloc (.cells #[.int .i64 R.ra, .int .i64 R.rb, .float .f64 R.r2, .float .f64 R.r3, .float .f64 R.r4, .float .f64 R.r5, .float .f64 R.r6, .float .f64 R.r7, .float .f64 R.r8, .float .f64 R.r9, .float .f64 R.r10, .float .f64 R.r11, .int .i64 R.ro, .float .f64 R.r13] 43)).alloc (.cells #[.float .f64 a.sm, .float .f64 a.si, .float .f64 a.sx, .float .f64 a.sy, .float .f64 a.ss] 45)).alloc (.cells #[.float .f64 b.sm, .float .f64 b.si, .float .f64 b.sx, .float .f64 b.sy, .float .f64 b.ss] 45)).cell? ⟨w.heap.size, 2, none⟩ = some (.float .f64 R.r2) := by have h := hR 2 _ rfl; rwa [Nat.zero_add] at h
  have k3 : (((w.alloc (.cells #[.int .i64 R.ra, .int .i64 R.rb, .float .f64 R.r2, .float .f64 R.r3, .float .f64 R.r4, .float .f64 R.r5, .float .f64 R.r6, .float .f64 R.r7, .float .f64 R.r8, .float .f64 R.r9, .float .f64 R.r10, .float .f64 R.r11, .int .i64 R.ro, .float .f64 R.r13] 43)).alloc (.cells #[.float .f64 a.sm, .float .f64 a.si, .float .f64 a.sx, .float .f64 a.sy, .float .f64 a.ss] 45)).alloc (.cells #[.float .f64 b.sm, .float .f64 b.si, .float .f64 b.sx, .float .f64 b.sy, .float .f64 b.ss] 45)).cell? ⟨w.heap.size, 3, none⟩ = some (.float .f64 R.r3) := by have h := hR 3 _ rfl; rwa [Nat.zero_add] at h
  have k4 : (((w.alloc (.cells #[.int .i64 R.ra, .int .i64 R.rb, .float .f64 R.r2, .float .f64 R.r3, .float .f64 R.r4, .float .f64 R.r5, .float .f64 R.r6, .float .f64 R.r7, .float .f64 R.r8, .float .f64 R.r9, .float .f64 R.r10, .float .f64 R.r11, .int .i64 R.ro, .float .f64 R.r13] 43)).alloc (.cells #[.float .f64 a.sm, .float .f64 a.si, .float .f64 a.sx, .float .f64 a.sy, .float .f64 a.ss] 45)).alloc (.cells #[.float .f64 b.sm, .float .f64 b.si, .float .f64 b.sx, .float .f64 b.sy, .float .f64 b.ss] 45)).cell? ⟨w.heap.size, 4, none⟩ = some (.float .f64 R.r4) := by have h := hR 4 _ rfl; rwa [Nat.zero_add] at h
  have k5 : (((w.alloc (.cells #[.int .i64 R.ra, .int .i64 R.rb, .float .f64 R.r2, .float .f64 R.r3, .float .f64 R.r4, .float .f64 R.r5, .float .f64 R.r6, .float .f64 R.r7, .float .f64 R.r8, .float .f64 R.r9, .float .f64 R.r10, .float .f64 R.r11, .int .i64 R.ro, .float .f64 R.r13] 43)).alloc (.cells #[.float .f64 a.sm, .float .f64 a.si, .float .f64 a.sx, .float .f64 a.sy, .float .f64 a.ss] 45)).alloc (.cells #[.float .f64 b.sm, .float .f64 b.si, .float .f64 b.sx, .float .f64 b.sy, .float .f64 b.ss] 45)).cell? ⟨w.heap.size, 5, none⟩ = some (.float .f64 R.r5) := by have h := hR 5 _ rfl; rwa [Nat.zero_add] at h
  have k6 : (((w.alloc (.cells #[.int .i64 R.ra, .int .i64 R.rb, .float .f64 R.r2, .float .f64 R.r3, .float .f64 R.r4, .float .f64 R.r5, .float .f64 R.r6, .float .f64 R.r7, .float .f64 R.r8, .float .f64 R.r9, .float .f64 R.r10, .float .f64 R.r11, .int .i64 R.ro, .float .f64 R.r13] 43)).alloc (.cells #[.float .f64 a.sm, .float .f64 a.si, .float .f64 a.sx, .float .f64 a.sy, .float .f64 a.ss] 45)).alloc (.cells #[.float .f64 b.sm, .float .f64 b.si, .float .f64 b.sx, .float .f64 b.sy, .float .f64 b.ss] 45)).cell? ⟨w.heap.size, 6, none⟩ = some (.float .f64 R.r6) := by have h := hR 6 _ rfl; rwa [Nat.zero_add] at h
  have k7 : (((w.alloc (.cells #[.int .i64 R.ra, .int .i64 R.rb, .float .f64 R.r2, .float .f64 R.r3, .float .f64 R.r4, .float .f64 R.r5, .float .f64 R.r6, .float .f64 R.r7, .float .f64 R.r8, .float .f64 R.r9, .float .f64 R.r10, .float .f64 R.r11, .int .i64 R.ro, .float .f64 R.r13] 43)).alloc (.cells #[.float .f64 a.sm, .float .f64 a.si, .float .f64 a.sx, .float .f64 a.sy, .float .f64 a.ss] 45)).alloc (.cells #[.float .f64 b.sm, .float .f64 b.si, .float .f64 b.sx, .float .f64 b.sy, .float .f64 b.ss] 45)).cell? ⟨w.heap.size, 7, none⟩ = some (.float .f64 R.r7) := by have h := hR 7 _ rfl; rwa [Nat.zero_add] at h
  have a2 : (((w.alloc (.cells #[.int .i64 R.ra, .int .i64 R.rb, .float .f64 R.r2, .float .f64 R.r3, .float .f64 R.r4, .float .f64 R.r5, .float .f64 R.r6, .float .f64 R.r7, .float .f64 R.r8, .float .f64 R.r9, .float .f64 R.r10, .float .f64 R.r11, .int .i64 R.ro, .float .f64 R.r13] 43)).alloc (.cells #[.float .f64 a.sm, .float .f64 a.si, .float .f64 a.sx, .float .f64 a.sy, .float .f64 a.ss] 45)).alloc (.cells #[.float .f64 b.sm, .float .f64 b.si, .float .f64 b.sx, .float .f64 b.sy, .float .f64 b.ss] 45)).cell? ⟨w.heap.size + 1, 2, none⟩ = some (.float .f64 a.sx) := by have h := hA_ 2 _ rfl; rwa [Nat.zero_add] at h
  have c2 : (((w.alloc (.cells #[.int .i64 R.ra, .int .i64 R.rb, .float .f64 R.r2, .float .f64 R.r3, .float .f64 R.r4, .float .f64 R.r5, .float .f64 R.r6, .float .f64 R.r7, .float .f64 R.r8, .float .f64 R.r9, .float .f64 R.r10, .float .f64 R.r11, .int .i64 R.ro, .float .f64 R.r13] 43)).alloc (.cells #[.float .f64 a.sm, .float .f64 a.si, .float .f64 a.sx, .float .f64 a.sy, .float .f64 a.ss] 45)).alloc (.cells #[.float .f64 b.sm, .float .f64 b.si, .float .f64 b.sx, .float .f64 b.sy, .float .f64 b.ss] 45)).cell? ⟨w.heap.size + 1 + 1, 2, none⟩ = some (.float .f64 b.sx) := by have h := hB_ 2 _ rfl; rwa [Nat.zero_add] at h
  have a3 : (((w.alloc (.cells #[.int .i64 R.ra, .int .i64 R.rb, .float .f64 R.r2, .float .f64 R.r3, .float .f64 R.r4, .float .f64 R.r5, .float .f64 R.r6, .float .f64 R.r7, .float .f64 R.r8, .float .f64 R.r9, .float .f64 R.r10, .float .f64 R.r11, .int .i64 R.ro, .float .f64 R.r13] 43)).alloc (.cells #[.float .f64 a.sm, .float .f64 a.si, .float .f64 a.sx, .float .f64 a.sy, .float .f64 a.ss] 45)).alloc (.cells #[.float .f64 b.sm, .float .f64 b.si, .float .f64 b.sx, .float .f64 b.sy, .float .f64 b.ss] 45)).cell? ⟨w.heap.size + 1, 3, none⟩ = some (.float .f64 a.sy) := by have h := hA_ 3 _ rfl; rwa [Nat.zero_add] at h
  have c3 : (((w.alloc (.cells #[.int .i64 R.ra, .int .i64 R.rb, .float .f64 R.r2, .float .f64 R.r3, .float .f64 R.r4, .float .f64 R.r5, .float .f64 R.r6, .float .f64 R.r7, .float .f64 R.r8, .float .f64 R.r9, .float .f64 R.r10, .float .f64 R.r11, .int .i64 R.ro, .float .f64 R.r13] 43)).alloc (.cells #[.float .f64 a.sm, .float .f64 a.si, .float .f64 a.sx, .float .f64 a.sy, .float .f64 a.ss] 45)).alloc (.cells #[.float .f64 b.sm, .float .f64 b.si, .float .f64 b.sx, .float .f64 b.sy, .float .f64 b.ss] 45)).cell? ⟨w.heap.size + 1 + 1, 3, none⟩ = some (.float .f64 b.sy) := by have h := hB_ 3 _ rfl; rwa [Nat.zero_add] at h
  have a4 : (((w.alloc (.cells #[.int .i64 R.ra, .int .i64 R.rb, .float .f64 R.r2, .float .f64 R.r3, .float .f64 R.r4, .float .f64 R.r5, .float .f64 R.r6, .float .f64 R.r7, .float .f64 R.r8, .float .f64 R.r9, .float .f64 R.r10, .float .f64 R.r11, .int .i64 R.ro, .float .f64 R.r13] 43)).alloc (.cells #[.float .f64 a.sm, .float .f64 a.si, .float .f64 a.sx, .float .f64 a.sy, .float .f64 a.ss] 45)).alloc (.cells #[.float .f64 b.sm, .float .f64 b.si, .float .f64 b.sx, .float .f64 b.sy, .float .f64 b.ss] 45)).cell? ⟨w.heap.size + 1, 4, none⟩ = some (.float .f64 a.ss) := by have h := hA_ 4 _ rfl; rwa [Nat.zero_add] at h
  have c4 : (((w.alloc (.cells #[.int .i64 R.ra, .int .i64 R.rb, .float .f64 R.r2, .float .f64 R.r3, .float .f64 R.r4, .float .f64 R.r5, .float .f64 R.r6, .float .f64 R.r7, .float .f64 R.r8, .float .f64 R.r9, .float .f64 R.r10, .float .f64 R.r11, .int .i64 R.ro, .float .f64 R.r13] 43)).alloc (.cells #[.float .f64 a.sm, .float .f64 a.si, .float .f64 a.sx, .float .f64 a.sy, .float .f64 a.ss] 45)).alloc (.cells #[.float .f64 b.sm, .float .f64 b.si, .float .f64 b.sx, .float .f64 b.sy, .float .f64 b.ss] 45)).cell? ⟨w.heap.size + 1 + 1, 4, none⟩ = some (.float .f64 b.ss) := by have h := hB_ 4 _ rfl; rwa [Nat.zero_add] at h
  go_enter Try.func43, Try.ntmps43
  go_wp2
  have BN := belBy_some (((w.alloc (.cells #[.int .i64 R.ra, .int .i64 R.rb, .float .f64 R.r2, .float .f64 R.r3, .float .f64 R.r4, .float .f64 R.r5, .float .f64 R.r6, .float .f64 R.r7, .float .f64 R.r8, .float .f64 R.r9, .float .f64 R.r10, .float .f64 R.r11, .int .i64 R.ro, .float .f64 R.r13] 43)).alloc (.cells #[.float .f64 a.sm, .float .f64 a.si, .float .f64 a.sx, .float .f64 a.sy, .float .f64 a.ss] 45)).alloc (.cells #[.float .f64 b.sm, .float .f64 b.si, .float .f64 b.sx, .float .f64 b.sy, .float .f64 b.ss] 45))
  replace k2 := belBy_cell (W := (((w.alloc (.cells #[.int .i64 R.ra, .int .i64 R.rb, .float .f64 R.r2, .float .f64 R.r3, .float .f64 R.r4, .float .f64 R.r5, .float .f64 R.r6, .float .f64 R.r7, .float .f64 R.r8, .float .f64 R.r9, .float .f64 R.r10, .float .f64 R.r11, .int .i64 R.ro, .float .f64 R.r13] 43)).alloc (.cells #[.float .f64 a.sm, .float .f64 a.si, .float .f64 a.sx, .float .f64 a.sy, .float .f64 a.ss] 45)).alloc (.cells #[.float .f64 b.sm, .float .f64 b.si, .float .f64 b.sx, .float .f64 b.sy, .float .f64 b.ss] 45))) k2
  replace k3 := belBy_cell (W := (((w.alloc (.cells #[.int .i64 R.ra, .int .i64 R.rb, .float .f64 R.r2, .float .f64 R.r3, .float .f64 R.r4, .float .f64 R.r5, .float .f64 R.r6, .float .f64 R.r7, .float .f64 R.r8, .float .f64 R.r9, .float .f64 R.r10, .float .f64 R.r11, .int .i64 R.ro, .float .f64 R.r13] 43)).alloc (.cells #[.float .f64 a.sm, .float .f64 a.si, .float .f64 a.sx, .float .f64 a.sy, .float .f64 a.ss] 45)).alloc (.cells #[.float .f64 b.sm, .float .f64 b.si, .float .f64 b.sx, .float .f64 b.sy, .float .f64 b.ss] 45))) k3
  replace k4 := belBy_cell (W := (((w.alloc (.cells #[.int .i64 R.ra, .int .i64 R.rb, .float .f64 R.r2, .float .f64 R.r3, .float .f64 R.r4, .float .f64 R.r5, .float .f64 R.r6, .float .f64 R.r7, .float .f64 R.r8, .float .f64 R.r9, .float .f64 R.r10, .float .f64 R.r11, .int .i64 R.ro, .float .f64 R.r13] 43)).alloc (.cells #[.float .f64 a.sm, .float .f64 a.si, .float .f64 a.sx, .float .f64 a.sy, .float .f64 a.ss] 45)).alloc (.cells #[.float .f64 b.sm, .float .f64 b.si, .float .f64 b.sx, .float .f64 b.sy, .float .f64 b.ss] 45))) k4
  replace k5 := belBy_cell (W := (((w.alloc (.cells #[.int .i64 R.ra, .int .i64 R.rb, .float .f64 R.r2, .float .f64 R.r3, .float .f64 R.r4, .float .f64 R.r5, .float .f64 R.r6, .float .f64 R.r7, .float .f64 R.r8, .float .f64 R.r9, .float .f64 R.r10, .float .f64 R.r11, .int .i64 R.ro, .float .f64 R.r13] 43)).alloc (.cells #[.float .f64 a.sm, .float .f64 a.si, .float .f64 a.sx, .float .f64 a.sy, .float .f64 a.ss] 45)).alloc (.cells #[.float .f64 b.sm, .float .f64 b.si, .float .f64 b.sx, .float .f64 b.sy, .float .f64 b.ss] 45))) k5
  replace k6 := belBy_cell (W := (((w.alloc (.cells #[.int .i64 R.ra, .int .i64 R.rb, .float .f64 R.r2, .float .f64 R.r3, .float .f64 R.r4, .float .f64 R.r5, .float .f64 R.r6, .float .f64 R.r7, .float .f64 R.r8, .float .f64 R.r9, .float .f64 R.r10, .float .f64 R.r11, .int .i64 R.ro, .float .f64 R.r13] 43)).alloc (.cells #[.float .f64 a.sm, .float .f64 a.si, .float .f64 a.sx, .float .f64 a.sy, .float .f64 a.ss] 45)).alloc (.cells #[.float .f64 b.sm, .float .f64 b.si, .float .f64 b.sx, .float .f64 b.sy, .float .f64 b.ss] 45))) k6
  replace k7 := belBy_cell (W := (((w.alloc (.cells #[.int .i64 R.ra, .int .i64 R.rb, .float .f64 R.r2, .float .f64 R.r3, .float .f64 R.r4, .float .f64 R.r5, .float .f64 R.r6, .float .f64 R.r7, .float .f64 R.r8, .float .f64 R.r9, .float .f64 R.r10, .float .f64 R.r11, .int .i64 R.ro, .float .f64 R.r13] 43)).alloc (.cells #[.float .f64 a.sm, .float .f64 a.si, .float .f64 a.sx, .float .f64 a.sy, .float .f64 a.ss] 45)).alloc (.cells #[.float .f64 b.sm, .float .f64 b.si, .float .f64 b.sx, .float .f64 b.sy, .float .f64 b.ss] 45))) k7
  replace a2 := belBy_cell (W := (((w.alloc (.cells #[.int .i64 R.ra, .int .i64 R.rb, .float .f64 R.r2, .float .f64 R.r3, .float .f64 R.r4, .float .f64 R.r5, .float .f64 R.r6, .float .f64 R.r7, .float .f64 R.r8, .float .f64 R.r9, .float .f64 R.r10, .float .f64 R.r11, .int .i64 R.ro, .float .f64 R.r13] 43)).alloc (.cells #[.float .f64 a.sm, .float .f64 a.si, .float .f64 a.sx, .float .f64 a.sy, .float .f64 a.ss] 45)).alloc (.cells #[.float .f64 b.sm, .float .f64 b.si, .float .f64 b.sx, .float .f64 b.sy, .float .f64 b.ss] 45))) a2
  replace a3 := belBy_cell (W := (((w.alloc (.cells #[.int .i64 R.ra, .int .i64 R.rb, .float .f64 R.r2, .float .f64 R.r3, .float .f64 R.r4, .float .f64 R.r5, .float .f64 R.r6, .float .f64 R.r7, .float .f64 R.r8, .float .f64 R.r9, .float .f64 R.r10, .float .f64 R.r11, .int .i64 R.ro, .float .f64 R.r13] 43)).alloc (.cells #[.float .f64 a.sm, .float .f64 a.si, .float .f64 a.sx, .float .f64 a.sy, .float .f64 a.ss] 45)).alloc (.cells #[.float .f64 b.sm, .float .f64 b.si, .float .f64 b.sx, .float .f64 b.sy, .float .f64 b.ss] 45))) a3
  replace a4 := belBy_cell (W := (((w.alloc (.cells #[.int .i64 R.ra, .int .i64 R.rb, .float .f64 R.r2, .float .f64 R.r3, .float .f64 R.r4, .float .f64 R.r5, .float .f64 R.r6, .float .f64 R.r7, .float .f64 R.r8, .float .f64 R.r9, .float .f64 R.r10, .float .f64 R.r11, .int .i64 R.ro, .float .f64 R.r13] 43)).alloc (.cells #[.float .f64 a.sm, .float .f64 a.si, .float .f64 a.sx, .float .f64 a.sy, .float .f64 a.ss] 45)).alloc (.cells #[.float .f64 b.sm, .float .f64 b.si, .float .f64 b.sx, .float .f64 b.sy, .float .f64 b.ss] 45))) a4
  replace c2 := belBy_cell (W := (((w.alloc (.cells #[.int .i64 R.ra, .int .i64 R.rb, .float .f64 R.r2, .float .f64 R.r3, .float .f64 R.r4, .float .f64 R.r5, .float .f64 R.r6, .float .f64 R.r7, .float .f64 R.r8, .float .f64 R.r9, .float .f64 R.r10, .float .f64 R.r11, .int .i64 R.ro, .float .f64 R.r13] 43)).alloc (.cells #[.float .f64 a.sm, .float .f64 a.si, .float .f64 a.sx, .float .f64 a.sy, .float .f64 a.ss] 45)).alloc (.cells #[.float .f64 b.sm, .float .f64 b.si, .float .f64 b.sx, .float .f64 b.sy, .float .f64 b.ss] 45))) c2
  replace c3 := belBy_cell (W := (((w.alloc (.cells #[.int .i64 R.ra, .int .i64 R.rb, .float .f64 R.r2, .float .f64 R.r3, .float .f64 R.r4, .float .f64 R.r5, .float .f64 R.r6, .float .f64 R.r7, .float .f64 R.r8, .float .f64 R.r9, .float .f64 R.r10, .float .f64 R.r11, .int .i64 R.ro, .float .f64 R.r13] 43)).alloc (.cells #[.float .f64 a.sm, .float .f64 a.si, .float .f64 a.sx, .float .f64 a.sy, .float .f64 a.ss] 45)).alloc (.cells #[.float .f64 b.sm, .float .f64 b.si, .float .f64 b.sx, .float .f64 b.sy, .float .f64 b.ss] 45))) c3
  replace c4 := belBy_cell (W := (((w.alloc (.cells #[.int .i64 R.ra, .int .i64 R.rb, .float .f64 R.r2, .float .f64 R.r3, .float .f64 R.r4, .float .f64 R.r5, .float .f64 R.r6, .float .f64 R.r7, .float .f64 R.r8, .float .f64 R.r9, .float .f64 R.r10, .float .f64 R.r11, .int .i64 R.ro, .float .f64 R.r13] 43)).alloc (.cells #[.float .f64 a.sm, .float .f64 a.si, .float .f64 a.sx, .float .f64 a.sy, .float .f64 a.ss] 45)).alloc (.cells #[.float .f64 b.sm, .float .f64 b.si, .float .f64 b.sx, .float .f64 b.sy, .float .f64 b.ss] 45))) c4
  refine wp_region_quiet_bel (by kernel_rfl) (by kernel_rfl) ?_
  repeat (go_big_quiet_step (first | (go_at_call 22; exact calls_belz (abs_any _ _ (by with_reducible assumption)))))
  refine wpQuiet_nil ?_
  rintro _ ⟨pW, rfl⟩
  go_wp2
  have BN2 := belBy_some pW.world
  replace k2 := belBy_cell (W := pW.world) (k2 pW)
  replace k3 := belBy_cell (W := pW.world) (k3 pW)
  replace k4 := belBy_cell (W := pW.world) (k4 pW)
  replace k5 := belBy_cell (W := pW.world) (k5 pW)
  replace k6 := belBy_cell (W := pW.world) (k6 pW)
  replace k7 := belBy_cell (W := pW.world) (k7 pW)
  replace a2 := belBy_cell (W := pW.world) (a2 pW)
  replace a3 := belBy_cell (W := pW.world) (a3 pW)
  replace a4 := belBy_cell (W := pW.world) (a4 pW)
  replace c2 := belBy_cell (W := pW.world) (c2 pW)
  replace c3 := belBy_cell (W := pW.world) (c3 pW)
  replace c4 := belBy_cell (W := pW.world) (c4 pW)
  refine wp_region_quiet_bel (by kernel_rfl) (by kernel_rfl) ?_
  repeat (go_big_quiet_step (first | (go_at_call 22; exact calls_belz (abs_any _ _ (by with_reducible assumption)))))
  refine wpQuiet_nil ?_
  rintro _ ⟨qW, rfl⟩
  go_wp2
  go_ret
  exact ⟨rfl, bl_trans (bl_trans B0 pW.h) qW.h⟩
theorem eq_rv {n m x y : Nat} (hx : Bd n x) (hy : Bd m y) (h : rv x = rv y) : eqK .f64 x y = true := by
  have n1 := fin_nan hx.2.1
  have n2 := fin_nan hy.2.1
  have a := (le_rv n1 n2).2 (by rw [h]; exact Rat.le_refl)
  have b := (le_rv n2 n1).2 (by rw [h]; exact Rat.le_refl)
  unfold leK at a b
  unfold eqK
  simp only [Bool.and_eq_true, decide_eq_true_eq, Bool.not_eq_true'] at a b ⊢
  exact ⟨⟨n1, n2⟩, by omega⟩
theorem tl_us {T : RD} {a b : SD} (u : UsN T a b) : tlS a = a ∧ tlS b = b := by
  have h0 : bitsK a.sx = a.sx := us_bits (u.fv 0 (by omega))
  have h1 : bitsK a.sy = a.sy := us_bits (u.fv 1 (by omega))
  have h2 : bitsK a.ss = a.ss := us_bits (u.fv 2 (by omega))
  have h3 : bitsK b.sx = b.sx := us_bits (u.fv 3 (by omega))
  have h4 : bitsK b.sy = b.sy := us_bits (u.fv 4 (by omega))
  have h5 : bitsK b.ss = b.ss := us_bits (u.fv 5 (by omega))
  unfold tlS
  rw [h0, h1, h2, h3, h4, h5]
  exact ⟨rfl, rfl⟩
/-- a still that is what the model's is, where the model's speeds are finite -/
theorem rel_is {n : Nat} {s m : SD} (h : RelS s m) (h0 : Bd n m.sx) (h1 : Bd n m.sy) (h2 : Bd n m.ss) : s = m := by
  obtain ⟨a1, a2, a3, a4, a5⟩ := s
  obtain ⟨b1, b2, b3, b4, b5⟩ := m
  obtain ⟨e1, e2, _, _, e3, e4, e5⟩ := h
  have x3 := bd_word e3 h0
  have x4 := bd_word e4 h1
  have x5 := bd_word e5 h2
  simp only at e1 e2 x3 x4 x5
  rw [e1, e2, x3, x4, x5]
/-- the stills behind the warming, behind one turn; the row behind it -/
def wA (T : RD) (a b : SD) : SD := (pushed T a b 0).1
def wB (T : RD) (a b : SD) : SD := (pushed T a b 0).2
def fA (T : RD) (a b : SD) : SD := onX T (wA T a b) (wB T a b)
def fB (T : RD) (a b : SD) : SD := onY T (wA T a b) (wB T a b)
def fT (T : RD) (a b : SD) : RD := onQ T (wA T a b) (wB T a b)
/-- the bound of what the row may be off -/
def bnR (T : RD) (a b : SD) : Nat := oF .mul c30 (oF .add (goW (AW T) (VW a b)) (goW (AW T) (VW (fA T a b) (fB T a b))))
structure OneR (T : RD) (a b : SD) : Prop where
  u0 : UsN T (wA T a b) (wB T a b)
  same : ∀ i, i < 6 → eqK .f64 (VW (wA T a b) (wB T a b) i) (VW a b i) = true
  bv : ∀ i, i < 6 → Bd 600 (VW (fA T a b) (fB T a b) i)
  bq : Bd 219 (fT T a b).r11
  q0 : ltK .f64 (fT T a b).r11 0 = false
  br : Bd 700 (bnR T a b)
  off : ltK .f64 0 (wtF T a b) = true → leK .f64 (offF (fT T a b) (fA T a b) (fB T a b)) (bnR T a b) = true ∧ leK .f64 0 (bnR T a b) = true
theorem one_r {T : RD} {a b : SD} (u : UsN T a b) (e8 : T.r8 = 0) (e9 : T.r9 = 0) (e10 : T.r10 = infW) (e11 : T.r11 = 0) : OneR T a b := by
  obtain ⟨u0, hs⟩ := pushed_z u (bd_mono zero_us.bd (show 40 ≤ 491 by omega)) rv_z
  have hA := fun i hi => (u.fa i hi).bd
  have hb : (∀ i, i < 6 → Bd 600 (VW (fA T a b) (fB T a b) i)) → Bd 700 (bnR T a b) := fun hV => by
    obtain ⟨bT, _, _⟩ := mad_bd u.fa (fun i hi => bd_mono (u.fv i hi).bd (show 40 ≤ 600 by omega)) hV
    exact bd_mono (mul_o c30_bd bT (by omega)).1 (show 40 + 653 + 1 ≤ 700 by decide)
  cases hw : ltK .f64 0 (wtF T (wA T a b) (wB T a b))
  · have sl : slB T (wA T a b) (wB T a b) = false := by unfold slB okB; rw [hw]; rfl
    have eA : fA T a b = wA T a b := by unfold fA onX; rw [sl]; rfl
    have eB : fB T a b = wB T a b := by unfold fB onY; rw [sl]; rfl
    have eT : fT T a b = T := by unfold fT onQ; rw [sl]; rfl
    have bv : ∀ i, i < 6 → Bd 600 (VW (fA T a b) (fB T a b) i) := fun i hi => by rw [eA, eB]; exact bd_mono (u0.fv i hi).bd (show 40 ≤ 600 by omega)
    refine ⟨u0, fun i hi => eq_rv (u0.fv i hi).bd (u.fv i hi).bd (hs i hi), bv, by rw [eT, e11]; exact bd_mono zero_us.bd (show 40 ≤ 219 by omega), by rw [eT, e11]; decide +kernel, hb bv, fun h => ?_⟩
    rw [show wtF T a b = wtF T (wA T a b) (wB T a b) from rfl, hw] at h
    cases h
  · obtain ⟨sl, q1, q2, bv, bR, o1, o2⟩ := one_off u0 e8 e9 e10 e11 hw u.fv (fun i hi => (hs i hi).symm)
    have sl9 : slB T (wA T a b) (wB T a b) = true := sl
    have eT : (fT T a b).r11 = quF T (wA T a b) (wB T a b) := by unfold fT onQ; rw [sl9]; rfl
    exact ⟨u0, fun i hi => eq_rv (u0.fv i hi).bd (u.fv i hi).bd (hs i hi), bv, by rw [eT]; exact q1, by rw [eT]; exact q2, hb bv, fun _ => ⟨o1, o2⟩⟩
end Go.Proofs.Ytfohggiehbplkaa
