/-
  What each function of package poly answers, and what the reference of its chapter answers: one contract a function, for every float: the answer stands in the relation of its formula to what was given; of the memory that was there nothing has turned.
-/
import Derived.Test.YtfohggiehbplkaaVec
import Derived.Test.YtfohggiehbplkaaWrb
import Derived.Test.YtfohggiehbplkaaWnz
import Derived.Below
import Derived.WalkKit
import Derived.WalkLawsBesides
import Derived.WalkSpells
import Derived.ProofKit
import Derived.OpenShut
import Derived.Deep.RegionHeld3
namespace Go.Proofs.Ytfohggiehbplkaa
open Go.ChangeShapes Go.WideShapes Go.ChangeAt Go.RowKit
set_option linter.unusedVariables false
set_option linter.unusedSimpArgs false


def qx (R : RD) (a b : SD) : Nat := if ltK .f64 0 (wtW (AW R) (MW a b)) then clK .f64 (puW (AW R) (VW a b) (MW a b) R.r8 R.r11) R.r9 R.r10 else R.r11
def dx (R : RD) (a b : SD) : Nat := oF .sub (qx R a b) R.r11
def vx (R : RD) (a b : SD) (i : Nat) : Nat := if ltK .f64 0 (wtW (AW R) (MW a b)) then vvW (MW a b) (AW R) (VW a b) (dx R a b) i else VW a b i
theorem fin_wd {x q : Nat} (h : isF x q) (f : finK .f64 q = true) : x = q := isF_wd h (by
  rintro rfl
  exact absurd f (by decide +kernel))
theorem fb9 {x : Nat} (h : finK .f64 x = true) : bitsK x = x := bits_num (fin_nan h)
/-- a row and two stills that may be and whose answers are all finite -/
structure FinR (R : RD) (a b : SD) : Prop where
  oR : rok R
  oa : sok a
  ob : sok b
  al : alB R a b = true
  fa : ∀ i, i < 6 → finK .f64 (AW R i) = true
  fv : ∀ i, i < 6 → finK .f64 (VW a b i) = true
  fm : ∀ i, i < 6 → finK .f64 (MW a b i) = true
  f8 : finK .f64 R.r8 = true
  f11 : finK .f64 R.r11 = true
  sp : finK .f64 (spW (AW R) (VW a b)) = true
  wt : finK .f64 (wtW (AW R) (MW a b)) = true
  so : ltK .f64 0 (wtW (AW R) (MW a b)) = true → finK .f64 (lkW (AW R) (VW a b) R.r8) = true ∧ finK .f64 (qx R a b) = true ∧ finK .f64 (dx R a b) = true ∧ ∀ i, i < 6 → finK .f64 (vvW (MW a b) (AW R) (VW a b) (dx R a b) i) = true
theorem wt_eqF {R : RD} {a b : SD} (h : FinR R a b) : wtF R a b = wtW (AW R) (MW a b) := by
  have a0 := fb9 (h.fa 0 (by omega)); have a1 := fb9 (h.fa 1 (by omega)); have a2 := fb9 (h.fa 2 (by omega)); have a3 := fb9 (h.fa 3 (by omega)); have a4 := fb9 (h.fa 4 (by omega)); have a5 := fb9 (h.fa 5 (by omega))
  have m0 := fb9 (h.fm 0 (by omega)); have m2 := fb9 (h.fm 2 (by omega)); have m3 := fb9 (h.fm 3 (by omega)); have m5 := fb9 (h.fm 5 (by omega))
  unfold AW at a0 a1 a2 a3 a4 a5
  unfold MW at m0 m2 m3 m5
  simp only at a0 a1 a2 a3 a4 a5 m0 m2 m3 m5
  unfold wtF wtW AW MW dtF nP
  simp only
  rw [a0, a1, a2, a3, a4, a5, m0, m2, m3, m5]
theorem sp_eqF {R : RD} {a b : SD} (h : FinR R a b) : spF R a b = spW (AW R) (VW a b) := by
  have a0 := fb9 (h.fa 0 (by omega)); have a1 := fb9 (h.fa 1 (by omega)); have a2 := fb9 (h.fa 2 (by omega)); have a3 := fb9 (h.fa 3 (by omega)); have a4 := fb9 (h.fa 4 (by omega)); have a5 := fb9 (h.fa 5 (by omega))
  have v0 := fb9 (h.fv 0 (by omega)); have v1 := fb9 (h.fv 1 (by omega)); have v2 := fb9 (h.fv 2 (by omega)); have v3 := fb9 (h.fv 3 (by omega)); have v4 := fb9 (h.fv 4 (by omega)); have v5 := fb9 (h.fv 5 (by omega))
  unfold AW at a0 a1 a2 a3 a4 a5
  unfold VW at v0 v1 v2 v3 v4 v5
  simp only at a0 a1 a2 a3 a4 a5 v0 v1 v2 v3 v4 v5
  unfold spF spW AW VW dtF nP
  simp only
  rw [a0, a1, a2, a3, a4, a5, v0, v1, v2, v3, v4, v5]
theorem lk_eqF {R : RD} {a b : SD} (h : FinR R a b) : lkF R a b = lkW (AW R) (VW a b) R.r8 := by
  unfold lkF lkW
  rw [fb9 h.f8, sp_eqF h]
theorem qu_eqF {R : RD} {a b : SD} (h : FinR R a b) (hw : ltK .f64 0 (wtW (AW R) (MW a b)) = true) : quF R a b = qx R a b := by
  unfold quF qx puW quW
  rw [fb9 h.f11, lk_eqF h, wt_eqF h, hw]
  rfl
theorem df_eqF {R : RD} {a b : SD} (h : FinR R a b) (hw : ltK .f64 0 (wtW (AW R) (MW a b)) = true) : dfF R a b = dx R a b := by
  unfold dfF dx
  rw [qu_eqF h hw, fb9 h.f11]
theorem spd_x {R : RD} {a b : SD} (h : FinR R a b) (w : World) : Calls Try.prog 20 #[.agg #[.int .i64 R.ra, .int .i64 R.rb, .float .f64 R.r2, .float .f64 R.r3, .float .f64 R.r4, .float .f64 R.r5, .float .f64 R.r6, .float .f64 R.r7, .float .f64 R.r8, .float .f64 R.r9, .float .f64 R.r10, .float .f64 R.r11, .int .i64 R.ro, .float .f64 R.r13], .agg #[.float .f64 a.sm, .float .f64 a.si, .float .f64 a.sx, .float .f64 a.sy, .float .f64 a.ss], .agg #[.float .f64 b.sm, .float .f64 b.si, .float .f64 b.sx, .float .f64 b.sy, .float .f64 b.ss]] w fun e w' => e = .returned (.tuple #[.float .f64 (spW (AW R) (VW a b)), .int .i64 0]) ∧ Bel w w' :=
  (spd_ok R a b w h.oR h.oa h.ob h.al).mono fun e w' ⟨r, hr, he, hb⟩ => ⟨by rw [he, fin_wd (x := r) (q := spW (AW R) (VW a b)) (by rw [← sp_eqF h]; exact hr) h.sp], hb⟩
theorem wgt_x {R : RD} {a b : SD} (h : FinR R a b) (w : World) : Calls Try.prog 17 #[.agg #[.int .i64 R.ra, .int .i64 R.rb, .float .f64 R.r2, .float .f64 R.r3, .float .f64 R.r4, .float .f64 R.r5, .float .f64 R.r6, .float .f64 R.r7, .float .f64 R.r8, .float .f64 R.r9, .float .f64 R.r10, .float .f64 R.r11, .int .i64 R.ro, .float .f64 R.r13], .agg #[.float .f64 a.sm, .float .f64 a.si, .float .f64 a.sx, .float .f64 a.sy, .float .f64 a.ss], .agg #[.float .f64 b.sm, .float .f64 b.si, .float .f64 b.sx, .float .f64 b.sy, .float .f64 b.ss]] w fun e w' => e = .returned (.tuple #[.float .f64 (wtW (AW R) (MW a b)), .int .i64 0]) ∧ Bel w w' :=
  (wgt_ok R a b w h.oR h.oa h.ob h.al).mono fun e w' ⟨r, hr, he, hb⟩ => ⟨by rw [he, fin_wd (x := r) (q := wtW (AW R) (MW a b)) (by rw [← wt_eqF h]; exact hr) h.wt], hb⟩
theorem pu_xx {Ms A V : Nat → Nat} {d i : Nat} (hm : finK .f64 (Ms i) = true) (ha : finK .f64 (A i) = true) (hv : finK .f64 (V i) = true) (hf : finK .f64 (vvW Ms A V d i) = true) (hi : i ≠ 2 ∧ i ≠ 5) {x : Nat} (h : isF x (puX (Ms i) (V i) (A i) d)) : x = vvW Ms A V d i := by
  refine fin_wd ?_ hf
  unfold puX at h
  rw [fb9 hm, fb9 ha, fb9 hv] at h
  unfold vvW kkW
  rw [if_neg (show ¬ (i = 2 ∨ i = 5) by omega)]
  exact h
theorem pu_xt {Ms A V : Nat → Nat} {d i : Nat} (hm : finK .f64 (Ms i) = true) (ha : finK .f64 (A i) = true) (hv : finK .f64 (V i) = true) (hf : finK .f64 (vvW Ms A V d i) = true) (hi : i = 2 ∨ i = 5) {x : Nat} (h : isF x (puT (Ms i) (V i) (A i) d)) : x = vvW Ms A V d i := by
  refine fin_wd ?_ hf
  unfold puT at h
  rw [fb9 hm, fb9 ha, fb9 hv] at h
  unfold vvW kkW
  rw [if_pos hi]
  exact h
set_option maxHeartbeats 2000000 in
theorem one_x {R : RD} {a b : SD} (h : FinR R a b) (w : World) : Calls Try.prog 18 #[.agg #[.int .i64 R.ra, .int .i64 R.rb, .float .f64 R.r2, .float .f64 R.r3, .float .f64 R.r4, .float .f64 R.r5, .float .f64 R.r6, .float .f64 R.r7, .float .f64 R.r8, .float .f64 R.r9, .float .f64 R.r10, .float .f64 R.r11, .int .i64 R.ro, .float .f64 R.r13], .agg #[.float .f64 a.sm, .float .f64 a.si, .float .f64 a.sx, .float .f64 a.sy, .float .f64 a.ss], .agg #[.float .f64 b.sm, .float .f64 b.si, .float .f64 b.sx, .float .f64 b.sy, .float .f64 b.ss]] w fun e w' => e = .returned (.tuple #[.agg #[.int .i64 R.ra, .int .i64 R.rb, .float .f64 R.r2, .float .f64 R.r3, .float .f64 R.r4, .float .f64 R.r5, .float .f64 R.r6, .float .f64 R.r7, .float .f64 R.r8, .float .f64 R.r9, .float .f64 R.r10, .float .f64 (qx R a b), .int .i64 R.ro, .float .f64 R.r13], .agg #[.float .f64 a.sm, .float .f64 a.si, .float .f64 (vx R a b 0), .float .f64 (vx R a b 1), .float .f64 (vx R a b 2)], .agg #[.float .f64 b.sm, .float .f64 b.si, .float .f64 (vx R a b 3), .float .f64 (vx R a b 4), .float .f64 (vx R a b 5)], .int .i64 0]) ∧ Bel w w' := by
  cases hw : ltK .f64 0 (wtW (AW R) (MW a b))
  · have hok : okB R a b = false := by unfold okB; rw [wt_eqF h, hw]; rfl
    have e1 : qx R a b = R.r11 := by unfold qx; rw [hw]; rfl
    have e2 : ∀ i, vx R a b i = VW a b i := fun i => by unfold vx; rw [hw]; rfl
    rw [e1, e2, e2, e2, e2, e2, e2]
    exact one_s1 R a b w h.oR h.oa h.ob h.al hok
  · obtain ⟨sl, sq, sd, sv⟩ := h.so hw
    have hok : okB R a b = true := by unfold okB; rw [wt_eqF h, hw, h.wt, lk_eqF h, sl]; rfl
    have hfi : fiB R a b = true := by unfold fiB; rw [qu_eqF h hw, df_eqF h hw, sq, sd]; rfl
    refine (one_ok R a b w h.oR h.oa h.ob h.al hok hfi).mono fun e w' ⟨q, x, y, u, x2, y2, u2, hq, hx, hy, hu, hx2, hy2, hu2, he, hb⟩ => ⟨?_, hb⟩
    rw [df_eqF h hw] at hx hy hu hx2 hy2 hu2
    rw [qu_eqF h hw] at hq
    have eq := fin_wd hq sq
    have k0 := pu_xx (Ms := MW a b) (A := AW R) (V := VW a b) (i := 0) (h.fm 0 (by omega)) (h.fa 0 (by omega)) (h.fv 0 (by omega)) (sv 0 (by omega)) (by omega) hx
    have k1 := pu_xx (Ms := MW a b) (A := AW R) (V := VW a b) (i := 1) (h.fm 1 (by omega)) (h.fa 1 (by omega)) (h.fv 1 (by omega)) (sv 1 (by omega)) (by omega) hy
    have k2 := pu_xt (Ms := MW a b) (A := AW R) (V := VW a b) (i := 2) (h.fm 2 (by omega)) (h.fa 2 (by omega)) (h.fv 2 (by omega)) (sv 2 (by omega)) (by omega) hu
    have k3 := pu_xx (Ms := MW a b) (A := AW R) (V := VW a b) (i := 3) (h.fm 3 (by omega)) (h.fa 3 (by omega)) (h.fv 3 (by omega)) (sv 3 (by omega)) (by omega) hx2
    have k4 := pu_xx (Ms := MW a b) (A := AW R) (V := VW a b) (i := 4) (h.fm 4 (by omega)) (h.fa 4 (by omega)) (h.fv 4 (by omega)) (sv 4 (by omega)) (by omega) hy2
    have k5 := pu_xt (Ms := MW a b) (A := AW R) (V := VW a b) (i := 5) (h.fm 5 (by omega)) (h.fa 5 (by omega)) (h.fv 5 (by omega)) (sv 5 (by omega)) (by omega) hu2
    have e2 : ∀ i, vx R a b i = vvW (MW a b) (AW R) (VW a b) (dx R a b) i := fun i => by unfold vx; rw [hw]; rfl
    rw [he, eq, k0, k1, k2, k3, k4, k5, e2, e2, e2, e2, e2, e2]

end Go.Proofs.Ytfohggiehbplkaa
