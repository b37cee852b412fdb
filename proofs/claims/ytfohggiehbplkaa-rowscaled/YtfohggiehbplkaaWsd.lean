/-
  What each function of package poly answers, and what the reference of its chapter answers: one contract a function, for every float: the answer stands in the relation of its formula to what was given; of the memory that was there nothing has turned.
-/
import Derived.Test.YtfohggiehbplkaaVec
import Derived.Test.YtfohggiehbplkaaWsc
import Derived.Below
import Derived.WalkKit
import Derived.WalkLawsBesides
import Derived.WalkSpells
import Derived.ProofKit
import Derived.OpenShut
import Derived.Deep.RegionHeld3
namespace Go.Proofs.Ytfohggiehbplkaa
open Go.ChangeShapes Go.WideShapes Go.ChangeAt Go.RowKit
set_option linter.unusedVariables false
set_option linter.unusedSimpArgs false


structure Pk (p : Int) (R : RD) (a b : SD) (T : RD) (A B : SD) (sp sq wp wm wq q qm qn q' v0 v1 v2 v3 v4 v5 u0 u1 u3 u4 mr11 nr11 mr9 nr9 mr10 nr10 : Nat) : Prop where
  fr6 : floatBits .mul .f64 R.r6 (pw p) = some T.r6
  fr7 : floatBits .mul .f64 R.r7 (pw p) = some T.r7
  fr8 : floatBits .mul .f64 R.r8 (pw p) = some T.r8
  fr11a : floatBits .mul .f64 R.r11 (pw p) = some mr11
  fr11b : floatBits .mul .f64 mr11 (pw p) = some nr11
  fr11 : floatBits .mul .f64 nr11 (pw p) = some T.r11
  fr9a : floatBits .mul .f64 R.r9 (pw p) = some mr9
  fr9b : floatBits .mul .f64 mr9 (pw p) = some nr9
  fr9 : floatBits .mul .f64 nr9 (pw p) = some T.r9
  fr10a : floatBits .mul .f64 R.r10 (pw p) = some mr10
  fr10b : floatBits .mul .f64 mr10 (pw p) = some nr10
  fr10 : floatBits .mul .f64 nr10 (pw p) = some T.r10
  cT : ([.int .i64 R.ra, .int .i64 R.rb, .float .f64 R.r2, .float .f64 R.r3, .float .f64 R.r4, .float .f64 R.r5, .float .f64 T.r6, .float .f64 T.r7, .float .f64 T.r8, .float .f64 T.r9, .float .f64 T.r10, .float .f64 T.r11, .int .i64 R.ro, .float .f64 R.r13] : List Value) = [.int .i64 T.ra, .int .i64 T.rb, .float .f64 T.r2, .float .f64 T.r3, .float .f64 T.r4, .float .f64 T.r5, .float .f64 T.r6, .float .f64 T.r7, .float .f64 T.r8, .float .f64 T.r9, .float .f64 T.r10, .float .f64 T.r11, .int .i64 T.ro, .float .f64 T.r13]
  LA : (∀ W : World, Calls Try.prog 25 #[.agg #[.float .f64 a.sm, .float .f64 a.si, .float .f64 a.sx, .float .f64 a.sy, .float .f64 a.ss], .float .f64 (pw p)] W fun e w' => e = .returned (.agg #[.float .f64 A.sm, .float .f64 A.si, .float .f64 A.sx, .float .f64 A.sy, .float .f64 A.ss]) ∧ Bel W w')
  LB : (∀ W : World, Calls Try.prog 25 #[.agg #[.float .f64 b.sm, .float .f64 b.si, .float .f64 b.sx, .float .f64 b.sy, .float .f64 b.ss], .float .f64 (pw p)] W fun e w' => e = .returned (.agg #[.float .f64 B.sm, .float .f64 B.si, .float .f64 B.sx, .float .f64 B.sy, .float .f64 B.ss]) ∧ Bel W w')
  S1 : (∀ W : World, Calls Try.prog 20 #[.agg #[.int .i64 R.ra, .int .i64 R.rb, .float .f64 R.r2, .float .f64 R.r3, .float .f64 R.r4, .float .f64 R.r5, .float .f64 R.r6, .float .f64 R.r7, .float .f64 R.r8, .float .f64 R.r9, .float .f64 R.r10, .float .f64 R.r11, .int .i64 R.ro, .float .f64 R.r13], .agg #[.float .f64 a.sm, .float .f64 a.si, .float .f64 a.sx, .float .f64 a.sy, .float .f64 a.ss], .agg #[.float .f64 b.sm, .float .f64 b.si, .float .f64 b.sx, .float .f64 b.sy, .float .f64 b.ss]] W fun e w' => e = .returned (.tuple #[.float .f64 sp, .int .i64 0]) ∧ Bel W w')
  S2 : (∀ W : World, Calls Try.prog 20 #[.agg #[.int .i64 T.ra, .int .i64 T.rb, .float .f64 T.r2, .float .f64 T.r3, .float .f64 T.r4, .float .f64 T.r5, .float .f64 T.r6, .float .f64 T.r7, .float .f64 T.r8, .float .f64 T.r9, .float .f64 T.r10, .float .f64 T.r11, .int .i64 T.ro, .float .f64 T.r13], .agg #[.float .f64 A.sm, .float .f64 A.si, .float .f64 A.sx, .float .f64 A.sy, .float .f64 A.ss], .agg #[.float .f64 B.sm, .float .f64 B.si, .float .f64 B.sx, .float .f64 B.sy, .float .f64 B.ss]] W fun e w' => e = .returned (.tuple #[.float .f64 sq, .int .i64 0]) ∧ Bel W w')
  W1 : (∀ W : World, Calls Try.prog 17 #[.agg #[.int .i64 R.ra, .int .i64 R.rb, .float .f64 R.r2, .float .f64 R.r3, .float .f64 R.r4, .float .f64 R.r5, .float .f64 R.r6, .float .f64 R.r7, .float .f64 R.r8, .float .f64 R.r9, .float .f64 R.r10, .float .f64 R.r11, .int .i64 R.ro, .float .f64 R.r13], .agg #[.float .f64 a.sm, .float .f64 a.si, .float .f64 a.sx, .float .f64 a.sy, .float .f64 a.ss], .agg #[.float .f64 b.sm, .float .f64 b.si, .float .f64 b.sx, .float .f64 b.sy, .float .f64 b.ss]] W fun e w' => e = .returned (.tuple #[.float .f64 wp, .int .i64 0]) ∧ Bel W w')
  W2 : (∀ W : World, Calls Try.prog 17 #[.agg #[.int .i64 T.ra, .int .i64 T.rb, .float .f64 T.r2, .float .f64 T.r3, .float .f64 T.r4, .float .f64 T.r5, .float .f64 T.r6, .float .f64 T.r7, .float .f64 T.r8, .float .f64 T.r9, .float .f64 T.r10, .float .f64 T.r11, .int .i64 T.ro, .float .f64 T.r13], .agg #[.float .f64 A.sm, .float .f64 A.si, .float .f64 A.sx, .float .f64 A.sy, .float .f64 A.ss], .agg #[.float .f64 B.sm, .float .f64 B.si, .float .f64 B.sx, .float .f64 B.sy, .float .f64 B.ss]] W fun e w' => e = .returned (.tuple #[.float .f64 wq, .int .i64 0]) ∧ Bel W w')
  O1 : (∀ W : World, Calls Try.prog 18 #[.agg #[.int .i64 R.ra, .int .i64 R.rb, .float .f64 R.r2, .float .f64 R.r3, .float .f64 R.r4, .float .f64 R.r5, .float .f64 R.r6, .float .f64 R.r7, .float .f64 R.r8, .float .f64 R.r9, .float .f64 R.r10, .float .f64 R.r11, .int .i64 R.ro, .float .f64 R.r13], .agg #[.float .f64 a.sm, .float .f64 a.si, .float .f64 a.sx, .float .f64 a.sy, .float .f64 a.ss], .agg #[.float .f64 b.sm, .float .f64 b.si, .float .f64 b.sx, .float .f64 b.sy, .float .f64 b.ss]] W fun e w' => e = .returned (.tuple #[.agg #[.int .i64 R.ra, .int .i64 R.rb, .float .f64 R.r2, .float .f64 R.r3, .float .f64 R.r4, .float .f64 R.r5, .float .f64 R.r6, .float .f64 R.r7, .float .f64 R.r8, .float .f64 R.r9, .float .f64 R.r10, .float .f64 q, .int .i64 R.ro, .float .f64 R.r13], .agg #[.float .f64 a.sm, .float .f64 a.si, .float .f64 v0, .float .f64 v1, .float .f64 v2], .agg #[.float .f64 b.sm, .float .f64 b.si, .float .f64 v3, .float .f64 v4, .float .f64 v5], .int .i64 0]) ∧ Bel W w')
  O2 : (∀ W : World, Calls Try.prog 18 #[.agg #[.int .i64 T.ra, .int .i64 T.rb, .float .f64 T.r2, .float .f64 T.r3, .float .f64 T.r4, .float .f64 T.r5, .float .f64 T.r6, .float .f64 T.r7, .float .f64 T.r8, .float .f64 T.r9, .float .f64 T.r10, .float .f64 T.r11, .int .i64 T.ro, .float .f64 T.r13], .agg #[.float .f64 A.sm, .float .f64 A.si, .float .f64 A.sx, .float .f64 A.sy, .float .f64 A.ss], .agg #[.float .f64 B.sm, .float .f64 B.si, .float .f64 B.sx, .float .f64 B.sy, .float .f64 B.ss]] W fun e w' => e = .returned (.tuple #[.agg #[.int .i64 T.ra, .int .i64 T.rb, .float .f64 T.r2, .float .f64 T.r3, .float .f64 T.r4, .float .f64 T.r5, .float .f64 T.r6, .float .f64 T.r7, .float .f64 T.r8, .float .f64 T.r9, .float .f64 T.r10, .float .f64 q', .int .i64 T.ro, .float .f64 T.r13], .agg #[.float .f64 A.sm, .float .f64 A.si, .float .f64 u0, .float .f64 u1, .float .f64 v2], .agg #[.float .f64 B.sm, .float .f64 B.si, .float .f64 u3, .float .f64 u4, .float .f64 v5], .int .i64 0]) ∧ Bel W w')
  gS : floatBits .mul .f64 sp (pw p) = some sq
  gW : floatBits .quo .f64 wp (pw p) = some wm
  gX : floatBits .quo .f64 wm (pw p) = some wq
  gq1 : floatBits .mul .f64 q (pw p) = some qm
  gq2 : floatBits .mul .f64 qm (pw p) = some qn
  gq3 : floatBits .mul .f64 qn (pw p) = some q'
  gv0 : floatBits .mul .f64 v0 (pw p) = some u0
  gv1 : floatBits .mul .f64 v1 (pw p) = some u1
  gv3 : floatBits .mul .f64 v3 (pw p) = some u3
  gv4 : floatBits .mul .f64 v4 (pw p) = some u4
  esq : eqK .f64 sq sq = true
  ewq : eqK .f64 wq wq = true
  eqp : eqK .f64 q' q' = true
  eu0 : eqK .f64 u0 u0 = true
  eu1 : eqK .f64 u1 u1 = true
  ev2 : eqK .f64 v2 v2 = true
  eu3 : eqK .f64 u3 u3 = true
  eu4 : eqK .f64 u4 u4 = true
  ev5 : eqK .f64 v5 v5 = true

set_option maxRecDepth 100000 in
set_option maxHeartbeats 4000000 in
theorem pk_of {p : Int} (h1 : -8 ≤ p) (h2 : p ≤ 8) {R : RD} {a b : SD} (US : UsP R a b) (U : UsN R a b) (oR : rok R) (oa : sok a) (ob : sok b) (hal : alB R a b = true) : ∃ T A B sp sq wp wm wq q qm qn q' v0 v1 v2 v3 v4 v5 u0 u1 u3 u4 mr11 nr11 mr9 nr9 mr10 nr10, Pk p R a b T A B sp sq wp wm wq q qm qn q' v0 v1 v2 v3 v4 v5 u0 u1 u3 u4 mr11 nr11 mr9 nr9 mr10 nr10 := by
  have BO := both_of h1 h2 US U oR oa ob hal
  obtain ⟨e1, e2, e3, e4, e5⟩ := both_end h1 h2 BO
  exact ⟨scR p R, scS p a, scS p b, spW (AW R) (VW a b), spW (AW (scR p R)) (VW (scS p a) (scS p b)), wtW (AW R) (MW a b), oF .quo (wtW (AW R) (MW a b)) (pw p), wtW (AW (scR p R)) (MW (scS p a) (scS p b)), qx R a b, oF .mul (qx R a b) (pw p), oF .mul (oF .mul (qx R a b) (pw p)) (pw p), qx (scR p R) (scS p a) (scS p b), vx R a b 0, vx R a b 1, vx R a b 2, vx R a b 3, vx R a b 4, vx R a b 5, vx (scR p R) (scS p a) (scS p b) 0, vx (scR p R) (scS p a) (scS p b) 1, vx (scR p R) (scS p a) (scS p b) 3, vx (scR p R) (scS p a) (scS p b) 4, oF .mul R.r11 (pw p), oF .mul (oF .mul R.r11 (pw p)) (pw p), oF .mul R.r9 (pw p), oF .mul (oF .mul R.r9 (pw p)) (pw p), oF .mul R.r10 (pw p), oF .mul (oF .mul R.r10 (pw p)) (pw p), { fr6 := (us_sr h1 h2 (U.fa 2 (by omega))).2.1, fr7 := (us_sr h1 h2 (U.fa 5 (by omega))).2.1, fr8 := (us_sr h1 h2 U.fb).2.1, fr11a := (us_sr h1 h2 U.fp).2.2.2.1.s1, fr11b := (us_sr h1 h2 U.fp).2.2.2.1.s2, fr11 := (us_sr h1 h2 U.fp).2.2.2.1.s3, fr9a := (us_sr h1 h2 U.lo).2.2.2.1.s1, fr9b := (us_sr h1 h2 U.lo).2.2.2.1.s2, fr9 := (us_sr h1 h2 U.lo).2.2.2.1.s3, fr10a := (hi_of h1 h2 U.hi).2.1.s1, fr10b := (hi_of h1 h2 U.hi).2.1.s2, fr10 := (hi_of h1 h2 U.hi).2.1.s3, cT := rfl, LA := fun W => lighter_x a (pw p) (oF .quo a.sm (pw p)) (o2 p a.sm) (oF .quo a.si (pw p)) (o2 p a.si) (oF .quo (o2 p a.si) (pw p)) (o4 p a.si) (oF .mul a.sx (pw p)) (oF .mul a.sy (pw p)) (us_sr h1 h2 (U.fm 0 (by omega))).2.2.2.2.2.2.1 (us_sr h1 h2 (U.fm 0 (by omega))).2.2.2.2.2.2.2.1 (us_sr h1 h2 (U.fm 2 (by omega))).2.2.2.2.2.2.1 (us_sr h1 h2 (U.fm 2 (by omega))).2.2.2.2.2.2.2.1 (us_sr h1 h2 (U.fm 2 (by omega))).2.2.2.2.2.2.2.2.1 (us_sr h1 h2 (U.fm 2 (by omega))).2.2.2.2.2.2.2.2.2 (us_sr h1 h2 (U.fv 0 (by omega))).2.1 (us_sr h1 h2 (U.fv 1 (by omega))).2.1 W, LB := fun W => lighter_x b (pw p) (oF .quo b.sm (pw p)) (o2 p b.sm) (oF .quo b.si (pw p)) (o2 p b.si) (oF .quo (o2 p b.si) (pw p)) (o4 p b.si) (oF .mul b.sx (pw p)) (oF .mul b.sy (pw p)) (us_sr h1 h2 (U.fm 3 (by omega))).2.2.2.2.2.2.1 (us_sr h1 h2 (U.fm 3 (by omega))).2.2.2.2.2.2.2.1 (us_sr h1 h2 (U.fm 5 (by omega))).2.2.2.2.2.2.1 (us_sr h1 h2 (U.fm 5 (by omega))).2.2.2.2.2.2.2.1 (us_sr h1 h2 (U.fm 5 (by omega))).2.2.2.2.2.2.2.2.1 (us_sr h1 h2 (U.fm 5 (by omega))).2.2.2.2.2.2.2.2.2 (us_sr h1 h2 (U.fv 3 (by omega))).2.1 (us_sr h1 h2 (U.fv 4 (by omega))).2.1 W, S1 := fun W => spd_x BO.f W, S2 := fun W => spd_x BO.g W, W1 := fun W => wgt_x BO.f W, W2 := fun W => wgt_x BO.g W, O1 := fun W => one_x BO.f W, O2 := fun W => by have h := one_x BO.g W; rw [e5 2 (.inl rfl), e5 5 (.inr rfl)] at h; exact h, gS := e1, gW := e2.1, gX := e2.2, gq1 := e3.2.s1, gq2 := e3.2.s2, gq3 := by rw [← e3.1]; exact e3.2.s3, gv0 := e4 0 (by omega) (by omega) (by omega), gv1 := e4 1 (by omega) (by omega) (by omega), gv3 := e4 3 (by omega) (by omega) (by omega), gv4 := e4 4 (by omega) (by omega) (by omega), esq := by rw [eqK_self, fin_nan BO.sp.fin.2.1]; rfl, ewq := by rw [eqK_self, fin_nan BO.wt.fin.2.1]; rfl, eqp := by rw [eqK_self, fin_nan BO.q.fin.2.1]; rfl, eu0 := by rw [eqK_self, fin_nan (BO.v 0 (by omega)).fin.2.1]; rfl, eu1 := by rw [eqK_self, fin_nan (BO.v 1 (by omega)).fin.2.1]; rfl, ev2 := by rw [eqK_self, fin_nan (BO.v 2 (by omega)).fin.1]; rfl, eu3 := by rw [eqK_self, fin_nan (BO.v 3 (by omega)).fin.2.1]; rfl, eu4 := by rw [eqK_self, fin_nan (BO.v 4 (by omega)).fin.2.1]; rfl, ev5 := by rw [eqK_self, fin_nan (BO.v 5 (by omega)).fin.1]; rfl }⟩
theorem heap_there {W : World} {b n : Nat} {c : Array Value} {t : TypeId} (h : W.heap[b]? = some (.cells c t)) (hc : c.size = n) : W.there b 0 n := fun j hj => by
  have hj2 : j < c.size := by omega
  rw [Nat.zero_add]
  exact ⟨by rw [heap_cell h (Array.getElem?_eq_getElem hj2)]; rfl, heap_frozen h⟩

end Go.Proofs.Ytfohggiehbplkaa
