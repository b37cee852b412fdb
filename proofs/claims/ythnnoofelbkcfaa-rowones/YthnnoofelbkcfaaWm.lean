/-
  What each function of package poly answers, and what the reference of its chapter answers: one contract a function, for every float: the answer stands in the relation of its formula to what was given; of the memory that was there nothing has turned.
-/
import Derived.Test.YthnnoofelbkcfaaVec
import Derived.Test.YthnnoofelbkcfaaWka
import Derived.Test.YthnnoofelbkcfaaWkb
import Derived.Test.YthnnoofelbkcfaaWkc
import Derived.Test.YthnnoofelbkcfaaWkd
import Derived.Test.YthnnoofelbkcfaaWke
import Derived.Test.YthnnoofelbkcfaaWl
import Derived.Below
import Derived.WalkKit
import Derived.WalkLawsBesides
import Derived.WalkSpells
import Derived.ProofKit
import Derived.OpenShut
import Derived.Deep.RegionHeld3
namespace Go.Proofs.Ythnnoofelbkcfaa
open Go.ChangeShapes Go.WideShapes Go.ChangeAt Go.RowKit
set_option linter.unusedVariables false
set_option linter.unusedSimpArgs false


def erF (R : RD) (a b : SD) : Int := bif alB R a b then 0 else 200
def cdF (R : RD) (n m : Int) : Int := bif chB R n m then 0 else 200
def nRd (Q : RD) : RD := ⟨Q.ra, Q.rb, bitsK Q.r2, bitsK Q.r3, bitsK Q.r4, bitsK Q.r5, bitsK Q.r6, bitsK Q.r7, bitsK Q.r8, bitsK Q.r9, bitsK Q.r10, bitsK Q.r11, Q.ro, bitsK Q.r13⟩
def isR (Q N : RD) : Prop := rok Q ∧ nRd Q = N
def Z5S : SD := ⟨0, 0, 0, 0, 0⟩
def Z14R : RD := ⟨0, 0, 0, 0, 0, 0, 0, 0, 0, 0, 0, 0, 0, 0⟩
def spG (R : RD) (a b : SD) : Nat := bif alB R a b then spF R a b else 0
def wtG (R : RD) (a b : SD) : Nat := bif alB R a b then wtF R a b else 0
def waG (R : RD) (a b : SD) : SD := bif alB R a b then puS a R.r2 R.r3 R.r6 (bitsK R.r11) else Z5S
def wbG (R : RD) (a b : SD) : SD := bif alB R a b then puS b R.r4 R.r5 R.r7 (bitsK R.r11) else Z5S
def slB (R : RD) (a b : SD) : Bool := okB R a b && fiB R a b
def orG (R : RD) (a b : SD) : RD := bif alB R a b then (bif slB R a b then { nRd R with r11 := quF R a b } else nRd R) else Z14R
def oaG (R : RD) (a b : SD) : SD := bif alB R a b then (bif slB R a b then puS a R.r2 R.r3 R.r6 (dfF R a b) else nS a) else Z5S
def obG (R : RD) (a b : SD) : SD := bif alB R a b then (bif slB R a b then puS b R.r4 R.r5 R.r7 (dfF R a b) else nS b) else Z5S
theorem z5_is : isS Z5S Z5S := by refine ⟨?_, ?_⟩; (unfold sok Z5S; exact ⟨ok_zero, ok_zero, ok_zero, ok_zero, ok_zero⟩); (unfold nS Z5S; simp only [bits_zero])
theorem z14_is : isR Z14R Z14R := by refine ⟨?_, ?_⟩; (unfold rok Z14R; exact ⟨ok_zero, ok_zero, ok_zero, ok_zero, ok_zero, ok_zero, ok_zero, ok_zero, ok_zero, ok_zero, ok_zero⟩); (unfold nRd Z14R; simp only [bits_zero])
theorem pu_is {a : SD} {gx gy g P x y u : Nat} (oa : sok a) (hx : isF x (puX a.sm a.sx gx P)) (hy : isF y (puX a.sm a.sy gy P)) (hu : isF u (puT a.si a.ss g P)) : isS ⟨a.sm, a.si, x, y, u⟩ (puS a gx gy g P) :=
  ⟨⟨oa.1, oa.2.1, hx.1, hy.1, hu.1⟩, by unfold nS puS; simp only; rw [hx.2, hy.2, hu.2]⟩
theorem S_same {A B N : SD} (h : isS A N) (g : isS B N) : smK .f64 A.sm B.sm = true ∧ smK .f64 A.si B.si = true ∧ smK .f64 A.sx B.sx = true ∧ smK .f64 A.sy B.sy = true ∧ smK .f64 A.ss B.ss = true := by
  have e := h.2.trans g.2.symm
  unfold nS at e
  injection e with e1 e2 e3 e4 e5
  exact ⟨bits_iff.2 e1, bits_iff.2 e2, bits_iff.2 e3, bits_iff.2 e4, bits_iff.2 e5⟩
theorem R_same {A B N : RD} (h : isR A N) (g : isR B N) : (A.ra == B.ra) = true ∧ (A.rb == B.rb) = true ∧ (A.ro == B.ro) = true ∧ smK .f64 A.r2 B.r2 = true ∧ smK .f64 A.r3 B.r3 = true ∧ smK .f64 A.r4 B.r4 = true ∧ smK .f64 A.r5 B.r5 = true ∧ smK .f64 A.r6 B.r6 = true ∧ smK .f64 A.r7 B.r7 = true ∧ smK .f64 A.r8 B.r8 = true ∧ smK .f64 A.r9 B.r9 = true ∧ smK .f64 A.r10 B.r10 = true ∧ smK .f64 A.r11 B.r11 = true ∧ smK .f64 A.r13 B.r13 = true := by
  have e := h.2.trans g.2.symm
  unfold nRd at e
  injection e with e0 e1 e2 e3 e4 e5 e6 e7 e8 e9 e10 e11 e12 e13
  exact ⟨by simp [e0], by simp [e1], by simp [e12], bits_iff.2 e2, bits_iff.2 e3, bits_iff.2 e4, bits_iff.2 e5, bits_iff.2 e6, bits_iff.2 e7, bits_iff.2 e8, bits_iff.2 e9, bits_iff.2 e10, bits_iff.2 e11, bits_iff.2 e13⟩

theorem spd_any (R : RD) (a b : SD) (w : World) (oR : rok R) (oa : sok a) (ob : sok b) : Calls Try.prog 10 #[.agg #[.int .i64 R.ra, .int .i64 R.rb, .float .f64 R.r2, .float .f64 R.r3, .float .f64 R.r4, .float .f64 R.r5, .float .f64 R.r6, .float .f64 R.r7, .float .f64 R.r8, .float .f64 R.r9, .float .f64 R.r10, .float .f64 R.r11, .int .i64 R.ro, .float .f64 R.r13], .agg #[.float .f64 a.sm, .float .f64 a.si, .float .f64 a.sx, .float .f64 a.sy, .float .f64 a.ss], .agg #[.float .f64 b.sm, .float .f64 b.si, .float .f64 b.sx, .float .f64 b.sy, .float .f64 b.ss]] w fun e w' => ∃ r, isF r (spG R a b) ∧ e = .returned (.tuple #[.float .f64 r, .int .i64 (erF R a b)]) ∧ Bel w w' := by
  unfold spG erF
  cases h : alB R a b
  · exact (spd_no R a b w h).mono fun e w' ⟨he, hb⟩ => ⟨0, isF_zero, he, hb⟩
  · exact (spd_ok R a b w oR oa ob h).mono fun e w' ⟨r, hr, he, hb⟩ => ⟨r, hr, he, hb⟩

theorem wgt_any (R : RD) (a b : SD) (w : World) (oR : rok R) (oa : sok a) (ob : sok b) : Calls Try.prog 11 #[.agg #[.int .i64 R.ra, .int .i64 R.rb, .float .f64 R.r2, .float .f64 R.r3, .float .f64 R.r4, .float .f64 R.r5, .float .f64 R.r6, .float .f64 R.r7, .float .f64 R.r8, .float .f64 R.r9, .float .f64 R.r10, .float .f64 R.r11, .int .i64 R.ro, .float .f64 R.r13], .agg #[.float .f64 a.sm, .float .f64 a.si, .float .f64 a.sx, .float .f64 a.sy, .float .f64 a.ss], .agg #[.float .f64 b.sm, .float .f64 b.si, .float .f64 b.sx, .float .f64 b.sy, .float .f64 b.ss]] w fun e w' => ∃ r, isF r (wtG R a b) ∧ e = .returned (.tuple #[.float .f64 r, .int .i64 (erF R a b)]) ∧ Bel w w' := by
  unfold wtG erF
  cases h : alB R a b
  · exact (wgt_no R a b w h).mono fun e w' ⟨he, hb⟩ => ⟨0, isF_zero, he, hb⟩
  · exact (wgt_ok R a b w oR oa ob h).mono fun e w' ⟨r, hr, he, hb⟩ => ⟨r, hr, he, hb⟩

theorem wrm_any (R : RD) (a b : SD) (w : World) (oR : rok R) (oa : sok a) (ob : sok b) : Calls Try.prog 12 #[.agg #[.int .i64 R.ra, .int .i64 R.rb, .float .f64 R.r2, .float .f64 R.r3, .float .f64 R.r4, .float .f64 R.r5, .float .f64 R.r6, .float .f64 R.r7, .float .f64 R.r8, .float .f64 R.r9, .float .f64 R.r10, .float .f64 R.r11, .int .i64 R.ro, .float .f64 R.r13], .agg #[.float .f64 a.sm, .float .f64 a.si, .float .f64 a.sx, .float .f64 a.sy, .float .f64 a.ss], .agg #[.float .f64 b.sm, .float .f64 b.si, .float .f64 b.sx, .float .f64 b.sy, .float .f64 b.ss]] w fun e w' => ∃ A B : SD, isS A (waG R a b) ∧ isS B (wbG R a b) ∧ e = .returned (.tuple #[.agg #[.float .f64 A.sm, .float .f64 A.si, .float .f64 A.sx, .float .f64 A.sy, .float .f64 A.ss], .agg #[.float .f64 B.sm, .float .f64 B.si, .float .f64 B.sx, .float .f64 B.sy, .float .f64 B.ss], .int .i64 (erF R a b)]) ∧ Bel w w' := by
  unfold waG wbG erF
  cases h : alB R a b
  · exact (wrm_no R a b w h).mono fun e w' ⟨he, hb⟩ => ⟨Z5S, Z5S, z5_is, z5_is, he, hb⟩
  · exact (wrm_ok R a b w oR oa ob h).mono fun e w' ⟨x, y, u, x2, y2, u2, hx, hy, hu, hx2, hy2, hu2, he, hb⟩ => ⟨⟨a.sm, a.si, x, y, u⟩, ⟨b.sm, b.si, x2, y2, u2⟩, pu_is oa hx hy hu, pu_is ob hx2 hy2 hu2, he, hb⟩

theorem one_same (R : RD) (a b : SD) (w : World) (oR : rok R) (oa : sok a) (ob : sok b) (hal : alB R a b = true) (g : slB R a b = false) : Calls Try.prog 13 #[.agg #[.int .i64 R.ra, .int .i64 R.rb, .float .f64 R.r2, .float .f64 R.r3, .float .f64 R.r4, .float .f64 R.r5, .float .f64 R.r6, .float .f64 R.r7, .float .f64 R.r8, .float .f64 R.r9, .float .f64 R.r10, .float .f64 R.r11, .int .i64 R.ro, .float .f64 R.r13], .agg #[.float .f64 a.sm, .float .f64 a.si, .float .f64 a.sx, .float .f64 a.sy, .float .f64 a.ss], .agg #[.float .f64 b.sm, .float .f64 b.si, .float .f64 b.sx, .float .f64 b.sy, .float .f64 b.ss]] w fun e w' => e = .returned (.tuple #[.agg #[.int .i64 R.ra, .int .i64 R.rb, .float .f64 R.r2, .float .f64 R.r3, .float .f64 R.r4, .float .f64 R.r5, .float .f64 R.r6, .float .f64 R.r7, .float .f64 R.r8, .float .f64 R.r9, .float .f64 R.r10, .float .f64 R.r11, .int .i64 R.ro, .float .f64 R.r13], .agg #[.float .f64 a.sm, .float .f64 a.si, .float .f64 a.sx, .float .f64 a.sy, .float .f64 a.ss], .agg #[.float .f64 b.sm, .float .f64 b.si, .float .f64 b.sx, .float .f64 b.sy, .float .f64 b.ss], .int .i64 0]) ∧ Bel w w' := by
  cases h1 : okB R a b
  · exact one_s1 R a b w oR oa ob hal h1
  · cases h2 : fiB R a b
    · exact one_s2 R a b w oR oa ob hal h1 h2
    · exact absurd g (by unfold slB; simp [h1, h2])
theorem rone_same (R : RD) (a b : SD) (w : World) (oR : rok R) (oa : sok a) (ob : sok b) (hal : alB R a b = true) (g : slB R a b = false) : Calls Try.prog 17 #[.agg #[.int .i64 R.ra, .int .i64 R.rb, .float .f64 R.r2, .float .f64 R.r3, .float .f64 R.r4, .float .f64 R.r5, .float .f64 R.r6, .float .f64 R.r7, .float .f64 R.r8, .float .f64 R.r9, .float .f64 R.r10, .float .f64 R.r11, .int .i64 R.ro, .float .f64 R.r13], .agg #[.float .f64 a.sm, .float .f64 a.si, .float .f64 a.sx, .float .f64 a.sy, .float .f64 a.ss], .agg #[.float .f64 b.sm, .float .f64 b.si, .float .f64 b.sx, .float .f64 b.sy, .float .f64 b.ss]] w fun e w' => e = .returned (.tuple #[.agg #[.int .i64 R.ra, .int .i64 R.rb, .float .f64 R.r2, .float .f64 R.r3, .float .f64 R.r4, .float .f64 R.r5, .float .f64 R.r6, .float .f64 R.r7, .float .f64 R.r8, .float .f64 R.r9, .float .f64 R.r10, .float .f64 R.r11, .int .i64 R.ro, .float .f64 R.r13], .agg #[.float .f64 a.sm, .float .f64 a.si, .float .f64 a.sx, .float .f64 a.sy, .float .f64 a.ss], .agg #[.float .f64 b.sm, .float .f64 b.si, .float .f64 b.sx, .float .f64 b.sy, .float .f64 b.ss], .int .i64 0]) ∧ Bel w w' := by
  cases h0 : ltK .f64 0 (wtF R a b)
  · cases g1 : finK .f64 (wtF R a b)
    · cases g3 : finK .f64 (quF R a b)
      · exact rone_s00 R a b w oR oa ob hal h0 g1 g3
      · cases g4 : finK .f64 (dfF R a b)
        · exact rone_s01 R a b w oR oa ob hal h0 g1 g3 g4
        · exact rone_s02 R a b w oR oa ob hal h0 g1 g3 g4
    · cases g2 : finK .f64 (lkF R a b)
      · cases g3 : finK .f64 (quF R a b)
        · exact rone_s03 R a b w oR oa ob hal h0 g1 g2 g3
        · cases g4 : finK .f64 (dfF R a b)
          · exact rone_s04 R a b w oR oa ob hal h0 g1 g2 g3 g4
          · exact rone_s05 R a b w oR oa ob hal h0 g1 g2 g3 g4
      · cases g3 : finK .f64 (quF R a b)
        · exact rone_s06 R a b w oR oa ob hal h0 g1 g2 g3
        · cases g4 : finK .f64 (dfF R a b)
          · exact rone_s07 R a b w oR oa ob hal h0 g1 g2 g3 g4
          · exact rone_s08 R a b w oR oa ob hal h0 g1 g2 g3 g4
  · cases g1 : finK .f64 (wtF R a b)
    · cases g3 : finK .f64 (quF R a b)
      · exact rone_s09 R a b w oR oa ob hal h0 g1 g3
      · cases g4 : finK .f64 (dfF R a b)
        · exact rone_s10 R a b w oR oa ob hal h0 g1 g3 g4
        · exact rone_s11 R a b w oR oa ob hal h0 g1 g3 g4
    · cases g2 : finK .f64 (lkF R a b)
      · cases g3 : finK .f64 (quF R a b)
        · exact rone_s12 R a b w oR oa ob hal h0 g1 g2 g3
        · cases g4 : finK .f64 (dfF R a b)
          · exact rone_s13 R a b w oR oa ob hal h0 g1 g2 g3 g4
          · exact rone_s14 R a b w oR oa ob hal h0 g1 g2 g3 g4
      · cases g3 : finK .f64 (quF R a b)
        · exact rone_s15 R a b w oR oa ob hal h0 g1 g2 g3
        · cases g4 : finK .f64 (dfF R a b)
          · exact rone_s16 R a b w oR oa ob hal h0 g1 g2 g3 g4
          · exact absurd g (by unfold slB okB fiB; simp [h0, g1, g2, g3, g4])

theorem one_any (R : RD) (a b : SD) (w : World) (oR : rok R) (oa : sok a) (ob : sok b) : Calls Try.prog 13 #[.agg #[.int .i64 R.ra, .int .i64 R.rb, .float .f64 R.r2, .float .f64 R.r3, .float .f64 R.r4, .float .f64 R.r5, .float .f64 R.r6, .float .f64 R.r7, .float .f64 R.r8, .float .f64 R.r9, .float .f64 R.r10, .float .f64 R.r11, .int .i64 R.ro, .float .f64 R.r13], .agg #[.float .f64 a.sm, .float .f64 a.si, .float .f64 a.sx, .float .f64 a.sy, .float .f64 a.ss], .agg #[.float .f64 b.sm, .float .f64 b.si, .float .f64 b.sx, .float .f64 b.sy, .float .f64 b.ss]] w fun e w' => ∃ (Q : RD) (A B : SD), isR Q (orG R a b) ∧ isS A (oaG R a b) ∧ isS B (obG R a b) ∧ e = .returned (.tuple #[.agg #[.int .i64 Q.ra, .int .i64 Q.rb, .float .f64 Q.r2, .float .f64 Q.r3, .float .f64 Q.r4, .float .f64 Q.r5, .float .f64 Q.r6, .float .f64 Q.r7, .float .f64 Q.r8, .float .f64 Q.r9, .float .f64 Q.r10, .float .f64 Q.r11, .int .i64 Q.ro, .float .f64 Q.r13], .agg #[.float .f64 A.sm, .float .f64 A.si, .float .f64 A.sx, .float .f64 A.sy, .float .f64 A.ss], .agg #[.float .f64 B.sm, .float .f64 B.si, .float .f64 B.sx, .float .f64 B.sy, .float .f64 B.ss], .int .i64 (erF R a b)]) ∧ Bel w w' := by
  unfold orG oaG obG erF
  cases h : alB R a b
  · exact (one_no R a b w h).mono fun e w' ⟨he, hb⟩ => ⟨Z14R, Z5S, Z5S, z14_is, z5_is, z5_is, he, hb⟩
  · cases g : slB R a b
    · refine (one_same R a b w oR oa ob h g).mono fun e w' ⟨he, hb⟩ => ⟨R, a, b, ⟨oR, rfl⟩, isS_r oa, isS_r ob, he, hb⟩
    · have g2 := g
      unfold slB at g2
      rw [Bool.and_eq_true] at g2
      exact (one_ok R a b w oR oa ob h g2.1 g2.2).mono fun e w' ⟨q, x, y, u, x2, y2, u2, hq, hx, hy, hu, hx2, hy2, hu2, he, hb⟩ => ⟨setP R q, ⟨a.sm, a.si, x, y, u⟩, ⟨b.sm, b.si, x2, y2, u2⟩, ⟨⟨oR.1, oR.2.1, oR.2.2.1, oR.2.2.2.1, oR.2.2.2.2.1, oR.2.2.2.2.2.1, oR.2.2.2.2.2.2.1, oR.2.2.2.2.2.2.2.1, oR.2.2.2.2.2.2.2.2.1, hq.1, oR.2.2.2.2.2.2.2.2.2.2⟩, by unfold nRd setP; simp only [cond_true]; rw [hq.2]⟩, pu_is oa hx hy hu, pu_is ob hx2 hy2 hu2, he, hb⟩

theorem rspd_any (R : RD) (a b : SD) (w : World) (oR : rok R) (oa : sok a) (ob : sok b) : Calls Try.prog 14 #[.agg #[.int .i64 R.ra, .int .i64 R.rb, .float .f64 R.r2, .float .f64 R.r3, .float .f64 R.r4, .float .f64 R.r5, .float .f64 R.r6, .float .f64 R.r7, .float .f64 R.r8, .float .f64 R.r9, .float .f64 R.r10, .float .f64 R.r11, .int .i64 R.ro, .float .f64 R.r13], .agg #[.float .f64 a.sm, .float .f64 a.si, .float .f64 a.sx, .float .f64 a.sy, .float .f64 a.ss], .agg #[.float .f64 b.sm, .float .f64 b.si, .float .f64 b.sx, .float .f64 b.sy, .float .f64 b.ss]] w fun e w' => ∃ r, isF r (spG R a b) ∧ e = .returned (.tuple #[.float .f64 r, .int .i64 (erF R a b)]) ∧ Bel w w' := by
  unfold spG erF
  cases h : alB R a b
  · exact (rspd_no R a b w h).mono fun e w' ⟨he, hb⟩ => ⟨0, isF_zero, he, hb⟩
  · exact (rspd_ok R a b w oR oa ob h).mono fun e w' ⟨r, hr, he, hb⟩ => ⟨r, hr, he, hb⟩

theorem rwgt_any (R : RD) (a b : SD) (w : World) (oR : rok R) (oa : sok a) (ob : sok b) : Calls Try.prog 15 #[.agg #[.int .i64 R.ra, .int .i64 R.rb, .float .f64 R.r2, .float .f64 R.r3, .float .f64 R.r4, .float .f64 R.r5, .float .f64 R.r6, .float .f64 R.r7, .float .f64 R.r8, .float .f64 R.r9, .float .f64 R.r10, .float .f64 R.r11, .int .i64 R.ro, .float .f64 R.r13], .agg #[.float .f64 a.sm, .float .f64 a.si, .float .f64 a.sx, .float .f64 a.sy, .float .f64 a.ss], .agg #[.float .f64 b.sm, .float .f64 b.si, .float .f64 b.sx, .float .f64 b.sy, .float .f64 b.ss]] w fun e w' => ∃ r, isF r (wtG R a b) ∧ e = .returned (.tuple #[.float .f64 r, .int .i64 (erF R a b)]) ∧ Bel w w' := by
  unfold wtG erF
  cases h : alB R a b
  · exact (rwgt_no R a b w h).mono fun e w' ⟨he, hb⟩ => ⟨0, isF_zero, he, hb⟩
  · exact (rwgt_ok R a b w oR oa ob h).mono fun e w' ⟨r, hr, he, hb⟩ => ⟨r, hr, he, hb⟩

theorem rwrm_any (R : RD) (a b : SD) (w : World) (oR : rok R) (oa : sok a) (ob : sok b) : Calls Try.prog 16 #[.agg #[.int .i64 R.ra, .int .i64 R.rb, .float .f64 R.r2, .float .f64 R.r3, .float .f64 R.r4, .float .f64 R.r5, .float .f64 R.r6, .float .f64 R.r7, .float .f64 R.r8, .float .f64 R.r9, .float .f64 R.r10, .float .f64 R.r11, .int .i64 R.ro, .float .f64 R.r13], .agg #[.float .f64 a.sm, .float .f64 a.si, .float .f64 a.sx, .float .f64 a.sy, .float .f64 a.ss], .agg #[.float .f64 b.sm, .float .f64 b.si, .float .f64 b.sx, .float .f64 b.sy, .float .f64 b.ss]] w fun e w' => ∃ A B : SD, isS A (waG R a b) ∧ isS B (wbG R a b) ∧ e = .returned (.tuple #[.agg #[.float .f64 A.sm, .float .f64 A.si, .float .f64 A.sx, .float .f64 A.sy, .float .f64 A.ss], .agg #[.float .f64 B.sm, .float .f64 B.si, .float .f64 B.sx, .float .f64 B.sy, .float .f64 B.ss], .int .i64 (erF R a b)]) ∧ Bel w w' := by
  unfold waG wbG erF
  cases h : alB R a b
  · exact (rwrm_no R a b w h).mono fun e w' ⟨he, hb⟩ => ⟨Z5S, Z5S, z5_is, z5_is, he, hb⟩
  · exact (rwrm_ok R a b w oR oa ob h).mono fun e w' ⟨x, y, u, x2, y2, u2, hx, hy, hu, hx2, hy2, hu2, he, hb⟩ => ⟨⟨a.sm, a.si, x, y, u⟩, ⟨b.sm, b.si, x2, y2, u2⟩, pu_is oa hx hy hu, pu_is ob hx2 hy2 hu2, he, hb⟩

theorem rone_any (R : RD) (a b : SD) (w : World) (oR : rok R) (oa : sok a) (ob : sok b) : Calls Try.prog 17 #[.agg #[.int .i64 R.ra, .int .i64 R.rb, .float .f64 R.r2, .float .f64 R.r3, .float .f64 R.r4, .float .f64 R.r5, .float .f64 R.r6, .float .f64 R.r7, .float .f64 R.r8, .float .f64 R.r9, .float .f64 R.r10, .float .f64 R.r11, .int .i64 R.ro, .float .f64 R.r13], .agg #[.float .f64 a.sm, .float .f64 a.si, .float .f64 a.sx, .float .f64 a.sy, .float .f64 a.ss], .agg #[.float .f64 b.sm, .float .f64 b.si, .float .f64 b.sx, .float .f64 b.sy, .float .f64 b.ss]] w fun e w' => ∃ (Q : RD) (A B : SD), isR Q (orG R a b) ∧ isS A (oaG R a b) ∧ isS B (obG R a b) ∧ e = .returned (.tuple #[.agg #[.int .i64 Q.ra, .int .i64 Q.rb, .float .f64 Q.r2, .float .f64 Q.r3, .float .f64 Q.r4, .float .f64 Q.r5, .float .f64 Q.r6, .float .f64 Q.r7, .float .f64 Q.r8, .float .f64 Q.r9, .float .f64 Q.r10, .float .f64 Q.r11, .int .i64 Q.ro, .float .f64 Q.r13], .agg #[.float .f64 A.sm, .float .f64 A.si, .float .f64 A.sx, .float .f64 A.sy, .float .f64 A.ss], .agg #[.float .f64 B.sm, .float .f64 B.si, .float .f64 B.sx, .float .f64 B.sy, .float .f64 B.ss], .int .i64 (erF R a b)]) ∧ Bel w w' := by
  unfold orG oaG obG erF
  cases h : alB R a b
  · exact (rone_no R a b w h).mono fun e w' ⟨he, hb⟩ => ⟨Z14R, Z5S, Z5S, z14_is, z5_is, z5_is, he, hb⟩
  · cases g : slB R a b
    · refine (rone_same R a b w oR oa ob h g).mono fun e w' ⟨he, hb⟩ => ⟨R, a, b, ⟨oR, rfl⟩, isS_r oa, isS_r ob, he, hb⟩
    · have g2 := g
      unfold slB at g2
      rw [Bool.and_eq_true] at g2
      exact (rone_ok R a b w oR oa ob h g2.1 g2.2).mono fun e w' ⟨q, x, y, u, x2, y2, u2, hq, hx, hy, hu, hx2, hy2, hu2, he, hb⟩ => ⟨setP R q, ⟨a.sm, a.si, x, y, u⟩, ⟨b.sm, b.si, x2, y2, u2⟩, ⟨⟨oR.1, oR.2.1, oR.2.2.1, oR.2.2.2.1, oR.2.2.2.2.1, oR.2.2.2.2.2.1, oR.2.2.2.2.2.2.1, oR.2.2.2.2.2.2.2.1, oR.2.2.2.2.2.2.2.2.1, hq.1, oR.2.2.2.2.2.2.2.2.2.2⟩, by unfold nRd setP; simp only [cond_true]; rw [hq.2]⟩, pu_is oa hx hy hu, pu_is ob hx2 hy2 hu2, he, hb⟩

end Go.Proofs.Ythnnoofelbkcfaa
