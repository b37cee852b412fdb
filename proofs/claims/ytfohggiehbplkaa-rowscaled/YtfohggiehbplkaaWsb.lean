/-
  What each function of package poly answers, and what the reference of its chapter answers: one contract a function, for every float: the answer stands in the relation of its formula to what was given; of the memory that was there nothing has turned.
-/
import Derived.Test.YtfohggiehbplkaaVec
import Derived.Test.YtfohggiehbplkaaWsa
import Derived.Below
import Derived.WalkKit
import Derived.WalkLawsBesides
import Derived.WalkSpells
import Derived.ProofKit
import Derived.OpenShut
import Derived.Deep.RegionHeld3
namespace Go.Proofs.Ytfohggiehbplkaa
open Go.ChangeShapes Go.WideShapes Go.ChangeAt Go.RowKit
set_option linter.unusedVariables false
set_option linter.unusedSimpArgs false


def o2 (p : Int) (x : Nat) : Nat := oF .quo (oF .quo x (pw p)) (pw p)
def o4 (p : Int) (x : Nat) : Nat := o2 p (o2 p x)
def scR (p : Int) (R : RD) : RD := ⟨R.ra, R.rb, R.r2, R.r3, R.r4, R.r5, oF .mul R.r6 (pw p), oF .mul R.r7 (pw p), oF .mul R.r8 (pw p), k3 p R.r9, k3 p R.r10, k3 p R.r11, R.ro, R.r13⟩
def scS (p : Int) (a : SD) : SD := ⟨o2 p a.sm, o4 p a.si, oF .mul a.sx (pw p), oF .mul a.sy (pw p), a.ss⟩
/-- a division by the power -/
structure O1 (p : Int) (x : Nat) : Prop where
  s : floatBits .quo .f64 x (pw p) = some (oF .quo x (pw p))
theorem pw_mg {p : Int} (h1 : -8 ≤ p) (h2 : p ≤ 8) : mg (pw p) ≠ 0 := by
  obtain ⟨s, r, _⟩ := sr_pw h1 h2
  rcases r with z | ⟨g, _⟩
  · exact fun _ => by
      have m := s.2.2.2.2.2
      rw [z, Nat.zero_mul] at m
      rcases Nat.mul_eq_zero.1 m.symm with e | e
      · exact absurd e (by decide +kernel)
      · exact absurd e (Nat.ne_of_gt (Nat.two_pow_pos _))
  · exact ne_of_pow g
theorem d_some {p : Int} (h1 : -8 ≤ p) (h2 : p ≤ 8) {x : Nat} (fx : finK .f64 x = true) (f : finK .f64 (oF .quo x (pw p)) = true) : floatBits .quo .f64 x (pw p) = some (oF .quo x (pw p)) :=
  some_sr (e := 0) (a := 0) (b := 0) (p := 0) fx (sr_pw h1 h2).2.2.1 .quo (some_quo fx (sr_pw h1 h2).2.2.1 (pw_mg h1 h2)) f
theorem sr_o2 {p : Int} (h1 : -8 ≤ p) (h2 : p ≤ 8) {e : Int} {a b x x' : Nat} (h : Sr e a b x x') (u1 : 100 ≤ a) (u2 : b ≤ 2060) : Sr (e - 2 * p) (a - 18) (b + 18) x (o2 p x') ∧ floatBits .quo .f64 x' (pw p) = some (oF .quo x' (pw p)) ∧ floatBits .quo .f64 (oF .quo x' (pw p)) (pw p) = some (o2 p x') := by
  have t1 := sr_over h1 h2 h (by omega) (by omega)
  have t2 := sr_over h1 h2 t1 (by omega) (by omega)
  exact ⟨(t2.eq (by omega)).wide (by omega) (by omega), d_some h1 h2 h.fin.2.1 t1.fin.2.1, d_some h1 h2 t1.fin.2.1 t2.fin.2.1⟩
theorem run_bits (op : BinOp) (hop : op = .mul ∨ op = .quo) (t : TypeId) {x y v : Nat} (h : floatBits op .f64 x y = some v) (w : World) : (binOp op t (.float .f64 x) (.float .f64 y)).run Try.prog w = .ok (.float .f64 v) w := by
  rcases hop with rfl | rfl
  · rw [run_mul]
    unfold fv fd
    rw [h]
    rfl
  · rw [run_quo]
    unfold fv fd
    rw [h]
    rfl
theorem us_sr {p : Int} (h1 : -8 ≤ p) (h2 : p ≤ 8) {x : Nat} (h : Us x) : Sr p 998 1150 x (oF .mul x (pw p)) ∧ floatBits .mul .f64 x (pw p) = some (oF .mul x (pw p)) ∧ Sr (3 * p) 998 1150 x (k3 p x) ∧ K3 p x ∧ Sr (-2 * p) 998 1150 x (o2 p x) ∧ Sr (-4 * p) 998 1150 x (o4 p x) ∧ floatBits .quo .f64 x (pw p) = some (oF .quo x (pw p)) ∧ floatBits .quo .f64 (oF .quo x (pw p)) (pw p) = some (o2 p x) ∧ floatBits .quo .f64 (o2 p x) (pw p) = some (oF .quo (o2 p x) (pw p)) ∧ floatBits .quo .f64 (oF .quo (o2 p x) (pw p)) (pw p) = some (o4 p x) := by
  have s := sr_us h
  have t := sr_times h1 h2 s (by omega) (by omega)
  obtain ⟨k, kk⟩ := sr_k3 h1 h2 s (by omega) (by omega)
  obtain ⟨d1, d2, d3⟩ := sr_o2 h1 h2 s (by omega) (by omega)
  obtain ⟨e1, e2, e3⟩ := sr_o2 h1 h2 d1 (by omega) (by omega)
  exact ⟨(t.eq (by omega)).wide (by omega) (by omega), t_some h1 h2 s.fin.1 t.fin.2.1, k.wide (by omega) (by omega), kk, (d1.eq (by omega)).wide (by omega) (by omega), (e1.eq (by omega)).wide (by omega) (by omega), d2, d3, e2, e3⟩
theorem sr_refl {x : Nat} (h : Us x) : Sr 0 998 1150 x x := (sr_us h).wide (by omega) (by omega)
theorem sc_row {p : Int} (h1 : -8 ≤ p) (h2 : p ≤ 8) {R : RD} {a b : SD} (U : UsN R a b) : ScR p (AW R) (VW a b) (MW a b) (AW (scR p R)) (VW (scS p a) (scS p b)) (MW (scS p a) (scS p b)) R.r8 (scR p R).r8 R.r11 (scR p R).r11 R.r9 (scR p R).r9 := by
  refine ⟨fun i hi => ?_, fun i hi => ?_, fun i hi => ?_, (us_sr h1 h2 U.fb).1, (us_sr h1 h2 U.fp).2.2.1, (us_sr h1 h2 U.lo).2.2.1⟩
  · have u := U.fa i hi
    rcases (show i = 0 ∨ i = 1 ∨ i = 2 ∨ i = 3 ∨ i = 4 ∨ i = 5 by omega) with rfl | rfl | rfl | rfl | rfl | rfl
    · exact sr_refl u
    · exact sr_refl u
    · exact (us_sr h1 h2 u).1
    · exact sr_refl u
    · exact sr_refl u
    · exact (us_sr h1 h2 u).1
  · have u := U.fv i hi
    rcases (show i = 0 ∨ i = 1 ∨ i = 2 ∨ i = 3 ∨ i = 4 ∨ i = 5 by omega) with rfl | rfl | rfl | rfl | rfl | rfl
    · exact (us_sr h1 h2 u).1
    · exact (us_sr h1 h2 u).1
    · exact sr_refl u
    · exact (us_sr h1 h2 u).1
    · exact (us_sr h1 h2 u).1
    · exact sr_refl u
  · have u := U.fm i hi
    rcases (show i = 0 ∨ i = 1 ∨ i = 2 ∨ i = 3 ∨ i = 4 ∨ i = 5 by omega) with rfl | rfl | rfl | rfl | rfl | rfl
    · exact (us_sr h1 h2 u).2.2.2.2.1
    · exact (us_sr h1 h2 u).2.2.2.2.1
    · exact (us_sr h1 h2 u).2.2.2.2.2.1
    · exact (us_sr h1 h2 u).2.2.2.2.1
    · exact (us_sr h1 h2 u).2.2.2.2.1
    · exact (us_sr h1 h2 u).2.2.2.2.2.1
theorem lt_mg {x : Nat} (h : ltK .f64 0 x = true) : mg x ≠ 0 := pos_mg h
/-- what both come to -/
structure Both (p : Int) (R : RD) (a b : SD) : Prop where
  f : FinR R a b
  g : FinR (scR p R) (scS p a) (scS p b)
  sp : Sr p 714 1230 (spW (AW R) (VW a b)) (spW (AW (scR p R)) (VW (scS p a) (scS p b)))
  wt : Sr (-2 * p) 638 1306 (wtW (AW R) (MW a b)) (wtW (AW (scR p R)) (MW (scS p a) (scS p b)))
  q : Sr (3 * p) 377 1800 (qx R a b) (qx (scR p R) (scS p a) (scS p b))
  v : ∀ i, i < 6 → Sr (eV p i) 121 1954 (vx R a b i) (vx (scR p R) (scS p a) (scS p b) i)
theorem we_sr {e : Int} {a b x x' : Nat} (h : Sr e a b x x') (g : leK .f64 0 x = true) : weB x' = true := by
  have k := (sr_cmp (sr_zero e a b) h).2
  unfold weB
  rw [k, g, h.fin.2.1]; rfl
theorem both_of {p : Int} (h1 : -8 ≤ p) (h2 : p ≤ 8) {R : RD} {a b : SD} (US : UsP R a b) (U : UsN R a b) (oR : rok R) (oa : sok a) (ob : sok b) (hal : alB R a b = true) : Both p R a b := by
  have S := sc_row h1 h2 U
  have ssp := sc_sp S
  have swt := sc_wt S
  obtain ⟨hH, kH, lH, nH, okH⟩ := hi_of h1 h2 U.hi
  have ew : ltK .f64 0 (wtW (AW (scR p R)) (MW (scS p a) (scS p b))) = ltK .f64 0 (wtW (AW R) (MW a b)) := (sr_cmp (sr_zero (-2 * p) 638 1306) swt).1
  have sq : Sr (3 * p) 377 1800 (qx R a b) (qx (scR p R) (scS p a) (scS p b)) := by
    unfold qx
    rw [ew]
    cases hw : ltK .f64 0 (wtW (AW R) (MW a b))
    · simp only [Bool.false_eq_true, if_false]
      exact S.q.wide (by omega) (by omega)
    · simp only [if_true]
      exact sc_cl (sc_pu S (lt_mg hw)) (by omega) (by omega) S.lo hH
  have sd : Sr (3 * p) 325 1801 (dx R a b) (dx (scR p R) (scS p a) (scS p b)) := sc_df S sq
  have sv := sc_vv S sd
  have svx : ∀ i, i < 6 → Sr (eV p i) 121 1954 (vx R a b i) (vx (scR p R) (scS p a) (scS p b) i) := fun i hi => by
    unfold vx
    rw [ew]
    cases hw : ltK .f64 0 (wtW (AW R) (MW a b))
    · simp only [Bool.false_eq_true, if_false]
      exact (S.v i hi).wide (by omega) (by omega)
    · simp only [if_true]
      exact sv i hi
  have slk := sc_lk S
  have oT : rok (scR p R) := ⟨oR.1, oR.2.1, oR.2.2.1, oR.2.2.2.1, (us_sr h1 h2 (U.fa 2 (by omega))).1.fin.2.2.2, (us_sr h1 h2 (U.fa 5 (by omega))).1.fin.2.2.2, S.b.fin.2.2.2, S.lo.fin.2.2.2, okH, S.q.fin.2.2.2, oR.2.2.2.2.2.2.2.2.2.2⟩
  have oA : sok (scS p a) := ⟨(S.m 0 (by omega)).fin.2.2.2, (S.m 2 (by omega)).fin.2.2.2, (S.v 0 (by omega)).fin.2.2.2, (S.v 1 (by omega)).fin.2.2.2, oa.2.2.2.2⟩
  have oB : sok (scS p b) := ⟨(S.m 3 (by omega)).fin.2.2.2, (S.m 5 (by omega)).fin.2.2.2, (S.v 3 (by omega)).fin.2.2.2, (S.v 4 (by omega)).fin.2.2.2, ob.2.2.2.2⟩
  have alT : alB (scR p R) (scS p a) (scS p b) = true := by
    have m := US.may
    unfold mayB at m
    simp only [Bool.and_eq_true] at m
    obtain ⟨m1, m2, m3, m4, m5, m6, m7, m8, m9, m10, m11, m12⟩ := m
    have e5 : leK .f64 (scR p R).r9 (scR p R).r10 = true := lH _ _ S.lo m5
    have fA := fun i hi => (S.a i hi).fin.2.1
    have f2 := fA 0 (by omega); have f3 := fA 1 (by omega); have f6 := fA 2 (by omega); have f4 := fA 3 (by omega); have f5 := fA 4 (by omega); have f7 := fA 5 (by omega)
    have M : mayB (scR p R) = true := by
      unfold mayB
      simp only [Bool.and_eq_true]
      exact ⟨m1, m2, m3, m4, e5, ⟨f2, f3⟩, ⟨f4, f5⟩, f6, f7, S.b.fin.2.1, S.q.fin.2.1, m12⟩
    unfold alB stB
    rw [M]
    have w1 := we_sr (S.m 0 (by omega)) US.am
    have w2 := we_sr (S.m 2 (by omega)) US.ai
    have w3 := we_sr (S.m 3 (by omega)) US.bm
    have w4 := we_sr (S.m 5 (by omega)) US.bi
    show (true && ((weB (MW (scS p a) (scS p b) 0) && weB (MW (scS p a) (scS p b) 2)) && (weB (MW (scS p a) (scS p b) 3) && weB (MW (scS p a) (scS p b) 5)))) = true
    rw [w1, w2, w3, w4]; rfl
  refine ⟨⟨oR, oa, ob, hal, fun i hi => (S.a i hi).fin.1, fun i hi => (S.v i hi).fin.1, fun i hi => (S.m i hi).fin.1, S.b.fin.1, S.q.fin.1, ssp.fin.1, swt.fin.1, fun _ => ⟨slk.fin.1, sq.fin.1, sd.fin.1, fun i hi => (sv i hi).fin.1⟩⟩,
    ⟨oT, oA, oB, alT, fun i hi => (S.a i hi).fin.2.1, fun i hi => (S.v i hi).fin.2.1, fun i hi => (S.m i hi).fin.2.1, S.b.fin.2.1, S.q.fin.2.1, ssp.fin.2.1, swt.fin.2.1, fun _ => ⟨slk.fin.2.1, sq.fin.2.1, sd.fin.2.1, fun i hi => (sv i hi).fin.2.1⟩⟩, ssp, swt, sq, svx⟩
/-- the last comparisons -/
theorem both_end {p : Int} (h1 : -8 ≤ p) (h2 : p ≤ 8) {R : RD} {a b : SD} (B : Both p R a b) :
    (floatBits .mul .f64 (spW (AW R) (VW a b)) (pw p) = some (spW (AW (scR p R)) (VW (scS p a) (scS p b))))
    ∧ (floatBits .quo .f64 (wtW (AW R) (MW a b)) (pw p) = some (oF .quo (wtW (AW R) (MW a b)) (pw p)) ∧ floatBits .quo .f64 (oF .quo (wtW (AW R) (MW a b)) (pw p)) (pw p) = some (wtW (AW (scR p R)) (MW (scS p a) (scS p b))))
    ∧ (k3 p (qx R a b) = qx (scR p R) (scS p a) (scS p b) ∧ K3 p (qx R a b))
    ∧ (∀ i, i < 6 → i ≠ 2 → i ≠ 5 → floatBits .mul .f64 (vx R a b i) (pw p) = some (vx (scR p R) (scS p a) (scS p b) i)) ∧ (∀ i, i = 2 ∨ i = 5 → vx (scR p R) (scS p a) (scS p b) i = vx R a b i) := by
  have rf : ∀ {e : Int} {a b x x' : Nat}, Sr e a b x x' → Sr 0 a b x x := fun s => ⟨⟨0, 0, rfl, Sc.refl s.fin.1 s.fin.2.2.1⟩, s.r, s.r⟩
  have r1 := rf B.sp
  have r2 := rf B.wt
  have r3 := rf B.q
  have t1 := sr_times h1 h2 r1 (by omega) (by omega)
  obtain ⟨d1, d2, d3⟩ := sr_o2 h1 h2 r2 (by omega) (by omega)
  obtain ⟨k1, kk⟩ := sr_k3 h1 h2 r3 (by omega) (by omega)
  refine ⟨?_, ⟨d2, ?_⟩, ⟨sr_uniq k1 B.q, kk⟩, fun i hi n2 n5 => ?_, fun i hi => ?_⟩
  · rw [← sr_uniq (t1.eq (show 0 + p = p by omega)) B.sp]
    exact t_some h1 h2 r1.fin.1 t1.fin.2.1
  · rw [← sr_uniq (d1.eq (show 0 - 2 * p = -2 * p by omega)) B.wt]
    exact d3
  · have r := rf (B.v i hi)
    have t := sr_times h1 h2 r (by omega) (by omega)
    rw [← sr_uniq (t.eq (show 0 + p = eV p i by unfold eV; rw [if_neg (by omega)]; omega)) (B.v i hi)]
    exact t_some h1 h2 r.fin.1 t.fin.2.1
  · have h6 : i < 6 := by omega
    have r := rf (B.v i h6)
    exact sr_uniq ((B.v i h6).eq (f := 0) (by unfold eV; rw [if_pos hi])) r

end Go.Proofs.Ytfohggiehbplkaa
