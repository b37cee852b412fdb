/-
  What each function of package poly answers, and what the reference of its chapter answers: one contract a function, for every float: the answer stands in the relation of its formula to what was given; of the memory that was there nothing has turned.
-/
import Derived.Test.YtfohggiehbplkaaVec
import Derived.Test.YtfohggiehbplkaaWea
import Derived.Below
import Derived.WalkKit
import Derived.WalkLawsBesides
import Derived.WalkSpells
import Derived.ProofKit
import Derived.OpenShut
import Derived.Deep.RegionHeld3
namespace Go.Proofs.Ytfohggiehbplkaa
open Go.ChangeShapes Go.WideShapes Go.ChangeAt Go.RowKit
set_option linter.unusedVariables false
set_option linter.unusedSimpArgs false


def mdS (a : SD) : SD := ⟨a.sm, a.si, bif eqK .f64 a.sm 0 then 0 else a.sx, bif eqK .f64 a.sm 0 then 0 else a.sy, bif eqK .f64 a.si 0 then 0 else a.ss⟩
def Teq (R T : RD) : Prop := T = ⟨R.ra, R.rb, R.r2, R.r3, R.r4, R.r5, R.r6, R.r7, 0, R.r9, R.r10, R.r11, R.ro, R.r13⟩
def Seq9 (a c : SD) : Prop := c = mdS a
theorem teq_cells {R0 R : RD} (h : Teq R0 R) : ([.int .i64 R0.ra, .int .i64 R0.rb, .float .f64 R0.r2, .float .f64 R0.r3, .float .f64 R0.r4, .float .f64 R0.r5, .float .f64 R0.r6, .float .f64 R0.r7, .float .f64 0, .float .f64 R0.r9, .float .f64 R0.r10, .float .f64 R0.r11, .int .i64 R0.ro, .float .f64 R0.r13] : List Value) = [.int .i64 R.ra, .int .i64 R.rb, .float .f64 R.r2, .float .f64 R.r3, .float .f64 R.r4, .float .f64 R.r5, .float .f64 R.r6, .float .f64 R.r7, .float .f64 R.r8, .float .f64 R.r9, .float .f64 R.r10, .float .f64 R.r11, .int .i64 R.ro, .float .f64 R.r13] := by unfold Teq at h; rw [h]
theorem md_ff {a c : SD} (h : Seq9 a c) (h1 : eqK .f64 a.sm 0 = false) (h2 : eqK .f64 a.si 0 = false) : ([.float .f64 a.sm, .float .f64 a.si, .float .f64 a.sx, .float .f64 a.sy, .float .f64 a.ss] : List Value) = [.float .f64 c.sm, .float .f64 c.si, .float .f64 c.sx, .float .f64 c.sy, .float .f64 c.ss] := by unfold Seq9 mdS at h; subst h; simp [h1, h2]
theorem md_ft {a c : SD} (h : Seq9 a c) (h1 : eqK .f64 a.sm 0 = false) (h2 : eqK .f64 a.si 0 = true) : ([.float .f64 a.sm, .float .f64 a.si, .float .f64 a.sx, .float .f64 a.sy, .float .f64 0] : List Value) = [.float .f64 c.sm, .float .f64 c.si, .float .f64 c.sx, .float .f64 c.sy, .float .f64 c.ss] := by unfold Seq9 mdS at h; subst h; simp [h1, h2]
theorem md_tf {a c : SD} (h : Seq9 a c) (h1 : eqK .f64 a.sm 0 = true) (h2 : eqK .f64 a.si 0 = false) : ([.float .f64 a.sm, .float .f64 a.si, .float .f64 0, .float .f64 0, .float .f64 a.ss] : List Value) = [.float .f64 c.sm, .float .f64 c.si, .float .f64 c.sx, .float .f64 c.sy, .float .f64 c.ss] := by unfold Seq9 mdS at h; subst h; simp [h1, h2]
theorem md_tt {a c : SD} (h : Seq9 a c) (h1 : eqK .f64 a.sm 0 = true) (h2 : eqK .f64 a.si 0 = true) : ([.float .f64 a.sm, .float .f64 a.si, .float .f64 0, .float .f64 0, .float .f64 0] : List Value) = [.float .f64 c.sm, .float .f64 c.si, .float .f64 c.sx, .float .f64 c.sy, .float .f64 c.ss] := by unfold Seq9 mdS at h; subst h; simp [h1, h2]

theorem eq0_rv {m : Nat} (h : Us m) (z : rv m = 0) : eqK .f64 m 0 = true := by
  have a := (le_rv (fin_nan h.bd.2.1) (show nanK .f64 0 = false by decide +kernel)).2 (by rw [z, rv0_9]; exact Rat.le_refl)
  have b := (le_rv (show nanK .f64 0 = false by decide +kernel) (fin_nan h.bd.2.1)).2 (by rw [z, rv0_9]; exact Rat.le_refl)
  unfold leK at a b
  unfold eqK
  simp only [Bool.and_eq_true, decide_eq_true_eq, beq_iff_eq] at a b ⊢
  exact ⟨a.1, by omega⟩
theorem md_z {a c : SD} (h : Seq9 a c) (hm : Us c.sm) (hi : Us c.si) : (rv c.sm = 0 → rv c.sx = 0 ∧ rv c.sy = 0) ∧ (rv c.si = 0 → rv c.ss = 0) := by
  unfold Seq9 mdS at h
  subst h
  refine ⟨fun z => ?_, fun z => ?_⟩
  · have e := eq0_rv hm z
    simp only at e
    simp only [e, cond_true]
    exact ⟨rv0_9, rv0_9⟩
  · have e := eq0_rv hi z
    simp only at e
    simp only [e, cond_true]
    exact rv0_9
theorem hz_of {R : RD} {a0 a b0 b : SD} (UN : UsN R a b) (h1 : Seq9 a0 a) (h2 : Seq9 b0 b) : ∀ i, i < 6 → rv (MW a b i) = 0 → rv (VW a b i) = 0 := fun i hi => by
  have x := md_z h1 (UN.fm 0 (by omega)) (UN.fm 2 (by omega))
  have y := md_z h2 (UN.fm 3 (by omega)) (UN.fm 5 (by omega))
  rcases (show i = 0 ∨ i = 1 ∨ i = 2 ∨ i = 3 ∨ i = 4 ∨ i = 5 by omega) with rfl | rfl | rfl | rfl | rfl | rfl
  · exact fun z => (x.1 z).1
  · exact fun z => (x.1 z).2
  · exact x.2
  · exact fun z => (y.1 z).1
  · exact fun z => (y.1 z).2
  · exact y.2
theorem seq_ok {a c : SD} (h : Seq9 a c) (o : sok a) : sok c := by
  unfold Seq9 mdS at h
  subst h
  obtain ⟨o1, o2, o3, o4, o5⟩ := o
  refine ⟨o1, o2, ?_, ?_, ?_⟩
  · simp only; cases eqK .f64 a.sm 0 <;> first | exact o3 | exact ok_zero
  · simp only; cases eqK .f64 a.sm 0 <;> first | exact o4 | exact ok_zero
  · simp only; cases eqK .f64 a.si 0 <;> first | exact o5 | exact ok_zero
theorem teq_ok {R0 R : RD} (h : Teq R0 R) (o : rok R0) : rok R := by
  unfold Teq at h
  subst h
  obtain ⟨o2, o3, o4, o5, o6, o7, o8, o9, o10, o11, o13⟩ := o
  exact ⟨o2, o3, o4, o5, o6, o7, ok_zero, o9, o10, o11, o13⟩
/-- all that the end of the walk reckons -/
theorem en_fin {R : RD} {a b : SD} {q x y u x2 y2 u2 : Nat} (UN : UsN R a b) (bq : Bd 219 q) (hV : ∀ i, i < 6 → Bd 340 (VW ⟨a.sm, a.si, x, y, u⟩ ⟨b.sm, b.si, x2, y2, u2⟩ i))
    (hle : leK .f64 (keW (MW a b) (VW ⟨a.sm, a.si, x, y, u⟩ ⟨b.sm, b.si, x2, y2, u2⟩)) (rhW (AW R) (MW a b) (VW a b) R.r11 q) = true) :
    ∃ KB KA p1 p2 p3 p4 p5 p6 p7 : Nat, (∀ W, (binOp .add 24 (.float .f64 (kiW a.sm a.si a.sx a.sy a.ss)) (.float .f64 (kiW b.sm b.si b.sx b.sy b.ss))).run Try.prog W = .ok (.float .f64 KB) W)
      ∧ (∀ W, (binOp .add 24 (.float .f64 (kiW a.sm a.si x y u)) (.float .f64 (kiW b.sm b.si x2 y2 u2))).run Try.prog W = .ok (.float .f64 KA) W)
      ∧ (∀ W, (binOp .mul 24 (.float .f64 R.r11) (.float .f64 R.r11)).run Try.prog W = .ok (.float .f64 p1) W)
      ∧ (∀ W, (binOp .mul 24 (.float .f64 q) (.float .f64 q)).run Try.prog W = .ok (.float .f64 p2) W)
      ∧ (∀ W, (binOp .add 24 (.float .f64 p1) (.float .f64 p2)).run Try.prog W = .ok (.float .f64 p3) W)
      ∧ (∀ W, (binOp .mul 24 (.float .f64 (wtF R a b)) (.float .f64 p3)).run Try.prog W = .ok (.float .f64 p4) W)
      ∧ (∀ W, (binOp .add 24 (.float .f64 KB) (.float .f64 p4)).run Try.prog W = .ok (.float .f64 p5) W)
      ∧ (∀ W, (binOp .mul 24 (.float .f64 4472074429978902528) (.float .f64 p5)).run Try.prog W = .ok (.float .f64 p6) W)
      ∧ (∀ W, (binOp .add 24 (.float .f64 KB) (.float .f64 p6)).run Try.prog W = .ok (.float .f64 p7) W)
      ∧ leK .f64 KA p7 = true := by
  have hv3 := fun i hi => bd_mono (UN.fv i hi).bd (show 40 ≤ 340 by omega)
  have M0 : ∀ V, 0 ≤ KE (MW a b) V := fun V => by
    have q := fun i j (h : i < 6) => te_nn (v := V j) (UN.fm0 i h)
    have q0 := q 0 0 (by omega); have q1 := q 0 1 (by omega); have q2 := q 2 2 (by omega); have q3 := q 3 3 (by omega); have q4 := q 3 4 (by omega); have q5 := q 5 5 (by omega)
    unfold KE
    grind
  have c : etR * 2 ^ 60 ≤ epR := by decide +kernel
  have nb : ∀ V, (∀ i, i < 6 → Bd 340 (V i)) → Bd 732 (keW (MW a b) V) ∧ Bd 730 (kiW (MW a b 0) (MW a b 2) (V 0) (V 1) (V 2)) ∧ Bd 730 (kiW (MW a b 3) (MW a b 5) (V 3) (V 4) (V 5)) := fun V hV => by
    have h0 := M0 V
    have := Rat.mul_nonneg ep_pos h0
    have q := fun i j (h : i < 6) => te_nn (v := V j) (UN.fm0 i h)
    have q0 := q 0 0 (by omega); have q1 := q 0 1 (by omega); have q2 := q 2 2 (by omega); have q3 := q 3 3 (by omega); have q4 := q 3 4 (by omega); have q5 := q 5 5 (by omega)
    refine ⟨(ke_num (M := KE (MW a b) V + 1) UN.fm UN.fm0 hV (by grind) (by grind)).1, (ki_num (M := KE (MW a b) V + 1) (UN.fm 0 (by omega)) (UN.fm 2 (by omega)) (UN.fm0 0 (by omega)) (UN.fm0 2 (by omega)) (hV 0 (by omega)) (hV 1 (by omega)) (hV 2 (by omega)) (by unfold KE; grind) (by grind)).1, (ki_num (M := KE (MW a b) V + 1) (UN.fm 3 (by omega)) (UN.fm 5 (by omega)) (UN.fm0 3 (by omega)) (UN.fm0 5 (by omega)) (hV 3 (by omega)) (hV 4 (by omega)) (hV 5 (by omega)) (by unfold KE; grind) (by grind)).1⟩
  obtain ⟨b1, b2, b3⟩ := nb _ hv3
  obtain ⟨c1, c2, c3⟩ := nb _ hV
  have bP := bd_mono UN.fp.bd (show 40 ≤ 219 by omega)
  have bw := (wt_num UN.fa UN.fm UN.fm0).1
  have d1 := (mul_o bP bP (by omega)).1
  have d2 := (mul_o bq bq (by omega)).1
  have d3 := (add_oB d1 d2 (by omega)).1
  have d4 := (mul_o bw d3 (by omega)).1
  have d5 := (add_oB b1 (bd_mono d4 (show _ ≤ 732 by omega)) (by omega)).1
  have d6 := (mul_o c30_bd d5 (by omega)).1
  refine ⟨_, _, _, _, _, _, _, _, _, fun W => run_add_o 24 W b2 b3 (by omega), fun W => run_add_o 24 W c2 c3 (by omega), fun W => run_mul_o 24 W bP bP (by omega), fun W => run_mul_o 24 W bq bq (by omega), fun W => run_add_o 24 W d1 d2 (by omega), fun W => ?_, fun W => run_add_o 24 W b1 (bd_mono d4 (show _ ≤ 732 by omega)) (by omega), fun W => run_mul_o 24 W c30_bd d5 (by omega), fun W => run_add_o 24 W (bd_mono b1 (show 732 ≤ 780 by omega)) (bd_mono d6 (show _ ≤ 780 by omega)) (by omega), hle⟩
  rw [wt_eqW UN]
  exact run_mul_o 24 W bw d3 (by omega)
/-- where the row weighs nothing -/
theorem en_zero {R : RD} {a b : SD} (UN : UsN R a b) (hz : ∀ i, i < 6 → rv (MW a b i) = 0 → rv (VW a b i) = 0) (hw : ltK .f64 0 (wtF R a b) = false) : leK .f64 (keW (MW a b) (VW a b)) (rhW (AW R) (MW a b) (VW a b) R.r11 R.r11) = true :=
  energy_same UN.fm UN.fm0 UN.fa UN.fv rfl rfl hz UN.fp (by rw [← wt_eqW UN]; exact hw)
/-- a push within its ends lies between what was and what was asked -/
theorem cl_between {x lo hi p : Nat} (nx : nanK .f64 x = false) (nl : nanK .f64 lo = false) (nh : nanK .f64 hi = false) (np : nanK .f64 p = false) (h1 : ltK .f64 p lo = false) (h2 : ltK .f64 hi p = false) :
    (rv p ≤ rv (clK .f64 x lo hi) ∧ rv (clK .f64 x lo hi) ≤ rv x) ∨ (rv x ≤ rv (clK .f64 x lo hi) ∧ rv (clK .f64 x lo hi) ≤ rv p) := by
  have nlt : ∀ {u v : Nat}, nanK .f64 u = false → nanK .f64 v = false → ltK .f64 u v = false → rv v ≤ rv u := fun {u v} nu nv h => by
    rcases Rat.le_total (a := rv v) (b := rv u) with g | g
    · exact g
    · by_cases e : rv u = rv v
      · rw [e]; exact Rat.le_refl
      · have := (lt_rv nu nv).2 (by grind)
        rw [this] at h; cases h
  have k1 := nlt np nl h1
  have k2 := nlt nh np h2
  unfold clK
  cases g1 : ltK .f64 lo x
  · simp only [if_true]
    exact .inr ⟨nlt nl nx g1, k1⟩
  · simp only [Bool.true_eq_false, if_false]
    cases g2 : ltK .f64 hi x
    · simp only [Bool.false_eq_true, if_false]
      rcases Rat.le_total (a := rv p) (b := rv x) with g | g
      · exact .inl ⟨g, Rat.le_refl⟩
      · exact .inr ⟨Rat.le_refl, g⟩
    · simp only [if_true]
      have := (lt_rv nh nx).1 g2
      exact .inl ⟨k2, by grind⟩
theorem en_sol {R : RD} {a b : SD} (UN : UsN R a b) (hz : ∀ i, i < 6 → rv (MW a b i) = 0 → rv (VW a b i) = 0) (hw : ltK .f64 0 (wtF R a b) = true) (e8 : R.r8 = 0) (h1 : ltK .f64 R.r11 R.r9 = false) (h2 : ltK .f64 R.r10 R.r11 = false) {x y u x2 y2 u2 : Nat}
    (hx : isF x (puX a.sm a.sx R.r2 (dfF R a b))) (hy : isF y (puX a.sm a.sy R.r3 (dfF R a b))) (hu : isF u (puT a.si a.ss R.r6 (dfF R a b))) (hx2 : isF x2 (puX b.sm b.sx R.r4 (dfF R a b))) (hy2 : isF y2 (puX b.sm b.sy R.r5 (dfF R a b))) (hu2 : isF u2 (puT b.si b.ss R.r7 (dfF R a b))) :
    Bd 219 (quF R a b) ∧ (∀ i, i < 6 → Bd 340 (VW ⟨a.sm, a.si, x, y, u⟩ ⟨b.sm, b.si, x2, y2, u2⟩ i)) ∧ leK .f64 (keW (MW a b) (VW ⟨a.sm, a.si, x, y, u⟩ ⟨b.sm, b.si, x2, y2, u2⟩)) (rhW (AW R) (MW a b) (VW a b) R.r11 (quF R a b)) = true := by
  have w := us_wW UN hw
  obtain ⟨_, _, _, _, bp, _, _, _⟩ := qu_bd w
  have c := cl_numW bp (by omega) UN.lo UN.hi UN.ends
  have bt := cl_between (fin_nan bp.2.1) (le_nums UN.ends).1 (le_nums UN.ends).2 (fin_nan UN.fp.bd.2.1) h1 h2
  rw [← qu_eqW UN] at c bt
  have bq := c.1
  have bd := (sub_oB bq (bd_mono UN.fp.bd (show 40 ≤ 219 by omega)) (by omega)).1
  have bd9 := bd_mono bd (show 221 ≤ 491 by omega)
  have ed : dfF R a b = oF .sub (quF R a b) R.r11 := by unfold dfF; rw [us_bits UN.fp]
  rw [ed] at hx hy hu hx2 hy2 hu2
  have k0 := pu_vv (Ms := MW a b) (A := AW R) (V := VW a b) (i := 0) (UN.fm 0 (by omega)) (UN.fm0 0 (by omega)) (UN.fa 0 (by omega)) (UN.fv 0 (by omega)) bd9 (by omega) hx
  have k1 := pu_vv (Ms := MW a b) (A := AW R) (V := VW a b) (i := 1) (UN.fm 1 (by omega)) (UN.fm0 1 (by omega)) (UN.fa 1 (by omega)) (UN.fv 1 (by omega)) bd9 (by omega) hy
  have k2 := pu_vt (Ms := MW a b) (A := AW R) (V := VW a b) (i := 2) (UN.fm 2 (by omega)) (UN.fm0 2 (by omega)) (UN.fa 2 (by omega)) (UN.fv 2 (by omega)) bd9 (.inl rfl) hu
  have k3 := pu_vv (Ms := MW a b) (A := AW R) (V := VW a b) (i := 3) (UN.fm 3 (by omega)) (UN.fm0 3 (by omega)) (UN.fa 3 (by omega)) (UN.fv 3 (by omega)) bd9 (by omega) hx2
  have k4 := pu_vv (Ms := MW a b) (A := AW R) (V := VW a b) (i := 4) (UN.fm 4 (by omega)) (UN.fm0 4 (by omega)) (UN.fa 4 (by omega)) (UN.fv 4 (by omega)) bd9 (by omega) hy2
  have k5 := pu_vt (Ms := MW a b) (A := AW R) (V := VW a b) (i := 5) (UN.fm 5 (by omega)) (UN.fm0 5 (by omega)) (UN.fa 5 (by omega)) (UN.fv 5 (by omega)) bd9 (.inr rfl) hu2
  obtain ⟨s1, s2⟩ := energy_word w (by rw [e8]; exact rv0_9) hz bq bt
  have at_ : ∀ i, i < 6 → VW ⟨a.sm, a.si, x, y, u⟩ ⟨b.sm, b.si, x2, y2, u2⟩ i = vvW (MW a b) (AW R) (VW a b) (oF .sub (quF R a b) R.r11) i := fun i hi => by
    rcases (show i = 0 ∨ i = 1 ∨ i = 2 ∨ i = 3 ∨ i = 4 ∨ i = 5 by omega) with rfl | rfl | rfl | rfl | rfl | rfl
    · exact k0
    · exact k1
    · exact k2
    · exact k3
    · exact k4
    · exact k5
  refine ⟨bq, fun i hi => by rw [at_ i hi]; exact s1 i hi, ?_⟩
  unfold keW at s2 ⊢
  rw [at_ 0 (by omega), at_ 1 (by omega), at_ 2 (by omega), at_ 3 (by omega), at_ 4 (by omega), at_ 5 (by omega)]
  exact s2

end Go.Proofs.Ytfohggiehbplkaa
