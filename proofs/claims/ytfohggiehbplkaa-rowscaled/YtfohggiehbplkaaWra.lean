/-
  What each function of package poly answers, and what the reference of its chapter answers: one contract a function, for every float: the answer stands in the relation of its formula to what was given; of the memory that was there nothing has turned.
-/
import Derived.Test.YtfohggiehbplkaaVec
import Derived.Test.YtfohggiehbplkaaWo
import Derived.Test.YtfohggiehbplkaaWnv
import Derived.Test.YtfohggiehbplkaaWn
import Derived.Below
import Derived.WalkKit
import Derived.WalkLawsBesides
import Derived.WalkSpells
import Derived.ProofKit
import Derived.OpenShut
import Derived.Deep.RegionHeld3
namespace Go.Proofs.Ytfohggiehbplkaa
open Go.ChangeShapes Go.WideShapes Go.ChangeAt Go.RowKit
set_option linter.unusedVariables false
set_option linter.unusedSimpArgs false


def AW (R : RD) : Nat → Nat := fun i => match i with | 0 => R.r2 | 1 => R.r3 | 2 => R.r6 | 3 => R.r4 | 4 => R.r5 | _ => R.r7
def VW (a b : SD) : Nat → Nat := fun i => match i with | 0 => a.sx | 1 => a.sy | 2 => a.ss | 3 => b.sx | 4 => b.sy | _ => b.ss
def MW (a b : SD) : Nat → Nat := fun i => match i with | 0 => a.sm | 1 => a.sm | 2 => a.si | 3 => b.sm | 4 => b.sm | _ => b.si
theorem us_bits {x : Nat} (h : Us x) : bitsK x = x := bits_num (fin_nan h.bd.2.1)
theorem bd_bit {n x : Nat} (h : Bd n x) : bitsK x = x := bits_num (fin_nan h.2.1)
theorem us_pos {m : Nat} (h : Us m) (m0 : leK .f64 0 m = true) : 0 ≤ rv m := by
  have h1 := (le_rv (by decide +kernel) (fin_nan h.bd.2.1)).1 m0
  have h2 : rv 0 = 0 := by decide +kernel
  rwa [h2] at h1
/-- usual words, as the numbers want them -/
structure UsN (R : RD) (a b : SD) : Prop where
  fa : ∀ i, i < 6 → Us (AW R i)
  fv : ∀ i, i < 6 → Us (VW a b i)
  fm : ∀ i, i < 6 → Us (MW a b i)
  fm0 : ∀ i, i < 6 → 0 ≤ rv (MW a b i)
  fb : Us R.r8
  fp : Us R.r11
  lo : Us R.r9
  hi : Us R.r10 ∨ (okK .f64 R.r10 ∧ ltK .f64 4787326403894837248 R.r10 = true)
  ends : leK .f64 R.r9 R.r10 = true
theorem us_n {R : RD} {a b : SD} (h : UsP R a b) (oR : rok R) (oa : sok a) (ob : sok b) : UsN R a b := by
  obtain ⟨o2, o3, o4, o5, o6, o7, o8, o9, o10, o11, o13⟩ := oR
  obtain ⟨oam, oai, oax, oay, oas⟩ := oa
  obtain ⟨obm, obi, obx, oby, obs⟩ := ob
  have r := h.row
  have t := h.sti
  have am := us_num oam (t a.sm (by simp)); have ai := us_num oai (t a.si (by simp)); have bm := us_num obm (t b.sm (by simp)); have bi := us_num obi (t b.si (by simp))
  refine ⟨fun i hi => ?_, fun i hi => ?_, fun i hi => ?_, fun i hi => ?_, us_num o8 (r R.r8 (by simp)), us_num o11 (r R.r11 (by simp)), us_num o9 (r R.r9 (by simp)), ?_, ?_⟩
  · rcases (show i = 0 ∨ i = 1 ∨ i = 2 ∨ i = 3 ∨ i = 4 ∨ i = 5 by omega) with rfl | rfl | rfl | rfl | rfl | rfl
    · exact us_num o2 (r R.r2 (by simp))
    · exact us_num o3 (r R.r3 (by simp))
    · exact us_num o6 (r R.r6 (by simp))
    · exact us_num o4 (r R.r4 (by simp))
    · exact us_num o5 (r R.r5 (by simp))
    · exact us_num o7 (r R.r7 (by simp))
  · rcases (show i = 0 ∨ i = 1 ∨ i = 2 ∨ i = 3 ∨ i = 4 ∨ i = 5 by omega) with rfl | rfl | rfl | rfl | rfl | rfl
    · exact us_num oax (t a.sx (by simp))
    · exact us_num oay (t a.sy (by simp))
    · exact us_num oas (t a.ss (by simp))
    · exact us_num obx (t b.sx (by simp))
    · exact us_num oby (t b.sy (by simp))
    · exact us_num obs (t b.ss (by simp))
  · rcases (show i = 0 ∨ i = 1 ∨ i = 2 ∨ i = 3 ∨ i = 4 ∨ i = 5 by omega) with rfl | rfl | rfl | rfl | rfl | rfl
    · exact am
    · exact am
    · exact ai
    · exact bm
    · exact bm
    · exact bi
  · rcases (show i = 0 ∨ i = 1 ∨ i = 2 ∨ i = 3 ∨ i = 4 ∨ i = 5 by omega) with rfl | rfl | rfl | rfl | rfl | rfl
    · exact us_pos am h.am
    · exact us_pos am h.am
    · exact us_pos ai h.ai
    · exact us_pos bm h.bm
    · exact us_pos bm h.bm
    · exact us_pos bi h.bi
  · rcases h.high with g | g
    · exact .inl (us_num o10 g)
    · exact .inr ⟨o10, g⟩
  · have g := h.may
    unfold mayB at g
    simp only [Bool.and_eq_true] at g
    exact g.2.2.2.2.1
theorem wt_eqW {R : RD} {a b : SD} (h : UsN R a b) : wtF R a b = wtW (AW R) (MW a b) := by
  have a0 := us_bits (h.fa 0 (by omega)); have a1 := us_bits (h.fa 1 (by omega)); have a2 := us_bits (h.fa 2 (by omega)); have a3 := us_bits (h.fa 3 (by omega)); have a4 := us_bits (h.fa 4 (by omega)); have a5 := us_bits (h.fa 5 (by omega))
  have m0 := us_bits (h.fm 0 (by omega)); have m2 := us_bits (h.fm 2 (by omega)); have m3 := us_bits (h.fm 3 (by omega)); have m5 := us_bits (h.fm 5 (by omega))
  unfold AW at a0 a1 a2 a3 a4 a5
  unfold MW at m0 m2 m3 m5
  simp only at a0 a1 a2 a3 a4 a5 m0 m2 m3 m5
  unfold wtF wtW AW MW dtF nP
  simp only
  rw [a0, a1, a2, a3, a4, a5, m0, m2, m3, m5]
theorem sp_eqW {R : RD} {c d : SD} {n : Nat} (h : ∀ i, i < 6 → Bd n (AW R i)) (g : ∀ i, i < 6 → Bd n (VW c d i)) : spF R c d = spW (AW R) (VW c d) := by
  have a0 := bd_bit (h 0 (by omega)); have a1 := bd_bit (h 1 (by omega)); have a2 := bd_bit (h 2 (by omega)); have a3 := bd_bit (h 3 (by omega)); have a4 := bd_bit (h 4 (by omega)); have a5 := bd_bit (h 5 (by omega))
  have v0 := bd_bit (g 0 (by omega)); have v1 := bd_bit (g 1 (by omega)); have v2 := bd_bit (g 2 (by omega)); have v3 := bd_bit (g 3 (by omega)); have v4 := bd_bit (g 4 (by omega)); have v5 := bd_bit (g 5 (by omega))
  unfold AW at a0 a1 a2 a3 a4 a5
  unfold VW at v0 v1 v2 v3 v4 v5
  simp only at a0 a1 a2 a3 a4 a5 v0 v1 v2 v3 v4 v5
  unfold spF spW AW VW dtF nP
  simp only
  rw [a0, a1, a2, a3, a4, a5, v0, v1, v2, v3, v4, v5]
theorem us_wW {R : RD} {a b : SD} (h : UsN R a b) (hw : ltK .f64 0 (wtF R a b) = true) : UsW (AW R) (VW a b) (MW a b) R.r8 R.r11 :=
  ⟨h.fa, h.fv, h.fm, h.fm0, rfl, rfl, h.fb, h.fp, by rw [← wt_eqW h]; exact hw⟩
theorem lk_eqW {R : RD} {a b : SD} (h : UsN R a b) : lkF R a b = lkW (AW R) (VW a b) R.r8 := by
  unfold lkF lkW
  rw [us_bits h.fb, sp_eqW (n := 40) (fun i hi => (h.fa i hi).bd) (fun i hi => (h.fv i hi).bd)]
theorem qu_eqW {R : RD} {a b : SD} (h : UsN R a b) : quF R a b = clK .f64 (puW (AW R) (VW a b) (MW a b) R.r8 R.r11) R.r9 R.r10 := by
  unfold quF puW quW
  rw [us_bits h.fp, lk_eqW h, wt_eqW h]
theorem ng_up {c x : Nat} (hc : 0 < woK .f64 c) (h : ltK .f64 c x = true) : ngK .f64 x = false := by
  unfold ltK at h
  simp only [Bool.and_eq_true, decide_eq_true_eq] at h
  have h2 := h.2
  rw [woK_eq .f64 x] at h2
  cases hg : ngK .f64 x
  · rfl
  · rw [hg] at h2
    simp only [if_true] at h2
    omega
theorem lt_le {x y : Nat} (h : ltK .f64 x y = true) : leK .f64 x y = true := by
  unfold ltK at h
  unfold leK
  simp only [Bool.and_eq_true, decide_eq_true_eq] at h ⊢
  exact ⟨h.1, by omega⟩
theorem le_not_lt {x y : Nat} (h : leK .f64 x y = true) : ltK .f64 y x = false := by
  unfold leK at h
  unfold ltK
  simp only [Bool.and_eq_true, decide_eq_true_eq] at h
  simp; omega
/-- the push behind the row's turn: within its ends, and a number -/
theorem cl_numW {n x lo hi : Nat} (bx : Bd n x) (hn : 40 ≤ n) (hlo : Us lo) (hhi : Us hi ∨ (okK .f64 hi ∧ ltK .f64 4787326403894837248 hi = true)) (he : leK .f64 lo hi = true) : Bd n (clK .f64 x lo hi) ∧ ltK .f64 (clK .f64 x lo hi) lo = false ∧ ltK .f64 hi (clK .f64 x lo hi) = false ∧ (eqK .f64 (clK .f64 x lo hi) lo = false → eqK .f64 (clK .f64 x lo hi) hi = false → clK .f64 x lo hi = x) := by
  obtain ⟨nl, nh⟩ := le_nums he
  have self : ∀ z, ltK .f64 z z = false := fun z => by unfold ltK; simp
  unfold clK
  cases h1 : ltK .f64 lo x
  · simp only [if_true]
    refine ⟨bd_mono hlo.bd hn, self lo, le_not_lt he, fun h => ?_⟩
    rw [eqK_self, nl] at h; cases h
  · simp only [Bool.true_eq_false, if_false]
    cases h2 : ltK .f64 hi x
    · simp only [Bool.false_eq_true, if_false]
      exact ⟨bx, le_not_lt (lt_le h1), by exact h2, fun _ _ => trivial⟩
    · simp only [if_true]
      refine ⟨?_, le_not_lt he, self hi, fun _ h => ?_⟩
      · rcases hhi with g | ⟨o, g⟩
        · exact bd_mono g.bd hn
        · have g1 := ng_up (by decide +kernel) g
          have g0 : 0 < woK .f64 hi := by
            unfold ltK at g
            simp only [Bool.and_eq_true, decide_eq_true_eq] at g
            have := g.2
            have c : 0 < woK .f64 4787326403894837248 := by decide +kernel
            omega
          obtain ⟨f, k⟩ := fin_of_le bx.2.1 g1 (ng_up g0 h2) (lt_le h2)
          exact ⟨o, f, Rat.le_trans k bx.2.2⟩
      · rw [eqK_self, nh] at h; cases h
/-- all that the walk asks of the numbers, where the row weighs something -/
structure Sol (R : RD) (a b : SD) : Prop where
  bq : Bd 219 (quF R a b)
  ok : okB R a b = true
  fi : fiB R a b = true
  fq : finK .f64 (quF R a b) = true
  lo : ltK .f64 (quF R a b) R.r9 = false
  hi : ltK .f64 R.r10 (quF R a b) = false
theorem sol_of {R : RD} {a b : SD} (h : UsN R a b) (hw : ltK .f64 0 (wtF R a b) = true) : Sol R a b := by
  have u := us_wW h hw
  obtain ⟨bl, _, bq, _, bp, _, _, _⟩ := qu_bd u
  have bw := (wt_num h.fa h.fm h.fm0).1
  obtain ⟨c1, c2, c3, _⟩ := cl_numW bp (by omega) h.lo h.hi h.ends
  rw [← qu_eqW h] at c1 c2 c3
  have bd := (sub_oB c1 (bd_mono h.fp.bd (show 40 ≤ 219 by omega)) (by omega)).1
  refine ⟨c1, ?_, ?_, c1.2.1, c2, c3⟩
  · unfold okB
    rw [hw, wt_eqW h, bw.2.1, lk_eqW h, bl.2.1]; rfl
  · unfold fiB dfF
    rw [c1.2.1, us_bits h.fp, bd.2.1]; rfl
/-- a word of a still behind the push -/
theorem pu_vv {Ms A V : Nat → Nat} {d i : Nat} (hm : Us (Ms i)) (m0 : 0 ≤ rv (Ms i)) (ha : Us (A i)) (hv : Us (V i)) (hd : Bd 491 d) (hi : i ≠ 2 ∧ i ≠ 5) {x : Nat} (h : isF x (puX (Ms i) (V i) (A i) d)) : x = vvW Ms A V d i := by
  have b := (vv_num hm m0 ha hv hd).1
  refine bd_word ?_ b
  unfold puX at h
  rw [us_bits hm, us_bits ha, us_bits hv] at h
  unfold vvW kkW
  rw [if_neg (show ¬ (i = 2 ∨ i = 5) by omega)]
  exact h
theorem pu_vt {Ms A V : Nat → Nat} {d i : Nat} (hm : Us (Ms i)) (m0 : 0 ≤ rv (Ms i)) (ha : Us (A i)) (hv : Us (V i)) (hd : Bd 491 d) (hi : i = 2 ∨ i = 5) {x : Nat} (h : isF x (puT (Ms i) (V i) (A i) d)) : x = vvW Ms A V d i := by
  have b := (vv_num hm m0 ha hv hd).1
  refine bd_word ?_ b
  unfold puT at h
  rw [us_bits hm, us_bits ha, us_bits hv] at h
  unfold vvW kkW
  rw [if_pos hi]
  exact h
/-- behind the push, where it is at neither end -/
theorem sol_end {R : RD} {a b : SD} (h : UsN R a b) (hw : ltK .f64 0 (wtF R a b) = true) (e1 : eqK .f64 (quF R a b) R.r9 = false) (e2 : eqK .f64 (quF R a b) R.r10 = false) {x y u x2 y2 u2 : Nat}
    (hx : isF x (puX a.sm a.sx R.r2 (dfF R a b))) (hy : isF y (puX a.sm a.sy R.r3 (dfF R a b))) (hu : isF u (puT a.si a.ss R.r6 (dfF R a b))) (hx2 : isF x2 (puX b.sm b.sx R.r4 (dfF R a b))) (hy2 : isF y2 (puX b.sm b.sy R.r5 (dfF R a b))) (hu2 : isF u2 (puT b.si b.ss R.r7 (dfF R a b))) :
    Bd 219 (quF R a b) ∧ (∀ i, i < 6 → Bd 600 (VW ⟨a.sm, a.si, x, y, u⟩ ⟨b.sm, b.si, x2, y2, u2⟩ i)) ∧ leK .f64 (rgK .f64 (oF .sub (spW (AW R) (VW ⟨a.sm, a.si, x, y, u⟩ ⟨b.sm, b.si, x2, y2, u2⟩)) R.r8)) (oF .mul c30 (inW (AW R) (VW a b) (VW ⟨a.sm, a.si, x, y, u⟩ ⟨b.sm, b.si, x2, y2, u2⟩) (MW a b) R.r8 R.r11 (quF R a b))) = true := by
  have w := us_wW h hw
  obtain ⟨_, _, _, _, bp, _, bd, _⟩ := qu_bd w
  have c := (cl_numW bp (by omega) h.lo h.hi h.ends).2.2.2
  rw [← qu_eqW h] at c
  have eq := c e1 e2
  have ed : dfF R a b = dfW (AW R) (VW a b) (MW a b) R.r8 R.r11 := by unfold dfF dfW; rw [eq, us_bits h.fp]
  rw [ed] at hx hy hu hx2 hy2 hu2
  have bd9 := bd_mono bd (show 221 ≤ 491 by omega)
  have k0 := pu_vv (Ms := MW a b) (A := AW R) (V := VW a b) (i := 0) (h.fm 0 (by omega)) (h.fm0 0 (by omega)) (h.fa 0 (by omega)) (h.fv 0 (by omega)) bd9 (by omega) hx
  have k1 := pu_vv (Ms := MW a b) (A := AW R) (V := VW a b) (i := 1) (h.fm 1 (by omega)) (h.fm0 1 (by omega)) (h.fa 1 (by omega)) (h.fv 1 (by omega)) bd9 (by omega) hy
  have k2 := pu_vt (Ms := MW a b) (A := AW R) (V := VW a b) (i := 2) (h.fm 2 (by omega)) (h.fm0 2 (by omega)) (h.fa 2 (by omega)) (h.fv 2 (by omega)) bd9 (.inl rfl) hu
  have k3 := pu_vv (Ms := MW a b) (A := AW R) (V := VW a b) (i := 3) (h.fm 3 (by omega)) (h.fm0 3 (by omega)) (h.fa 3 (by omega)) (h.fv 3 (by omega)) bd9 (by omega) hx2
  have k4 := pu_vv (Ms := MW a b) (A := AW R) (V := VW a b) (i := 4) (h.fm 4 (by omega)) (h.fm0 4 (by omega)) (h.fa 4 (by omega)) (h.fv 4 (by omega)) bd9 (by omega) hy2
  have k5 := pu_vt (Ms := MW a b) (A := AW R) (V := VW a b) (i := 5) (h.fm 5 (by omega)) (h.fm0 5 (by omega)) (h.fa 5 (by omega)) (h.fv 5 (by omega)) bd9 (.inr rfl) hu2
  obtain ⟨s1, s2⟩ := solved_word w
  have at_ : ∀ i, i < 6 → VW ⟨a.sm, a.si, x, y, u⟩ ⟨b.sm, b.si, x2, y2, u2⟩ i = vvW (MW a b) (AW R) (VW a b) (dfW (AW R) (VW a b) (MW a b) R.r8 R.r11) i := fun i hi => by
    rcases (show i = 0 ∨ i = 1 ∨ i = 2 ∨ i = 3 ∨ i = 4 ∨ i = 5 by omega) with rfl | rfl | rfl | rfl | rfl | rfl
    · exact k0
    · exact k1
    · exact k2
    · exact k3
    · exact k4
    · exact k5
  refine ⟨by rw [eq]; exact bp, fun i hi => by rw [at_ i hi]; exact s1 i hi, ?_⟩
  rw [eq]
  unfold spW inW goW at s2 ⊢
  rw [at_ 0 (by omega), at_ 1 (by omega), at_ 2 (by omega), at_ 3 (by omega), at_ 4 (by omega), at_ 5 (by omega)]
  exact s2
/-- a row that weighs nothing -/
theorem wt_zero {R : RD} {a b : SD} (h : UsN R a b) (hw : ltK .f64 0 (wtF R a b) = false) : eqK .f64 (wtF R a b) 0 = true := by
  obtain ⟨bw, w0, w1, w2⟩ := wt_num h.fa h.fm h.fm0
  rw [← wt_eqW h] at bw w2
  have n := fin_nan bw.2.1
  have z : rv 0 = 0 := by decide +kernel
  have nz : nanK .f64 0 = false := by decide +kernel
  have eW := Rat.mul_le_mul_of_nonneg_right ep_20 w0
  have t := ab_two w2
  have p : 0 ≤ rv (wtF R a b) := by grind
  have h2 : ltK .f64 (wtF R a b) 0 = false := by
    cases g : ltK .f64 (wtF R a b) 0
    · rfl
    · have := (lt_rv n nz).1 g
      rw [z] at this
      grind
  unfold ltK at hw h2
  unfold eqK
  rw [n, nz] at hw h2 ⊢
  simp at hw h2 ⊢
  omega
theorem wt_some {R : RD} {a b : SD} (hw : ltK .f64 0 (wtF R a b) = true) : eqK .f64 (wtF R a b) 0 = false := by
  unfold ltK at hw
  unfold eqK
  simp only [Bool.and_eq_true, decide_eq_true_eq] at hw
  simp; omega

end Go.Proofs.Ytfohggiehbplkaa
