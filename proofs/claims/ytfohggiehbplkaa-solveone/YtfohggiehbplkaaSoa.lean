/-
  SolveOne: one row alone, of the model.
-/
import Derived.Test.YtfohggiehbplkaaVec
import Derived.Test.YtfohggiehbplkaaWnv
import Derived.Test.YtfohggiehbplkaaWra
import Derived.Test.YtfohggiehbplkaaXzn
import Derived.Below
import Derived.WalkKit
import Derived.WalkLawsBesides
import Derived.WalkSpells
import Derived.ProofKit
import Derived.OpenShut
import Derived.Deep.RegionHeld3
namespace Go.Proofs.Ytfohggiehbplkaa
open Go.ChangeShapes Go.WideShapes Go.ChangeAt Go.RowKit
set_option linter.unusedVariables false
set_option linter.unusedSimpArgs false

theorem us_rv {n x y : Nat} (h : Us x) (b : Bd n y) (e : rv y = rv x) : Us y := by
  have a : av y = av x := by rw [← ab_rv, ← ab_rv, e]
  exact ⟨b.1, ⟨b.1, b.2.1, by rw [a]; exact h.bd.2.2⟩, by rw [e, a]; exact h.low⟩
/-- a still behind a push of d -/
def pushed (T : RD) (a b : SD) (d : Nat) : SD × SD := (puM a T.r2 T.r3 T.r6 d, puM b T.r4 T.r5 T.r7 d)
theorem pushed_at {T : RD} {a b : SD} {d : Nat} (h : UsN T a b) (hd : Bd 491 d) : ∀ i, i < 6 → VW (pushed T a b d).1 (pushed T a b d).2 i = vvW (MW a b) (AW T) (VW a b) d i := fun i hi => by
  have ha := h.fa i hi
  have hv := h.fv i hi
  have hm := h.fm i hi
  rcases (show i = 0 ∨ i = 1 ∨ i = 2 ∨ i = 3 ∨ i = 4 ∨ i = 5 by omega) with rfl | rfl | rfl | rfl | rfl | rfl
  · have h1 : bitsK T.r2 = T.r2 := us_bits ha
    have h2 : bitsK a.sx = a.sx := us_bits hv
    have h3 : bitsK a.sm = a.sm := us_bits hm
    show puX a.sm a.sx T.r2 d = _
    unfold puX
    rw [h1, h2, h3]
    rfl
  · have h1 : bitsK T.r3 = T.r3 := us_bits ha
    have h2 : bitsK a.sy = a.sy := us_bits hv
    have h3 : bitsK a.sm = a.sm := us_bits hm
    show puX a.sm a.sy T.r3 d = _
    unfold puX
    rw [h1, h2, h3]
    rfl
  · have h1 : bitsK T.r6 = T.r6 := us_bits ha
    have h2 : bitsK a.ss = a.ss := us_bits hv
    have h3 : bitsK a.si = a.si := us_bits hm
    show puT a.si a.ss T.r6 d = _
    unfold puT
    rw [h1, h2, h3]
    rfl
  · have h1 : bitsK T.r4 = T.r4 := us_bits ha
    have h2 : bitsK b.sx = b.sx := us_bits hv
    have h3 : bitsK b.sm = b.sm := us_bits hm
    show puX b.sm b.sx T.r4 d = _
    unfold puX
    rw [h1, h2, h3]
    rfl
  · have h1 : bitsK T.r5 = T.r5 := us_bits ha
    have h2 : bitsK b.sy = b.sy := us_bits hv
    have h3 : bitsK b.sm = b.sm := us_bits hm
    show puX b.sm b.sy T.r5 d = _
    unfold puX
    rw [h1, h2, h3]
    rfl
  · have h1 : bitsK T.r7 = T.r7 := us_bits ha
    have h2 : bitsK b.ss = b.ss := us_bits hv
    have h3 : bitsK b.si = b.si := us_bits hm
    show puT b.si b.ss T.r7 d = _
    unfold puT
    rw [h1, h2, h3]
    rfl
/-- a push of nought turns no number -/
theorem pushed_z {T : RD} {a b : SD} {d : Nat} (h : UsN T a b) (hd : Bd 491 d) (z : rv d = 0) : UsN T (pushed T a b d).1 (pushed T a b d).2 ∧ ∀ i, i < 6 → rv (VW (pushed T a b d).1 (pushed T a b d).2 i) = rv (VW a b i) := by
  have e : ∀ i, i < 6 → rv (VW (pushed T a b d).1 (pushed T a b d).2 i) = rv (VW a b i) := fun i hi => by
    rw [pushed_at h hd i hi]
    exact vv_same h.fm h.fa h.fv hd z i hi
  refine ⟨⟨h.fa, fun i hi => us_rv (h.fv i hi) (n := 600) ?_ (e i hi), h.fm, h.fm0, h.fb, h.fp, h.lo, h.hi, h.ends⟩, e⟩
  rw [pushed_at h hd i hi]
  exact (vv_num (h.fm i hi) (h.fm0 i hi) (h.fa i hi) (h.fv i hi) hd).1
/-- behind one turn of one row alone -/
theorem one_off {T : RD} {a b : SD} {V0 : Nat → Nat} (h : UsN T a b) (e8 : T.r8 = 0) (e9 : T.r9 = 0) (e10 : T.r10 = infW) (e11 : T.r11 = 0) (hw : ltK .f64 0 (wtF T a b) = true) (hv0 : ∀ i, i < 6 → Us (V0 i)) (e0 : ∀ i, i < 6 → rv (V0 i) = rv (VW a b i)) :
    slB T a b = true ∧ Bd 219 (quF T a b) ∧ ltK .f64 (quF T a b) 0 = false ∧ (∀ i, i < 6 → Bd 600 (VW (onX T a b) (onY T a b) i)) ∧
    Bd 700 (oF .mul c30 (oF .add (goW (AW T) V0) (goW (AW T) (VW (onX T a b) (onY T a b))))) ∧
    leK .f64 (offF (onQ T a b) (onX T a b) (onY T a b)) (oF .mul c30 (oF .add (goW (AW T) V0) (goW (AW T) (VW (onX T a b) (onY T a b))))) = true ∧
    leK .f64 0 (oF .mul c30 (oF .add (goW (AW T) V0) (goW (AW T) (VW (onX T a b) (onY T a b))))) = true := by
  have S := sol_of h hw
  have u := us_wW h hw
  rw [e8, e11] at u
  have sl : slB T a b = true := by unfold slB; rw [S.ok, S.fi]; rfl
  have eq : quF T a b = onW (AW T) (VW a b) (MW a b) := by rw [qu_eqW h, e8, e9, e10, e11]; rfl
  obtain ⟨bo, no, bd9⟩ := on_bd u
  have z0 : bitsK 0 = 0 := us_bits zero_us
  have ed : dfF T a b = oF .sub (onW (AW T) (VW a b) (MW a b)) 0 := by unfold dfF; rw [eq, e11, z0]
  have eX : onX T a b = (pushed T a b (dfF T a b)).1 := by unfold onX; rw [sl]; rfl
  have eY : onY T a b = (pushed T a b (dfF T a b)).2 := by unfold onY; rw [sl]; rfl
  rw [ed] at eX eY
  obtain ⟨s1, s2, s3⟩ := one_word u hv0 e0
  have at_ := pushed_at h bd9
  rw [← eX, ← eY] at at_
  have hV : ∀ i, i < 6 → Bd 600 (VW (onX T a b) (onY T a b) i) := fun i hi => by rw [at_ i hi]; exact s1 i hi
  have hA := fun i hi => (h.fa i hi).bd
  have hA6 := fun i hi => bd_mono (h.fa i hi).bd (show 40 ≤ 600 by omega)
  have eg : goW (AW T) (VW (onX T a b) (onY T a b)) = goW (AW T) (vvW (MW a b) (AW T) (VW a b) (oF .sub (onW (AW T) (VW a b) (MW a b)) 0)) := by
    unfold goW
    rw [at_ 0 (by omega), at_ 1 (by omega), at_ 2 (by omega), at_ 3 (by omega), at_ 4 (by omega), at_ 5 (by omega)]
  have es : spF T (onX T a b) (onY T a b) = spW (AW T) (vvW (MW a b) (AW T) (VW a b) (oF .sub (onW (AW T) (VW a b) (MW a b)) 0)) := by
    rw [sp_eqW hA6 hV]
    unfold spW
    rw [at_ 0 (by omega), at_ 1 (by omega), at_ 2 (by omega), at_ 3 (by omega), at_ 4 (by omega), at_ 5 (by omega)]
  obtain ⟨bT, _, _⟩ := mad_bd h.fa (fun i hi => bd_mono (hv0 i hi).bd (show 40 ≤ 600 by omega)) hV
  have bR := (mul_o c30_bd bT (by omega)).1
  refine ⟨sl, by rw [eq]; exact bo, by rw [eq]; exact no, hV, bd_mono bR (show 40 + 653 + 1 ≤ 700 by decide), ?_, by rw [eg]; exact s3⟩
  have eQ : onQ T a b = { T with r11 := quF T a b } := by unfold onQ; rw [sl]; rfl
  have bs := (sp_bd hA hV).1
  have bD := (sub_oB (bd_mono zero_us.bd (show 40 ≤ 651 by omega)) bs (by omega)).1
  have e1 : wtF (onQ T a b) (onX T a b) (onY T a b) = wtF T a b := by rw [eQ, eX, eY]; rfl
  have e2 : lkF (onQ T a b) (onX T a b) (onY T a b) = oF .sub 0 (spW (AW T) (vvW (MW a b) (AW T) (VW a b) (oF .sub (onW (AW T) (VW a b) (MW a b)) 0))) := by
    rw [← es, eQ]
    unfold lkF
    simp only
    rw [e8, z0]
    rfl
  unfold offF
  rw [e1, e2, hw, eg]
  simp only [Bool.not_true, Bool.false_or]
  cases g : ((ltK .f64 (oF .sub 0 (spW (AW T) (vvW (MW a b) (AW T) (VW a b) (oF .sub (onW (AW T) (VW a b) (MW a b)) 0)))) 0 && leK .f64 (onQ T a b).r11 (onQ T a b).r9) || (ltK .f64 0 (oF .sub 0 (spW (AW T) (vvW (MW a b) (AW T) (VW a b) (oF .sub (onW (AW T) (VW a b) (MW a b)) 0)))) && leK .f64 (onQ T a b).r10 (onQ T a b).r11))
  · rcases s2 with ⟨k1, k2⟩ | k
    · exfalso
      rw [eQ] at g
      simp only at g
      rw [k1, e9, eq, k2] at g
      cases g
    · rw [sp_eqW hA6 hV] at es
      rw [es] at bD
      rw [cond_false, bd_bit (rgb bD).1]
      exact k
  · exact s3

end Go.Proofs.Ytfohggiehbplkaa
