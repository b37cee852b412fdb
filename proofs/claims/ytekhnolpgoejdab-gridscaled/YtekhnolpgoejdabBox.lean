/-
  Plain facts on floats, more: rounding to the nearest rung, sums and products of finite floats, signs turned. No program is named here.
-/
import Derived.Test.YtekhnolpgoejdabRnd
namespace Go.Proofs.Ytekhnolpgoejdab
open Ieee Go.RowKit
set_option linter.unusedSimpArgs false

/-! ### Boxes: four floats, what is told by comparing them -/
def bFin (a b c d : Nat) : Bool := finK .f64 a && finK .f64 b && finK .f64 c && finK .f64 d
/-- a box that may be -/
def bChk (lx ly hx hy : Nat) : Bool := bFin lx ly hx hy && !ltK .f64 hx lx && !ltK .f64 hy ly
def bOver (alx aly ahx ahy blx bly bhx bhy : Nat) : Bool := leK .f64 alx bhx && leK .f64 blx ahx && leK .f64 aly bhy && leK .f64 bly ahy
def bIn (alx aly ahx ahy blx bly bhx bhy : Nat) : Bool := leK .f64 blx alx && leK .f64 ahx bhx && leK .f64 bly aly && leK .f64 ahy bhy
def bHas (lx ly hx hy x y : Nat) : Bool := leK .f64 lx x && leK .f64 x hx && leK .f64 ly y && leK .f64 y hy
theorem le_fin {x y : Nat} (nx : nanK .f64 x = false) (ny : nanK .f64 y = false) : leK .f64 x y = decide (woK .f64 x ≤ woK .f64 y) := by unfold leK; rw [nx, ny]; rfl
theorem lt_fin {x y : Nat} (nx : nanK .f64 x = false) (ny : nanK .f64 y = false) : ltK .f64 x y = decide (woK .f64 x < woK .f64 y) := by unfold ltK; rw [nx, ny]; rfl
theorem eq_fin {x y : Nat} (nx : nanK .f64 x = false) (ny : nanK .f64 y = false) : eqK .f64 x y = decide (woK .f64 x = woK .f64 y) := by unfold eqK; rw [nx, ny]; rfl
theorem least_cases (a b : Nat) : leastK .f64 a b = a ∨ leastK .f64 a b = b := by unfold leastK; split <;> simp
theorem most_cases (a b : Nat) : mostK .f64 a b = a ∨ mostK .f64 a b = b := by unfold mostK; split <;> simp
theorem least_wo {a b : Nat} (na : nanK .f64 a = false) (nb : nanK .f64 b = false) : woK .f64 (leastK .f64 a b) ≤ woK .f64 a ∧ woK .f64 (leastK .f64 a b) ≤ woK .f64 b := by
  unfold leastK
  rw [na, lt_fin nb na]
  by_cases h : woK .f64 b < woK .f64 a
  · simp [h]; omega
  · by_cases g : (mzK .f64 b && decide (rgK .f64 a = 0)) = true
    · simp [g]
      have e := Bool.and_eq_true_iff.1 g
      have z1 := (wo_zero .f64 a).2 (of_decide_eq_true e.2)
      have z2 : woK .f64 b = 0 := (wo_zero .f64 b).2 (by have := e.1; unfold mzK at this; exact of_decide_eq_true (Bool.and_eq_true_iff.1 this).1)
      omega
    · simp [h, g]; omega
theorem most_wo {a b : Nat} (na : nanK .f64 a = false) (nb : nanK .f64 b = false) : woK .f64 a ≤ woK .f64 (mostK .f64 a b) ∧ woK .f64 b ≤ woK .f64 (mostK .f64 a b) := by
  unfold mostK
  rw [na, lt_fin na nb]
  by_cases h : woK .f64 a < woK .f64 b
  · simp [h]; omega
  · by_cases g : (mzK .f64 a && decide (rgK .f64 b = 0)) = true
    · simp [g]
      have e := Bool.and_eq_true_iff.1 g
      have z1 := (wo_zero .f64 b).2 (of_decide_eq_true e.2)
      have z2 : woK .f64 a = 0 := (wo_zero .f64 a).2 (by have := e.1; unfold mzK at this; exact of_decide_eq_true (Bool.and_eq_true_iff.1 this).1)
      omega
    · simp [h, g]; omega
theorem least_comm {a b : Nat} (oa : okK .f64 a) (ob : okK .f64 b) (na : nanK .f64 a = false) (nb : nanK .f64 b = false) : leastK .f64 a b = leastK .f64 b a := by
  rcases Int.le_total (plK a) (plK b) with h | h
  · have := least_le a b oa ob na nb h; rw [this.1, this.2.1]
  · have := least_le b a ob oa nb na h; rw [this.1, this.2.1]
theorem most_comm {a b : Nat} (oa : okK .f64 a) (ob : okK .f64 b) (na : nanK .f64 a = false) (nb : nanK .f64 b = false) : mostK .f64 a b = mostK .f64 b a := by
  rcases Int.le_total (plK a) (plK b) with h | h
  · have := least_le a b oa ob na nb h; rw [this.2.2.1, this.2.2.2]
  · have := least_le b a ob oa nb na h; rw [this.2.2.1, this.2.2.2]
/-- what a box that may be gives: its floats are numbers in their order -/
structure Bx (lx ly hx hy : Nat) : Prop where
  n1 : nanK .f64 lx = false
  n2 : nanK .f64 ly = false
  n3 : nanK .f64 hx = false
  n4 : nanK .f64 hy = false
  f1 : finK .f64 lx = true
  f2 : finK .f64 ly = true
  f3 : finK .f64 hx = true
  f4 : finK .f64 hy = true
  x : woK .f64 lx ≤ woK .f64 hx
  y : woK .f64 ly ≤ woK .f64 hy
theorem bx_of {lx ly hx hy : Nat} (h : bChk lx ly hx hy = true) : Bx lx ly hx hy := by
  unfold bChk bFin at h
  simp only [Bool.and_eq_true, Bool.not_eq_true'] at h
  obtain ⟨⟨⟨⟨⟨f1, f2⟩, f3⟩, f4⟩, h1⟩, h2⟩ := h
  have n1 := fin_num f1
  have n2 := fin_num f2
  have n3 := fin_num f3
  have n4 := fin_num f4
  rw [lt_fin n3 n1] at h1
  rw [lt_fin n4 n2] at h2
  exact ⟨n1, n2, n3, n4, f1, f2, f3, f4, by simpa using h1, by simpa using h2⟩
theorem bx_to {lx ly hx hy : Nat} (f1 : finK .f64 lx = true) (f2 : finK .f64 ly = true) (f3 : finK .f64 hx = true) (f4 : finK .f64 hy = true) (x : woK .f64 lx ≤ woK .f64 hx) (y : woK .f64 ly ≤ woK .f64 hy) : bChk lx ly hx hy = true := by
  unfold bChk bFin
  rw [f1, f2, f3, f4, lt_fin (fin_num f3) (fin_num f1), lt_fin (fin_num f4) (fin_num f2)]
  simp
  omega
theorem fin_least {a b : Nat} (ha : finK .f64 a = true) (hb : finK .f64 b = true) : finK .f64 (leastK .f64 a b) = true := by rcases least_cases a b with e | e <;> rw [e] <;> assumption
theorem fin_most {a b : Nat} (ha : finK .f64 a = true) (hb : finK .f64 b = true) : finK .f64 (mostK .f64 a b) = true := by rcases most_cases a b with e | e <;> rw [e] <;> assumption
/-- of two boxes that may be: all that P5.8 says -/
structure Sets (alx aly ahx ahy blx bly bhx bhy : Nat) : Prop where
  j1 : leastK .f64 alx blx = leastK .f64 blx alx
  j2 : leastK .f64 aly bly = leastK .f64 bly aly
  j3 : mostK .f64 ahx bhx = mostK .f64 bhx ahx
  j4 : mostK .f64 ahy bhy = mostK .f64 bhy ahy
  m1 : mostK .f64 alx blx = mostK .f64 blx alx
  m2 : mostK .f64 aly bly = mostK .f64 bly aly
  m3 : leastK .f64 ahx bhx = leastK .f64 bhx ahx
  m4 : leastK .f64 ahy bhy = leastK .f64 bhy ahy
  over : bOver alx aly ahx ahy blx bly bhx bhy = bOver blx bly bhx bhy alx aly ahx ahy
  chkj : bChk (leastK .f64 alx blx) (leastK .f64 aly bly) (mostK .f64 ahx bhx) (mostK .f64 ahy bhy) = true
  inaj : bIn alx aly ahx ahy (leastK .f64 alx blx) (leastK .f64 aly bly) (mostK .f64 ahx bhx) (mostK .f64 ahy bhy) = true
  inbj : bIn blx bly bhx bhy (leastK .f64 alx blx) (leastK .f64 aly bly) (mostK .f64 ahx bhx) (mostK .f64 ahy bhy) = true
  inaa : bIn alx aly ahx ahy alx aly ahx ahy = true
  chkm : bOver alx aly ahx ahy blx bly bhx bhy = true → bChk (mostK .f64 alx blx) (mostK .f64 aly bly) (leastK .f64 ahx bhx) (leastK .f64 ahy bhy) = true
  inma : bOver alx aly ahx ahy blx bly bhx bhy = true → bIn (mostK .f64 alx blx) (mostK .f64 aly bly) (leastK .f64 ahx bhx) (leastK .f64 ahy bhy) alx aly ahx ahy = true
  inmb : bOver alx aly ahx ahy blx bly bhx bhy = true → bIn (mostK .f64 alx blx) (mostK .f64 aly bly) (leastK .f64 ahx bhx) (leastK .f64 ahy bhy) blx bly bhx bhy = true
  h1 : bOver alx aly ahx ahy blx bly bhx bhy = true → bHas alx aly ahx ahy (mostK .f64 alx blx) (mostK .f64 aly bly) = true
  h2 : bOver alx aly ahx ahy blx bly bhx bhy = true → bHas blx bly bhx bhy (mostK .f64 alx blx) (mostK .f64 aly bly) = true
  h3 : bOver alx aly ahx ahy blx bly bhx bhy = true → bHas alx aly ahx ahy (leastK .f64 ahx bhx) (leastK .f64 ahy bhy) = true
  h4 : bOver alx aly ahx ahy blx bly bhx bhy = true → bHas blx bly bhx bhy (leastK .f64 ahx bhx) (leastK .f64 ahy bhy) = true
  has : ∀ x y, (bHas alx aly ahx ahy x y && bHas blx bly bhx bhy x y) = (bOver alx aly ahx ahy blx bly bhx bhy && bHas (mostK .f64 alx blx) (mostK .f64 aly bly) (leastK .f64 ahx bhx) (leastK .f64 ahy bhy) x y)
  hasj : ∀ x y, (bHas alx aly ahx ahy x y || bHas blx bly bhx bhy x y) = true → bHas (leastK .f64 alx blx) (leastK .f64 aly bly) (mostK .f64 ahx bhx) (mostK .f64 ahy bhy) x y = true
  isin : (bHas blx bly bhx bhy alx aly && bHas blx bly bhx bhy ahx ahy) = bIn alx aly ahx ahy blx bly bhx bhy
  corner : (bHas blx bly bhx bhy alx aly && bHas blx bly bhx bhy ahx ahy) = true → bHas blx bly bhx bhy alx ahy = true
  endx : (eqK .f64 (leastK .f64 alx blx) alx || eqK .f64 (leastK .f64 alx blx) blx) = true
  endy : (eqK .f64 (mostK .f64 ahy bhy) ahy || eqK .f64 (mostK .f64 ahy bhy) bhy) = true
theorem le_any {x y : Nat} (nx : nanK .f64 x = false) : leK .f64 x y = (!nanK .f64 y && decide (woK .f64 x ≤ woK .f64 y)) := by unfold leK; rw [nx]; rfl
theorem le_any' {x y : Nat} (ny : nanK .f64 y = false) : leK .f64 x y = (!nanK .f64 x && decide (woK .f64 x ≤ woK .f64 y)) := by unfold leK; rw [ny]; simp
theorem sets_of {alx aly ahx ahy blx bly bhx bhy : Nat} (o1 : okK .f64 alx) (o2 : okK .f64 aly) (o3 : okK .f64 ahx) (o4 : okK .f64 ahy) (p1 : okK .f64 blx) (p2 : okK .f64 bly) (p3 : okK .f64 bhx) (p4 : okK .f64 bhy)
    (ha : bChk alx aly ahx ahy = true) (hb : bChk blx bly bhx bhy = true) : Sets alx aly ahx ahy blx bly bhx bhy := by
  obtain ⟨an1, an2, an3, an4, af1, af2, af3, af4, ax, ay⟩ := bx_of ha
  obtain ⟨bn1, bn2, bn3, bn4, bf1, bf2, bf3, bf4, bx, b_y⟩ := bx_of hb
  have c1 := least_comm o1 p1 an1 bn1
  have c2 := least_comm o2 p2 an2 bn2
  have c3 := most_comm o3 p3 an3 bn3
  have c4 := most_comm o4 p4 an4 bn4
  have d1 := most_comm o1 p1 an1 bn1
  have d2 := most_comm o2 p2 an2 bn2
  have d3 := least_comm o3 p3 an3 bn3
  have d4 := least_comm o4 p4 an4 bn4
  have e1 := least_wo an1 bn1
  have e2 := least_wo an2 bn2
  have e3 := most_wo an3 bn3
  have e4 := most_wo an4 bn4
  have g1 := most_wo an1 bn1
  have g2 := most_wo an2 bn2
  have g3 := least_wo an3 bn3
  have g4 := least_wo an4 bn4
  have k1 := least_cases alx blx
  have k2 := least_cases aly bly
  have k3 := most_cases ahx bhx
  have k4 := most_cases ahy bhy
  have l1 := most_cases alx blx
  have l2 := most_cases aly bly
  have l3 := least_cases ahx bhx
  have l4 := least_cases ahy bhy
  have q1 := fin_least af1 bf1
  have q2 := fin_least af2 bf2
  have q3 := fin_most af3 bf3
  have q4 := fin_most af4 bf4
  have r1 := fin_most af1 bf1
  have r2 := fin_most af2 bf2
  have r3 := fin_least af3 bf3
  have r4 := fin_least af4 bf4
  have k1' : woK .f64 (leastK .f64 alx blx) = woK .f64 alx ∨ woK .f64 (leastK .f64 alx blx) = woK .f64 blx := by rcases k1 with e | e <;> rw [e] <;> simp
  have k4' : woK .f64 (mostK .f64 ahy bhy) = woK .f64 ahy ∨ woK .f64 (mostK .f64 ahy bhy) = woK .f64 bhy := by rcases k4 with e | e <;> rw [e] <;> simp
  have l1' : woK .f64 (mostK .f64 alx blx) = woK .f64 alx ∨ woK .f64 (mostK .f64 alx blx) = woK .f64 blx := by rcases l1 with e | e <;> rw [e] <;> simp
  have l2' : woK .f64 (mostK .f64 aly bly) = woK .f64 aly ∨ woK .f64 (mostK .f64 aly bly) = woK .f64 bly := by rcases l2 with e | e <;> rw [e] <;> simp
  have l3' : woK .f64 (leastK .f64 ahx bhx) = woK .f64 ahx ∨ woK .f64 (leastK .f64 ahx bhx) = woK .f64 bhx := by rcases l3 with e | e <;> rw [e] <;> simp
  have l4' : woK .f64 (leastK .f64 ahy bhy) = woK .f64 ahy ∨ woK .f64 (leastK .f64 ahy bhy) = woK .f64 bhy := by rcases l4 with e | e <;> rw [e] <;> simp
  clear k1 k2 k3 k4 l1 l2 l3 l4
  have nq1 := fin_num q1
  have nq2 := fin_num q2
  have nq3 := fin_num q3
  have nq4 := fin_num q4
  have nr1 := fin_num r1
  have nr2 := fin_num r2
  have nr3 := fin_num r3
  have nr4 := fin_num r4
  have J : bChk (leastK .f64 alx blx) (leastK .f64 aly bly) (mostK .f64 ahx bhx) (mostK .f64 ahy bhy) = true := bx_to q1 q2 q3 q4 (by omega) (by omega)
  have O : bOver alx aly ahx ahy blx bly bhx bhy = true → woK .f64 (mostK .f64 alx blx) ≤ woK .f64 (leastK .f64 ahx bhx) ∧ woK .f64 (mostK .f64 aly bly) ≤ woK .f64 (leastK .f64 ahy bhy) := by
    unfold bOver
    rw [le_fin an1 bn3, le_fin bn1 an3, le_fin an2 bn4, le_fin bn2 an4]
    simp only [Bool.and_eq_true, decide_eq_true_eq]
    omega
  refine ⟨c1, c2, c3, c4, d1, d2, d3, d4, ?_, J, ?_, ?_, ?_, fun o => bx_to r1 r2 r3 r4 (O o).1 (O o).2, fun o => ?_, fun o => ?_, fun o => ?_, fun o => ?_, fun o => ?_, fun o => ?_, fun x y => ?_, fun x y => ?_, ?_, ?_, ?_, ?_⟩
  · unfold bOver; simp only [le_fin, an1, an2, an3, an4, bn1, bn2, bn3, bn4, nq1, nq2, nq3, nq4]; rw [Bool.eq_iff_iff]; simp only [Bool.and_eq_true, decide_eq_true_eq]; omega
  · unfold bIn; simp only [le_fin, an1, an2, an3, an4, bn1, bn2, bn3, bn4, nq1, nq2, nq3, nq4]; simp only [Bool.and_eq_true, decide_eq_true_eq]; omega
  · unfold bIn; simp only [le_fin, an1, an2, an3, an4, bn1, bn2, bn3, bn4, nq1, nq2, nq3, nq4]; simp only [Bool.and_eq_true, decide_eq_true_eq]; omega
  · unfold bIn; simp only [le_fin, an1, an2, an3, an4, bn1, bn2, bn3, bn4, nq1, nq2, nq3, nq4]; simp
  · have := O o; unfold bIn; simp only [le_fin, an1, an2, an3, an4, nr1, nr2, nr3, nr4]; simp only [Bool.and_eq_true, decide_eq_true_eq]; omega
  · have := O o; unfold bIn; simp only [le_fin, bn1, bn2, bn3, bn4, nr1, nr2, nr3, nr4]; simp only [Bool.and_eq_true, decide_eq_true_eq]; omega
  · have := O o; unfold bHas; simp only [le_fin, an1, an2, an3, an4, nr1, nr2, nr3, nr4]; simp only [Bool.and_eq_true, decide_eq_true_eq]; omega
  · have := O o; unfold bHas; simp only [le_fin, bn1, bn2, bn3, bn4, nr1, nr2, nr3, nr4]; simp only [Bool.and_eq_true, decide_eq_true_eq]; omega
  · have := O o; unfold bHas; simp only [le_fin, an1, an2, an3, an4, nr1, nr2, nr3, nr4]; simp only [Bool.and_eq_true, decide_eq_true_eq]; omega
  · have := O o; unfold bHas; simp only [le_fin, bn1, bn2, bn3, bn4, nr1, nr2, nr3, nr4]; simp only [Bool.and_eq_true, decide_eq_true_eq]; omega
  · unfold bHas bOver
    simp only [le_fin, an1, an2, an3, an4, bn1, bn2, bn3, bn4]
    simp only [le_any an1, le_any an2, le_any bn1, le_any bn2, le_any nr1, le_any nr2, le_any' an3, le_any' an4, le_any' bn3, le_any' bn4, le_any' nr3, le_any' nr4]
    rw [Bool.eq_iff_iff]
    cases hx : nanK .f64 x <;> cases hy : nanK .f64 y <;> simp only [Bool.and_eq_true, decide_eq_true_eq, Bool.not_true, Bool.not_false, Bool.false_and, Bool.true_and, Bool.false_eq_true, false_and, and_false, true_and] <;> omega
  · unfold bHas
    simp only [le_any an1, le_any an2, le_any bn1, le_any bn2, le_any nq1, le_any nq2, le_any' an3, le_any' an4, le_any' bn3, le_any' bn4, le_any' nq3, le_any' nq4]
    cases hx : nanK .f64 x <;> cases hy : nanK .f64 y <;> simp only [Bool.or_eq_true, Bool.and_eq_true, decide_eq_true_eq, Bool.not_true, Bool.not_false, Bool.false_and, Bool.true_and, Bool.false_eq_true, false_and, and_false, true_and, or_self, false_implies] <;> omega
  · unfold bHas bIn; simp only [le_fin, an1, an2, an3, an4, bn1, bn2, bn3, bn4]; rw [Bool.eq_iff_iff]; simp only [Bool.and_eq_true, decide_eq_true_eq]; omega
  · unfold bHas; simp only [le_fin, an1, an2, an3, an4, bn1, bn2, bn3, bn4]; simp only [Bool.and_eq_true, decide_eq_true_eq]; omega
  · simp only [eq_fin nq1 an1, eq_fin nq1 bn1, Bool.or_eq_true, decide_eq_true_eq]; omega
  · simp only [eq_fin nq4 an4, eq_fin nq4 bn4, Bool.or_eq_true, decide_eq_true_eq]; omega
end Go.Proofs.Ytekhnolpgoejdab
namespace Go.Proofs.Ytekhnolpgoejdab
open Ieee Go.RowKit
set_option linter.unusedSimpArgs false

/-! ### Boxes: what is reckoned of them -/
theorem sm_split {a b : Nat} (h : smK .f64 a b = true) : a = b ∨ (nanK .f64 a = true ∧ nanK .f64 b = true) := by
  unfold smK at h
  cases na : nanK .f64 a <;> cases nb : nanK .f64 b <;> simp [na, nb] at h
  · exact .inl h
  · exact .inr ⟨rfl, rfl⟩
theorem sm_nan {a b : Nat} (h : smK .f64 a b = true) : nanK .f64 a = nanK .f64 b := by
  rcases sm_split h with rfl | ⟨h1, h2⟩
  · rfl
  · rw [h1, h2]
theorem sm_bits5 (a b : Nat) : smK .f64 a b = (decide (a = b) || (nanK .f64 a && nanK .f64 b)) := by
  unfold smK
  by_cases h : a = b
  · subst h; cases nanK .f64 a <;> simp
  · cases nanK .f64 a <;> cases nanK .f64 b <;> simp [h]
theorem bOver_eq (alx aly ahx ahy blx bly bhx bhy : Nat) : ((leK .f64 alx bhx && leK .f64 aly bhy) && (leK .f64 blx ahx && leK .f64 bly ahy)) = bOver alx aly ahx ahy blx bly bhx bhy := by
  unfold bOver
  cases leK .f64 alx bhx <;> cases leK .f64 aly bhy <;> cases leK .f64 blx ahx <;> cases leK .f64 bly ahy <;> rfl
theorem bIn_eq (alx aly ahx ahy blx bly bhx bhy : Nat) : ((leK .f64 blx alx && leK .f64 bly aly) && (leK .f64 ahx bhx && leK .f64 ahy bhy)) = bIn alx aly ahx ahy blx bly bhx bhy := by
  unfold bIn
  cases leK .f64 blx alx <;> cases leK .f64 bly aly <;> cases leK .f64 ahx bhx <;> cases leK .f64 ahy bhy <;> rfl
theorem bHas_eq (lx ly hx hy x y : Nat) : ((leK .f64 lx x && leK .f64 ly y) && (leK .f64 x hx && leK .f64 y hy)) = bHas lx ly hx hy x y := by
  unfold bHas
  cases leK .f64 lx x <;> cases leK .f64 ly y <;> cases leK .f64 x hx <;> cases leK .f64 y hy <;> rfl
def chkN (b : Bool) : Int := if b then 0 else 50
theorem bChk_eq (lx ly hx hy : Nat) : ((finK .f64 lx && finK .f64 ly) && (finK .f64 hx && finK .f64 hy) && (leK .f64 lx hx && leK .f64 ly hy)) = bChk lx ly hx hy := by
  unfold bChk bFin
  cases f1 : finK .f64 lx <;> cases f2 : finK .f64 ly <;> cases f3 : finK .f64 hx <;> cases f4 : finK .f64 hy <;> simp
  rw [le_fin (fin_num f1) (fin_num f3), le_fin (fin_num f2) (fin_num f4), lt_fin (fin_num f3) (fin_num f1), lt_fin (fin_num f4) (fin_num f2)]
  rw [Bool.eq_iff_iff]
  simp
theorem bChk_eq2 (lx ly hx hy : Nat) : (!(finK .f64 lx && finK .f64 ly) || !(finK .f64 hx && finK .f64 hy) || ltK .f64 hx lx || ltK .f64 hy ly) = !bChk lx ly hx hy := by
  unfold bChk bFin
  cases f1 : finK .f64 lx <;> cases f2 : finK .f64 ly <;> cases f3 : finK .f64 hx <;> cases f4 : finK .f64 hy <;> simp
/-- a box with so much more on all sides -/
def GrowR (lx ly hx hy m a b c d : Nat) : Prop := SubR lx ly m m a b ∧ AddR hx hy m m c d
theorem GrowR.sm {lx ly hx hy m a b c d a' b' c' d' : Nat} (h : GrowR lx ly hx hy m a b c d) (g : GrowR lx ly hx hy m a' b' c' d') : smK .f64 a a' = true ∧ smK .f64 b b' = true ∧ smK .f64 c c' = true ∧ smK .f64 d d' = true :=
  ⟨(h.1.sm g.1).1, (h.1.sm g.1).2, (h.2.sm g.2).1, (h.2.sm g.2).2⟩
/-- one part of a way put to the end to which it leads -/
def StR (low high way l h : Nat) : Prop := if ltK .f64 way 0 then resK .add .f64 low way l ∧ h = high else l = low ∧ resK .add .f64 high way h
theorem StR.sm {low high way l h l' h' : Nat} (p : StR low high way l h) (q : StR low high way l' h') : smK .f64 l l' = true ∧ smK .f64 h h' = true := by
  unfold StR at p q
  cases e : ltK .f64 way 0 <;> rw [e] at p q <;> simp at p q
  · rw [p.1, q.1]; exact ⟨smK_self _ _, res_congr (smK_self _ _) (smK_self _ _) p.2 q.2⟩
  · rw [p.2, q.2]; exact ⟨res_congr (smK_self _ _) (smK_self _ _) p.1 q.1, smK_self _ _⟩
def MovR (lx ly hx hy wx wy a b c d : Nat) : Prop := StR lx hx wx a c ∧ StR ly hy wy b d
theorem MovR.sm {lx ly hx hy wx wy a b c d a' b' c' d' : Nat} (h : MovR lx ly hx hy wx wy a b c d) (g : MovR lx ly hx hy wx wy a' b' c' d') : smK .f64 a a' = true ∧ smK .f64 b b' = true ∧ smK .f64 c c' = true ∧ smK .f64 d d' = true :=
  ⟨(h.1.sm g.1).1, (h.2.sm g.2).1, (h.1.sm g.1).2, (h.2.sm g.2).2⟩
def SizeR (lx ly hx hy r : Nat) : Prop := ∃ p q, SubR hx hy lx ly p q ∧ resK .add .f64 p q r
def AreaR (lx ly hx hy r : Nat) : Prop := ∃ p q, SubR hx hy lx ly p q ∧ resK .mul .f64 p q r
theorem SizeR.sm {lx ly hx hy r r' : Nat} (h : SizeR lx ly hx hy r) (g : SizeR lx ly hx hy r') : smK .f64 r r' = true := by
  obtain ⟨p, q, h1, h2⟩ := h
  obtain ⟨p', q', g1, g2⟩ := g
  exact res_congr (h1.sm g1).1 (h1.sm g1).2 h2 g2
theorem AreaR.sm {lx ly hx hy r r' : Nat} (h : AreaR lx ly hx hy r) (g : AreaR lx ly hx hy r') : smK .f64 r r' = true := by
  obtain ⟨p, q, h1, h2⟩ := h
  obtain ⟨p', q', g1, g2⟩ := g
  exact res_congr (h1.sm g1).1 (h1.sm g1).2 h2 g2
/-- what is left of s to t along one axis, p and q being in their order -/
def cutS (s p : Nat) : Nat := if ltK .f64 s p then p else s
def cutT (t q : Nat) : Nat := if ltK .f64 q t then q else t
/-- one axis of a ray -/
def AxR (low high frm way s t s' t' : Nat) (ok : Bool) : Prop :=
  if sgK .f64 way = 0 then s' = s ∧ t' = t ∧ ok = (leK .f64 low frm && leK .f64 frm high)
  else ∃ d1 p d2 q, resK .sub .f64 low frm d1 ∧ resK .quo .f64 d1 way p ∧ resK .sub .f64 high frm d2 ∧ resK .quo .f64 d2 way q ∧
    (if nanK .f64 p || nanK .f64 q then ok = false
     else if ltK .f64 q p then s' = cutS s q ∧ t' = cutT t p ∧ ok = leK .f64 s' t' else s' = cutS s p ∧ t' = cutT t q ∧ ok = leK .f64 s' t')
theorem AxR.same {low high frm way s t s1 t1 s2 t2 : Nat} {b c : Bool} (h : AxR low high frm way s t s1 t1 b) (g : AxR low high frm way s t s2 t2 c) : b = c ∧ (b = true → s1 = s2 ∧ t1 = t2) := by
  unfold AxR at h g
  by_cases e : sgK .f64 way = 0
  · rw [if_pos e] at h g
    obtain ⟨rfl, rfl, rfl⟩ := h
    obtain ⟨rfl, rfl, rfl⟩ := g
    exact ⟨rfl, fun _ => ⟨rfl, rfl⟩⟩
  · rw [if_neg e] at h g
    obtain ⟨d1, p, d2, q, h1, h2, h3, h4, h5⟩ := h
    obtain ⟨d1', p', d2', q', g1, g2, g3, g4, g5⟩ := g
    have sp := res_congr (res_congr (smK_self _ _) (smK_self _ _) h1 g1) (smK_self _ _) h2 g2
    have sq := res_congr (res_congr (smK_self _ _) (smK_self _ _) h3 g3) (smK_self _ _) h4 g4
    rw [← sm_nan sp, ← sm_nan sq] at g5
    cases np : nanK .f64 p <;> cases nq : nanK .f64 q <;> simp [np, nq] at h5 g5
    · rcases sm_split sp with rfl | ⟨x, _⟩
      · rcases sm_split sq with rfl | ⟨x, _⟩
        · cases l : ltK .f64 q p <;> simp [l] at h5 g5
          · obtain ⟨rfl, rfl, rfl⟩ := h5
            obtain ⟨rfl, rfl, rfl⟩ := g5
            exact ⟨rfl, fun _ => ⟨rfl, rfl⟩⟩
          · obtain ⟨rfl, rfl, rfl⟩ := h5
            obtain ⟨rfl, rfl, rfl⟩ := g5
            exact ⟨rfl, fun _ => ⟨rfl, rfl⟩⟩
        · rw [nq] at x; cases x
      · rw [np] at x; cases x
    all_goals
      rw [h5, g5]
      exact ⟨rfl, fun h => by cases h⟩
/-- where a way enters a box -/
def RayR (lx ly hx hy fx fy wx wy r : Nat) (ok : Bool) : Prop :=
  ∃ s1 t1 b1, AxR lx hx fx wx 0 4607182418800017408 s1 t1 b1 ∧
    (if b1 then ∃ s2 t2 b2, AxR ly hy fy wy s1 t1 s2 t2 b2 ∧ ok = b2 ∧ r = (if b2 then s2 else 0) else ok = false ∧ r = 0)
theorem RayR.same {lx ly hx hy fx fy wx wy r r' : Nat} {b c : Bool} (h : RayR lx ly hx hy fx fy wx wy r b) (g : RayR lx ly hx hy fx fy wx wy r' c) : b = c ∧ r = r' := by
  obtain ⟨s1, t1, b1, h1, h2⟩ := h
  obtain ⟨s1', t1', b1', g1, g2⟩ := g
  obtain ⟨rfl, e⟩ := h1.same g1
  cases b1
  · simp at h2 g2
    rw [h2.1, g2.1, h2.2, g2.2]
    exact ⟨rfl, rfl⟩
  · rw [if_pos rfl] at h2 g2
    obtain ⟨rfl, rfl⟩ := e rfl
    obtain ⟨s2, t2, b2, h3, rfl, rfl⟩ := h2
    obtain ⟨s2', t2', b2', g3, rfl, rfl⟩ := g2
    obtain ⟨rfl, e⟩ := h3.same g3
    cases b
    · exact ⟨rfl, rfl⟩
    · obtain ⟨rfl, rfl⟩ := e rfl
      exact ⟨rfl, rfl⟩
theorem sg_zero (x : Nat) : (eqK .f64 x 0 || !eqK .f64 x x) = decide (sgK .f64 x = 0) := by
  have n0 : nanK .f64 0 = false := by decide +kernel
  have z : woK .f64 0 = 0 := by decide +kernel
  unfold eqK sgK ltK
  rw [n0, z]
  cases nanK .f64 x <;> simp
  by_cases h : 0 < woK .f64 x
  · simp [h]; omega
  · by_cases g : woK .f64 x < 0
    · simp [h, g]; omega
    · simp [h, g]; omega
theorem nan_le {p q : Nat} (h : leK .f64 p q = false) (g : ltK .f64 q p = false) : (nanK .f64 p || nanK .f64 q) = true := by
  unfold leK at h; unfold ltK at g
  cases np : nanK .f64 p <;> cases nq : nanK .f64 q <;> simp [np, nq] at h g <;> simp
  omega
theorem lt_le {p q : Nat} (h : ltK .f64 p q = true) : leK .f64 p q = true := by
  unfold ltK at h; unfold leK
  cases np : nanK .f64 p <;> cases nq : nanK .f64 q <;> simp [np, nq] at h <;> simp
  omega
theorem le_num {p q : Nat} (h : leK .f64 p q = true) : (nanK .f64 p || nanK .f64 q) = false := by
  unfold leK at h
  cases np : nanK .f64 p <;> cases nq : nanK .f64 q <;> simp [np, nq] at h <;> simp
theorem num_le {p q : Nat} (h : (nanK .f64 p || nanK .f64 q) = false) (g : ltK .f64 q p = false) : leK .f64 p q = true := by
  unfold ltK at g; unfold leK
  cases np : nanK .f64 p <;> cases nq : nanK .f64 q <;> simp [np, nq] at h g <;> simp
  omega
theorem eq_self_nan (p : Nat) : (!eqK .f64 p p) = nanK .f64 p := by
  unfold eqK
  cases nanK .f64 p <;> simp
section
variable {low high frm way s t d1 p d2 q : Nat}
theorem ax_zero (h : sgK .f64 way = 0) : AxR low high frm way s t s t (leK .f64 low frm && leK .f64 frm high) := by
  unfold AxR
  rw [if_pos h]
  exact ⟨rfl, rfl, rfl⟩
theorem ax_nan {a b : Nat} (h : ¬ sgK .f64 way = 0) (h1 : resK .sub .f64 low frm d1) (h2 : resK .quo .f64 d1 way p) (h3 : resK .sub .f64 high frm d2) (h4 : resK .quo .f64 d2 way q) (n : (nanK .f64 p || nanK .f64 q) = true) : AxR low high frm way s t a b false := by
  unfold AxR
  rw [if_neg h]
  refine ⟨d1, p, d2, q, h1, h2, h3, h4, ?_⟩
  rw [n, if_pos rfl]
theorem ax_le {a b : Nat} {c : Bool} (h : ¬ sgK .f64 way = 0) (h1 : resK .sub .f64 low frm d1) (h2 : resK .quo .f64 d1 way p) (h3 : resK .sub .f64 high frm d2) (h4 : resK .quo .f64 d2 way q) (g : ltK .f64 q p = false) (l : leK .f64 p q = true) (ha : a = cutS s p) (hb : b = cutT t q) (hc : c = leK .f64 a b) : AxR low high frm way s t a b c := by
  unfold AxR
  rw [if_neg h]
  refine ⟨d1, p, d2, q, h1, h2, h3, h4, ?_⟩
  rw [le_num l, if_neg (by decide), if_neg (by rw [g]; decide)]
  exact ⟨ha, hb, hc⟩
theorem ax_gt {a b : Nat} {c : Bool} (h : ¬ sgK .f64 way = 0) (h1 : resK .sub .f64 low frm d1) (h2 : resK .quo .f64 d1 way p) (h3 : resK .sub .f64 high frm d2) (h4 : resK .quo .f64 d2 way q) (g : ltK .f64 q p = true) (ha : a = cutS s q) (hb : b = cutT t p) (hc : c = leK .f64 a b) : AxR low high frm way s t a b c := by
  unfold AxR
  rw [if_neg h]
  refine ⟨d1, p, d2, q, h1, h2, h3, h4, ?_⟩
  rw [show (nanK .f64 p || nanK .f64 q) = false by rw [Bool.or_comm]; exact le_num (lt_le g), if_neg (by decide), if_pos g]
  exact ⟨ha, hb, hc⟩
end
theorem cutS_t {s p : Nat} (h : ltK .f64 s p = true) : p = cutS s p := by unfold cutS; rw [if_pos h]
theorem cutS_f {s p : Nat} (h : ¬ ltK .f64 s p = true) : s = cutS s p := by unfold cutS; rw [if_neg h]
theorem cutT_t {t q : Nat} (h : ltK .f64 q t = true) : q = cutT t q := by unfold cutT; rw [if_pos h]
theorem cutT_f {t q : Nat} (h : ¬ ltK .f64 q t = true) : t = cutT t q := by unfold cutT; rw [if_neg h]
theorem cutS_g {s p : Nat} (h : ltK .f64 s p = false) : s = cutS s p := cutS_f (by rw [h]; decide)
theorem cutT_g {t q : Nat} (h : ltK .f64 q t = false) : t = cutT t q := cutT_f (by rw [h]; decide)
theorem no_way {p q : Nat} (g : ltK .f64 q p = true) (n : (!leK .f64 q p) = true) : False := by rw [lt_le g] at n; cases n
theorem le_not {p q : Nat} (n : (!leK .f64 p q) = false) : leK .f64 p q = true := by simpa using n
theorem le_not' {p q : Nat} (n : (!leK .f64 p q) = true) : leK .f64 p q = false := by simpa using n
theorem ray_no {lx ly hx hy fx fy wx wy s1 t1 : Nat} (h : AxR lx hx fx wx 0 4607182418800017408 s1 t1 false) : RayR lx ly hx hy fx fy wx wy 0 false := ⟨s1, t1, false, h, rfl, rfl⟩
theorem ray_yes {lx ly hx hy fx fy wx wy s1 t1 s2 t2 : Nat} (h : AxR lx hx fx wx 0 4607182418800017408 s1 t1 true) (g : AxR ly hy fy wy s1 t1 s2 t2 true) : RayR lx ly hx hy fx fy wx wy s2 true := ⟨s1, t1, true, h, s2, t2, true, g, rfl, rfl⟩
theorem ray_half {lx ly hx hy fx fy wx wy s1 t1 s2 t2 : Nat} (h : AxR lx hx fx wx 0 4607182418800017408 s1 t1 true) (g : AxR ly hy fy wy s1 t1 s2 t2 false) : RayR lx ly hx hy fx fy wx wy 0 false := ⟨s1, t1, true, h, s2, t2, false, g, rfl, rfl⟩
end Go.Proofs.Ytekhnolpgoejdab
