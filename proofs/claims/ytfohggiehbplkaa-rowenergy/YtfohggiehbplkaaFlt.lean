/-
  Plain facts on floats: a word is a sign and a rung; floats compare as their rungs do; what one over a nought is; what a float of 32 bits becomes as one of 64. No program is named here.
-/
import Ieee.Arith
import Derived.Laws.FloatBits
import Derived.Laws.FloatArith
import Derived.Laws.BitsAllLaws
import Derived.Deep.Draws
import Derived.Laws.Bits64
import Derived.Below
import Derived.RowKit3
namespace Go.Proofs.Ytfohggiehbplkaa
open Ieee
set_option linter.unusedSimpArgs false

/-- the rung of a word -/
def rg (f : Format) (x : Nat) : Nat := x % f.signWeight
/-- the sign of a word -/
def ng (f : Format) (x : Nat) : Bool := x / f.signWeight % 2 == 1
/-- no number -/
def nan (f : Format) (x : Nat) : Bool := decide (f.infRung < rg f x)
/-- where a number stands, both noughts at 0 -/
def wo (f : Format) (x : Nat) : Int := if ng f x then -(rg f x : Int) else (rg f x : Int)
/-- how great the number of a rung is, in units of the least place -/
def vl (f : Format) (r : Nat) : Nat := if r < f.binade then r else (f.binade + r % f.binade) * 2 ^ (r / f.binade - 1)

theorem binade_pos (f : Format) : 0 < f.binade := Nat.two_pow_pos _
theorem signWeight_pos (f : Format) : 0 < f.signWeight := Nat.two_pow_pos _

theorem vl_succ (f : Format) (r : Nat) : vl f r < vl f (r + 1) := by
  have hB := binade_pos f
  generalize hb : f.binade = B at *
  unfold vl
  rw [hb]
  by_cases h1 : r + 1 < B
  · rw [if_pos (by omega), if_pos h1]; omega
  · rw [if_neg h1]
    by_cases h2 : r < B
    · have e : r + 1 = B := by omega
      rw [if_pos h2, e, Nat.mod_self, Nat.div_self hB]
      simp; omega
    · rw [if_neg h2]
      have hq : 1 ≤ r / B := (Nat.one_le_div_iff hB).2 (by omega)
      have hd := Nat.div_add_mod r B
      have hm : r % B < B := Nat.mod_lt _ hB
      by_cases h3 : r % B + 1 < B
      · have e1 : (r + 1) / B = r / B := by
          rw [← hd, Nat.add_assoc, Nat.mul_add_div hB, Nat.div_eq_of_lt h3, Nat.mul_add_div hB, Nat.div_eq_of_lt hm]
        have e2 : (r + 1) % B = r % B + 1 := by
          conv => lhs; rw [← hd, Nat.add_assoc, Nat.mul_add_mod, Nat.mod_eq_of_lt h3]
        rw [e1, e2]
        exact Nat.mul_lt_mul_of_pos_right (by omega) (Nat.two_pow_pos _)
      · have h4 : r + 1 = B * (r / B + 1) := by rw [Nat.mul_add]; omega
        have e1 : (r + 1) / B = r / B + 1 := by rw [h4, Nat.mul_div_cancel_left _ hB]
        have e2 : (r + 1) % B = 0 := by rw [h4]; exact Nat.mul_mod_right ..
        rw [e1, e2]
        obtain ⟨q, hq'⟩ : ∃ q, r / B = q + 1 := ⟨r / B - 1, by omega⟩
        rw [hq']
        simp only [Nat.add_sub_cancel, Nat.add_zero]
        rw [Nat.pow_succ, Nat.mul_comm (2 ^ q) 2, ← Nat.mul_assoc]
        exact Nat.mul_lt_mul_of_pos_right (by omega) (Nat.two_pow_pos _)

theorem vl_lt (f : Format) {r s : Nat} (h : r < s) : vl f r < vl f s := by
  induction s with
  | zero => omega
  | succ s ih =>
    by_cases e : r = s
    · subst e; exact vl_succ f r
    · exact Nat.lt_trans (ih (by omega)) (vl_succ f s)

theorem vl_lt_iff (f : Format) {r s : Nat} : vl f r < vl f s ↔ r < s := by
  refine ⟨fun h => ?_, vl_lt f⟩
  rcases Nat.lt_trichotomy r s with h1 | h1 | h1
  · exact h1
  · subst h1; omega
  · have := vl_lt f h1; omega

theorem vl_inj (f : Format) {r s : Nat} (h : vl f r = vl f s) : r = s := by
  rcases Nat.lt_trichotomy r s with h1 | h1 | h1
  · have := vl_lt f h1; omega
  · exact h1
  · have := vl_lt f h1; omega

theorem vl_zero (f : Format) : vl f 0 = 0 := by unfold vl; rw [if_pos (binade_pos f)]

/-- what a word stands for -/
theorem read_num (f : Format) (x : Nat) (h : rg f x < f.infRung) : ∃ m p, f.read x = .number (ng f x) m (f.leastPlace + (p : Nat)) ∧ m * 2 ^ p = vl f (rg f x) := by
  unfold Format.read
  simp only []
  show ∃ m p, (if rg f x < f.binade then _ else if rg f x < f.infRung then _ else _) = _ ∧ _
  by_cases h1 : rg f x < f.binade
  · rw [if_pos h1]
    exact ⟨rg f x, 0, by simp [ng, rg], by unfold vl; rw [if_pos h1]; simp⟩
  · rw [if_neg h1, if_pos h]
    exact ⟨_, _, rfl, by unfold vl; rw [if_neg h1]; rfl⟩

theorem binade_le_inf (f : Format) (hf : 2 ≤ f.exponentBits) : f.binade ≤ f.infRung := by
  unfold Format.infRung
  have : 2 ^ 1 ≤ 2 ^ f.exponentBits := Nat.pow_le_pow_right (by omega) (by omega)
  exact Nat.le_mul_of_pos_left _ (by omega)

theorem read_inf (f : Format) (hf : 2 ≤ f.exponentBits) (x : Nat) (h : rg f x = f.infRung) : f.read x = .infinity (ng f x) := by
  have hB := binade_le_inf f hf
  unfold Format.read
  simp only []
  show (if rg f x < f.binade then _ else if rg f x < f.infRung then _ else if rg f x = f.infRung then _ else _) = _
  rw [if_neg (by omega), if_neg (by omega), if_pos h]; rfl

theorem read_nan (f : Format) (hf : 2 ≤ f.exponentBits) (x : Nat) (h : nan f x = true) : f.read x = .nan (ng f x) (rg f x - f.infRung) := by
  have h : f.infRung < rg f x := of_decide_eq_true h
  have hB := binade_le_inf f hf
  unfold Format.read
  simp only []
  show (if rg f x < f.binade then _ else if rg f x < f.infRung then _ else if rg f x = f.infRung then _ else _) = _
  rw [if_neg (by omega), if_neg (by omega), if_neg (by omega)]; rfl

theorem compare_int (a b : Int) : compare a b = if a < b then .lt else if a = b then .eq else .gt := rfl

theorem signed_shift (s : Bool) (m k : Nat) : signed s m k = if s then -((m * 2 ^ k : Nat) : Int) else ((m * 2 ^ k : Nat) : Int) := by
  unfold signed; rw [Nat.shiftLeft_eq]

theorem signed_scale (s : Bool) (m k j : Nat) : signed s m (k + j) = signed s m k * 2 ^ j := by
  simp only [signed_shift, Nat.pow_add, ← Nat.mul_assoc]
  cases s <;> simp [Int.neg_mul]

theorem compare_scale (a b : Int) (j : Nat) : compare (a * 2 ^ j) (b * 2 ^ j) = compare a b := by
  have hp : (0 : Int) < 2 ^ j := Int.pow_pos (by omega)
  simp only [compare_int]
  have h1 : a * 2 ^ j < b * 2 ^ j ↔ a < b := Int.mul_lt_mul_right hp
  have h2 : a * 2 ^ j = b * 2 ^ j ↔ a = b := Int.mul_eq_mul_right_iff (by omega)
  simp only [h1, h2]

/-- two numbers by what they are, in units of the least place -/
theorem order_num (f : Format) (s t : Bool) (m n p q : Nat) :
    (Datum.number s m (f.leastPlace + (p : Nat))).order (.number t n (f.leastPlace + (q : Nat))) = some (compare (signed s m p) (signed t n q)) := by
  simp only [Datum.order]
  congr 1
  have e1 : (f.leastPlace + (p : Nat) - min (f.leastPlace + (p : Nat)) (f.leastPlace + (q : Nat))).toNat + min p q = p := by omega
  have e2 : (f.leastPlace + (q : Nat) - min (f.leastPlace + (p : Nat)) (f.leastPlace + (q : Nat))).toNat + min p q = q := by omega
  generalize (f.leastPlace + (p : Nat) - min (f.leastPlace + (p : Nat)) (f.leastPlace + (q : Nat))).toNat = P at *
  generalize (f.leastPlace + (q : Nat) - min (f.leastPlace + (p : Nat)) (f.leastPlace + (q : Nat))).toNat = Q at *
  have h1 : signed s m p = signed s m P * 2 ^ min p q := by rw [← signed_scale, e1]
  have h2 : signed t n q = signed t n Q * 2 ^ min p q := by rw [← signed_scale, e2]
  rw [h1, h2, compare_scale]

theorem compare_vl (f : Format) (s t : Bool) (r u : Nat) :
    compare (if s then -((vl f r : Nat) : Int) else (vl f r : Nat)) (if t then -((vl f u : Nat) : Int) else (vl f u : Nat)) = compare (if s then -(r : Int) else r) (if t then -(u : Int) else u) := by
  have h0 := vl_zero f
  have hlt : vl f r < vl f u ↔ r < u := vl_lt_iff f
  have hgt : vl f u < vl f r ↔ u < r := vl_lt_iff f
  have p1 : vl f 0 < vl f r ↔ 0 < r := vl_lt_iff f
  have p2 : vl f 0 < vl f u ↔ 0 < u := vl_lt_iff f
  rw [h0] at p1 p2
  generalize vl f r = a at *
  generalize vl f u = b at *
  simp only [compare_int]
  cases s <;> cases t <;> simp only [Bool.false_eq_true, if_false, if_true] <;> (repeat' split) <;> first | rfl | (exfalso; omega)

theorem order_none (f : Format) (hf : 2 ≤ f.exponentBits) (x y : Nat) (h : nan f x = true ∨ nan f y = true) : f.order x y = none := by
  unfold Format.order
  rcases h with h | h
  · rw [read_nan f hf x h]; rfl
  · rw [read_nan f hf y h]; cases f.read x <;> rfl

theorem order_some (f : Format) (hf : 2 ≤ f.exponentBits) (x y : Nat) (hx : nan f x = false) (hy : nan f y = false) : f.order x y = some (compare (wo f x) (wo f y)) := by
  have hx : rg f x ≤ f.infRung := Nat.le_of_not_lt (of_decide_eq_false hx)
  have hy : rg f y ≤ f.infRung := Nat.le_of_not_lt (of_decide_eq_false hy)
  have hi : 0 < f.infRung := Nat.lt_of_lt_of_le (binade_pos f) (binade_le_inf f hf)
  unfold Format.order wo
  by_cases ex : rg f x = f.infRung
  · rw [read_inf f hf x ex]
    by_cases ey : rg f y = f.infRung
    · rw [read_inf f hf y ey, ex, ey]
      simp only [Datum.order, compare_int]
      cases ng f x <;> cases ng f y <;> simp only [Bool.false_eq_true, if_false, if_true] <;> (repeat' split) <;> first | rfl | (exfalso; omega)
    · obtain ⟨m, p, e, _⟩ := read_num f y (by omega)
      rw [e]
      simp only [Datum.order, compare_int]
      cases ng f x <;> cases ng f y <;> simp only [Bool.false_eq_true, if_false, if_true] <;> (repeat' split) <;> first | rfl | (exfalso; omega)
  · obtain ⟨m, p, e, hv⟩ := read_num f x (by omega)
    rw [e]
    by_cases ey : rg f y = f.infRung
    · rw [read_inf f hf y ey]
      simp only [Datum.order, compare_int]
      cases ng f x <;> cases ng f y <;> simp only [Bool.false_eq_true, if_false, if_true] <;> (repeat' split) <;> first | rfl | (exfalso; omega)
    · obtain ⟨n, q, e', hv'⟩ := read_num f y (by omega)
      rw [e', order_num, signed_shift, signed_shift, hv, hv', compare_vl]

theorem order_eqB (f : Format) (hf : 2 ≤ f.exponentBits) (x y : Nat) : (f.order x y == some .eq) = (!nan f x && !nan f y && decide (wo f x = wo f y)) := by
  cases hx : nan f x
  · cases hy : nan f y
    · rw [order_some f hf x y hx hy, compare_int]
      (repeat' split) <;> simp <;> omega
    · rw [order_none f hf x y (.inr hy)]; rfl
  · rw [order_none f hf x y (.inl hx)]; rfl

theorem order_ltB (f : Format) (hf : 2 ≤ f.exponentBits) (x y : Nat) : (f.order x y == some .lt) = (!nan f x && !nan f y && decide (wo f x < wo f y)) := by
  cases hx : nan f x
  · cases hy : nan f y
    · rw [order_some f hf x y hx hy, compare_int]
      (repeat' split) <;> simp <;> omega
    · rw [order_none f hf x y (.inr hy)]; rfl
  · rw [order_none f hf x y (.inl hx)]; rfl

theorem order_gtB (f : Format) (hf : 2 ≤ f.exponentBits) (x y : Nat) : (f.order x y == some .gt) = (!nan f x && !nan f y && decide (wo f y < wo f x)) := by
  cases hx : nan f x
  · cases hy : nan f y
    · rw [order_some f hf x y hx hy, compare_int]
      (repeat' split) <;> simp <;> omega
    · rw [order_none f hf x y (.inr hy)]; rfl
  · rw [order_none f hf x y (.inl hx)]; rfl

/-- the number of a rung that is told by a place and what is kept -/
theorem vl_mk (f : Format) (e K : Nat) (h1 : K < 2 * f.binade) (h2 : 0 < e → f.binade ≤ K) : vl f (e * f.binade + K) = K * 2 ^ e := by
  have hB := binade_pos f
  unfold vl
  generalize f.binade = B at *
  rcases Nat.eq_zero_or_pos e with he | he
  · subst he
    simp only [Nat.zero_mul, Nat.zero_add, Nat.pow_zero, Nat.mul_one]
    by_cases hk : K < B
    · rw [if_pos hk]
    · rw [if_neg hk]
      have e1 : K / B = 1 := by rw [Nat.div_eq_iff hB]; omega
      have e2 : K % B = K - B := by have := Nat.div_add_mod K B; rw [e1] at this; omega
      rw [e1, e2]; simp; omega
  · have hk := h2 he
    obtain ⟨j, rfl⟩ : ∃ j, K = B + j := ⟨K - B, by omega⟩
    have hj : j < B := by omega
    have e0 : e * B + (B + j) = B * (e + 1) + j := by rw [Nat.mul_add, Nat.mul_comm e B]; omega
    rw [e0, if_neg (by have : B ≤ B * (e + 1) := Nat.le_mul_of_pos_right _ (by omega); omega)]
    rw [Nat.mul_add_div hB, Nat.div_eq_of_lt hj, Nat.mul_add_mod, Nat.mod_eq_of_lt hj]
    simp

theorem cut_none (neg : Bool) (n : Nat) : Toward.even.cut neg n 0 = n := by
  unfold Toward.cut
  simp only [Nat.zero_min, Nat.shiftLeft_zero, Nat.div_one, Nat.mod_one]
  simp

theorem log2_le (m : Nat) (h : m ≠ 0) : 2 ^ m.log2 ≤ m := Nat.log2_self_le h

theorem lt_log2 (m : Nat) : m < 2 ^ (m.log2 + 1) := Nat.lt_log2_self

theorem rg_word (f : Format) (neg : Bool) (r : Nat) (h : r < f.signWeight) : rg f (f.word neg r) = r := by
  unfold rg Format.word
  split
  · rw [Nat.add_mod_left, Nat.mod_eq_of_lt h]
  · exact Nat.mod_eq_of_lt h

theorem ng_word (f : Format) (neg : Bool) (r : Nat) (h : r < f.signWeight) : ng f (f.word neg r) = neg := by
  have hp := signWeight_pos f
  unfold ng Format.word
  cases neg
  · simp [Nat.div_eq_of_lt h]
  · simp only [if_true]
    rw [Nat.add_div_left _ hp, Nat.div_eq_of_lt h]; rfl

theorem inf_lt_sign (f : Format) : f.infRung < f.signWeight := f.infRung_lt

theorem width_two (f : Format) : 2 ^ f.width = 2 * f.signWeight := by
  unfold Format.width Format.signWeight
  rw [Nat.add_assoc, Nat.add_comm 1, Nat.pow_succ, Nat.mul_comm]

/-- a word is its sign and its rung -/
theorem word_eq (f : Format) (x : Nat) (h : x < 2 ^ f.width) : x = f.word (ng f x) (rg f x) := by
  rw [width_two] at h
  have hp := signWeight_pos f
  have hd := Nat.div_add_mod x f.signWeight
  have hlt : x / f.signWeight < 2 := (Nat.div_lt_iff_lt_mul hp).2 h
  unfold Format.word ng rg
  generalize x / f.signWeight = q at *
  generalize x % f.signWeight = r at *
  generalize f.signWeight = S at *
  have hq : q = 0 ∨ q = 1 := by omega
  rcases hq with rfl | rfl <;> simp at * <;> omega

/-- the sign turned -/
theorem xor_sign (f : Format) (x : Nat) (h : x < 2 ^ f.width) : rg f (x ^^^ f.signWeight) = rg f x ∧ ng f (x ^^^ f.signWeight) = !ng f x ∧ x ^^^ f.signWeight < 2 ^ f.width := by
  have hr : rg f x < f.signWeight := Nat.mod_lt _ (signWeight_pos f)
  have e : x ^^^ f.signWeight = f.word (!ng f x) (rg f x) := by
    conv => lhs; rw [word_eq f x h]
    generalize rg f x = r at *
    have hS : f.signWeight = 2 ^ (f.exponentBits + f.fractionBits) := rfl
    unfold Format.word
    rw [hS] at hr ⊢
    generalize f.exponentBits + f.fractionBits = n at *
    have hadd : 2 ^ n + r = 2 ^ n ^^^ r := by
      have := Nat.two_pow_add_eq_or_of_lt hr 1
      rw [Nat.mul_one] at this
      rw [this]
      apply Nat.eq_of_testBit_eq
      intro i
      rw [Nat.testBit_or, Nat.testBit_xor, Nat.testBit_two_pow]
      by_cases hi : n = i
      · subst hi; rw [Nat.testBit_lt_two_pow hr]; simp
      · simp [hi]
    cases ng f x
    · simp only [Bool.not_false, if_true, Bool.false_eq_true, if_false]
      rw [hadd, Nat.xor_comm]
    · simp only [Bool.not_true, if_true, Bool.false_eq_true, if_false]
      rw [hadd, Nat.xor_comm, ← Nat.xor_assoc, Nat.xor_self, Nat.zero_xor]
  rw [e]
  exact ⟨rg_word f _ _ hr, ng_word f _ _ hr, f.word_lt _ hr⟩


theorem okF (k : FloatKind) : 2 ≤ k.format.exponentBits := by cases k <;> decide

/-- a float's rung, its sign, whether it is no number, where it stands -/
def rgK (k : FloatKind) (x : Nat) : Nat := rg k.format x
def ngK (k : FloatKind) (x : Nat) : Bool := ng k.format x
def nanK (k : FloatKind) (x : Nat) : Bool := nan k.format x
def woK (k : FloatKind) (x : Nat) : Int := wo k.format x
/-- the words of a kind -/
def okK (k : FloatKind) (x : Nat) : Prop := x < 2 ^ k.format.width
/-- the rung of infinity -/
def infK (k : FloatKind) : Nat := k.format.infRung
/-- finite -/
def finK (k : FloatKind) (x : Nat) : Bool := decide (rgK k x < infK k)
/-- the same -/
def smK (k : FloatKind) (x y : Nat) : Bool := (nanK k x && nanK k y) || (!nanK k x && !nanK k y && decide (x = y))
/-- minus nought -/
def mzK (k : FloatKind) (x : Nat) : Bool := decide (rgK k x = 0) && ngK k x
/-- less, as Go compares -/
def ltK (k : FloatKind) (x y : Nat) : Bool := !nanK k x && !nanK k y && decide (woK k x < woK k y)
/-- equal, as Go compares -/
def eqK (k : FloatKind) (x y : Nat) : Bool := !nanK k x && !nanK k y && decide (woK k x = woK k y)
/-- at most, as Go compares -/
def leK (k : FloatKind) (x y : Nat) : Bool := !nanK k x && !nanK k y && decide (woK k x ≤ woK k y)

theorem nanK_eq (k : FloatKind) (x : Nat) : nanK k x = decide (infK k < rgK k x) := rfl
theorem woK_eq (k : FloatKind) (x : Nat) : woK k x = if ngK k x then -(rgK k x : Int) else (rgK k x : Int) := rfl

theorem inf64 : infK .f64 = 9218868437227405312 := by decide +kernel
theorem inf32 : infK .f32 = 2139095040 := by decide +kernel
theorem sign64 : FloatKind.f64.format.signWeight = 9223372036854775808 := by decide +kernel
theorem sign32 : FloatKind.f32.format.signWeight = 2147483648 := by decide +kernel
theorem width64 : 2 ^ FloatKind.f64.format.width = 18446744073709551616 := by decide +kernel
theorem width32 : 2 ^ FloatKind.f32.format.width = 4294967296 := by decide +kernel
theorem okK64 {x : Nat} : okK .f64 x ↔ x < 18446744073709551616 := by unfold okK; rw [width64]
theorem okK32 {x : Nat} : okK .f32 x ↔ x < 4294967296 := by unfold okK; rw [width32]
theorem rg64 (x : Nat) : rgK .f64 x = x % 9223372036854775808 := by unfold rgK rg; rw [sign64]
theorem ng64 (x : Nat) : ngK .f64 x = (x / 9223372036854775808 % 2 == 1) := by unfold ngK ng; rw [sign64]

theorem cmp_eq (k : FloatKind) (x y : Nat) : (k.format.order x y == some .eq) = eqK k x y := order_eqB _ (okF k) x y
theorem cmp_ne (k : FloatKind) (x y : Nat) : (k.format.order x y != some .eq) = !eqK k x y := congrArg (!·) (cmp_eq k x y)
theorem cmp_lt (k : FloatKind) (x y : Nat) : (k.format.order x y == some .lt) = ltK k x y := order_ltB _ (okF k) x y
theorem cmp_gt (k : FloatKind) (x y : Nat) : (k.format.order x y == some .gt) = ltK k y x := by
  rw [order_gtB _ (okF k) x y]; unfold ltK nanK woK; cases nan k.format x <;> cases nan k.format y <;> rfl
theorem cmp_le (k : FloatKind) (x y : Nat) : (k.format.order x y == some .lt || k.format.order x y == some .eq) = leK k x y := by
  rw [cmp_lt, cmp_eq]
  unfold ltK eqK leK
  cases nanK k x <;> cases nanK k y <;> simp <;> (rw [Bool.eq_iff_iff]; simp; omega)
theorem cmp_ge (k : FloatKind) (x y : Nat) : (k.format.order x y == some .gt || k.format.order x y == some .eq) = leK k y x := by
  rw [cmp_gt, cmp_eq]
  unfold ltK eqK leK
  cases nanK k x <;> cases nanK k y <;> simp <;> (rw [Bool.eq_iff_iff]; simp; omega)

theorem eqK_self (k : FloatKind) (x : Nat) : eqK k x x = !nanK k x := by unfold eqK; cases nanK k x <;> simp

theorem nought_rg (k : FloatKind) : rgK k 0 = 0 := by unfold rgK rg; exact Nat.zero_mod _
theorem nought_ng (k : FloatKind) : ngK k 0 = false := by unfold ngK ng; simp
theorem nought_nan (k : FloatKind) : nanK k 0 = false := by rw [nanK_eq, nought_rg]; simp
theorem nought_wo (k : FloatKind) : woK k 0 = 0 := by rw [woK_eq, nought_rg, nought_ng]; rfl

theorem wo_zero (k : FloatKind) (x : Nat) : woK k x = 0 ↔ rgK k x = 0 := by rw [woK_eq]; split <;> omega

theorem rg_zero_nan (k : FloatKind) (x : Nat) (h : rgK k x = 0) : nanK k x = false := by rw [nanK_eq, h]; simp

/-- equal to nought -/
theorem eqK_nought (k : FloatKind) (x : Nat) : eqK k x 0 = decide (rgK k x = 0) := by
  unfold eqK
  rw [nought_nan, nought_wo]
  by_cases h : rgK k x = 0
  · simp [h, rg_zero_nan k x h, wo_zero]
  · simp [h, wo_zero]

/-- what an operation gives: the nearest float; or no number, whichever -/
def resK (op : BinOp) (k : FloatKind) (x y r : Nat) : Prop := okK k r ∧ (floatBits op k x y = some r ∨ (floatBits op k x y = none ∧ nanK k r = true))

/-- the value and the number of draws of an operation in a world -/
def fv (op : BinOp) (k : FloatKind) (x y : Nat) (w : World) : Nat := (floatBits op k x y).getD ((Question.nanBits k x y).cut (w.tape w.drawn (.nanBits k x y)))
def fd (op : BinOp) (k : FloatKind) (x y : Nat) : Nat := if (floatBits op k x y).isSome then 0 else 1

theorem cut_nan (k : FloatKind) (x y t : Nat) : okK k ((Question.nanBits k x y).cut t) ∧ nanK k ((Question.nanBits k x y).cut t) = true := by
  cases k
  · have e : (Question.nanBits .f32 x y).cut t = t % 2 * 2 ^ 31 + 0x7f800000 + 1 + t / 2 % (2 ^ 23 - 1) := rfl
    rw [e, okK32, nanK_eq, inf32]
    have h1 : t % 2 < 2 := Nat.mod_lt _ (by omega)
    have h2 : t / 2 % (2 ^ 23 - 1) < 2 ^ 23 - 1 := Nat.mod_lt _ (by omega)
    generalize t / 2 % (2 ^ 23 - 1) = c at *
    generalize t % 2 = b at *
    refine ⟨by omega, ?_⟩
    unfold rgK rg
    rw [sign32]
    simp only [decide_eq_true_eq]
    omega
  · have e : (Question.nanBits .f64 x y).cut t = t % 2 * 2 ^ 63 + 0x7ff0000000000000 + 1 + t / 2 % (2 ^ 52 - 1) := rfl
    rw [e, okK64, nanK_eq, inf64]
    have h1 : t % 2 < 2 := Nat.mod_lt _ (by omega)
    have h2 : t / 2 % (2 ^ 52 - 1) < 2 ^ 52 - 1 := Nat.mod_lt _ (by omega)
    generalize t / 2 % (2 ^ 52 - 1) = c at *
    generalize t % 2 = b at *
    refine ⟨by omega, ?_⟩
    rw [rg64]
    simp only [decide_eq_true_eq]
    omega

theorem floatBits_ok {op : BinOp} {k : FloatKind} {x y r : Nat} (h : floatBits op k x y = some r) : okK k r := by
  unfold floatBits at h
  unfold okK
  split at h
  · exact k.format.add_lt h
  · exact k.format.sub_lt h
  · exact k.format.mul_lt h
  · exact k.format.div_lt h
  · cases h

theorem fv_res (op : BinOp) (k : FloatKind) (x y : Nat) (w : World) : resK op k x y (fv op k x y w) := by
  unfold resK fv
  cases h : floatBits op k x y with
  | none => exact ⟨(cut_nan k x y _).1, .inr ⟨rfl, (cut_nan k x y _).2⟩⟩
  | some r => exact ⟨floatBits_ok h, .inl rfl⟩

theorem run_fl (P : Program) (op : BinOp) (hop : op = .add ∨ op = .sub ∨ op = .mul ∨ op = .quo) (t : TypeId) (k : FloatKind) (x y : Nat) (w : World) :
    (binOp op t (.float k x) (.float k y)).run P w = .ok (.float k (fv op k x y w)) (w.drewN (fd op k x y)) := by
  unfold fv fd
  cases h : floatBits op k x y with
  | some r => rw [run_float_arith w op t k x y r h]; rfl
  | none =>
    rcases hop with rfl | rfl | rfl | rfl <;> simp only [floatBits] at h <;> simp only [binOp, Op.floatArith, h, ne_eq, not_true_eq_false, if_false] <;> rfl

theorem run_add (P : Program) (t : TypeId) (k : FloatKind) (x y : Nat) (w : World) : (binOp .add t (.float k x) (.float k y)).run P w = .ok (.float k (fv .add k x y w)) (w.drewN (fd .add k x y)) := run_fl P _ (.inl rfl) t k x y w
theorem run_sub (P : Program) (t : TypeId) (k : FloatKind) (x y : Nat) (w : World) : (binOp .sub t (.float k x) (.float k y)).run P w = .ok (.float k (fv .sub k x y w)) (w.drewN (fd .sub k x y)) := run_fl P _ (.inr (.inl rfl)) t k x y w
theorem run_mul (P : Program) (t : TypeId) (k : FloatKind) (x y : Nat) (w : World) : (binOp .mul t (.float k x) (.float k y)).run P w = .ok (.float k (fv .mul k x y w)) (w.drewN (fd .mul k x y)) := run_fl P _ (.inr (.inr (.inl rfl))) t k x y w
theorem run_quo (P : Program) (t : TypeId) (k : FloatKind) (x y : Nat) (w : World) : (binOp .quo t (.float k x) (.float k y)).run P w = .ok (.float k (fv .quo k x y w)) (w.drewN (fd .quo k x y)) := run_fl P _ (.inr (.inr (.inr rfl))) t k x y w


/-- one -/
def oneK : FloatKind → Nat
  | .f32 => 1065353216
  | .f64 => 4607182418800017408

theorem one_read (k : FloatKind) : ∃ m p, m ≠ 0 ∧ k.format.read (oneK k) = .number false m p := by
  cases k
  · exact ⟨8388608, -23, by decide, by decide +kernel⟩
  · exact ⟨4503599627370496, -52, by decide, by decide +kernel⟩

theorem ngK_word (k : FloatKind) (s : Bool) (r : Nat) (h : r ≤ infK k) : ngK k (k.format.word s r) = s := ng_word _ _ _ (Nat.lt_of_le_of_lt h (inf_lt_sign _))
theorem rgK_word (k : FloatKind) (s : Bool) (r : Nat) (h : r ≤ infK k) : rgK k (k.format.word s r) = r := rg_word _ _ _ (Nat.lt_of_le_of_lt h (inf_lt_sign _))

theorem infK_pos (k : FloatKind) : 0 < infK k := Nat.lt_of_lt_of_le (binade_pos _) (binade_le_inf _ (okF k))

/-- one over a nought is an infinity of its sign -/
theorem one_over (k : FloatKind) (x : Nat) (h : rgK k x = 0) : floatBits .quo k (oneK k) x = some (k.format.word (ngK k x) (infK k)) := by
  obtain ⟨m, p, hm, e1⟩ := one_read k
  obtain ⟨m', p', e2, hv⟩ := read_num k.format x (by rw [show rg k.format x = 0 from h]; exact infK_pos k)
  have hm' : m' = 0 := by
    rw [show rg k.format x = 0 from h, vl_zero] at hv
    rcases Nat.mul_eq_zero.1 hv with h | h
    · exact h
    · exact absurd h (Nat.ne_of_gt (Nat.two_pow_pos _))
  subst hm'
  show (((k.format.read (oneK k)).quotient _ (k.format.read x)).map _) = _
  rw [e1, e2]
  simp [Datum.quotient, hm, Format.write, infK, ngK]

theorem mz_of (k : FloatKind) (x : Nat) (w : World) (h : rgK k x = 0) : ltK k (fv .quo k (oneK k) x w) 0 = ngK k x := by
  unfold fv
  rw [one_over k x h, Option.getD_some]
  have hi := infK_pos k
  unfold ltK
  rw [nought_nan, nought_wo, nanK_eq, woK_eq, ngK_word k _ _ (Nat.le_refl _), rgK_word k _ _ (Nat.le_refl _)]
  cases ngK k x <;> simp <;> omega

theorem quo_one_draws (k : FloatKind) (x : Nat) (h : rgK k x = 0) : fd .quo k (oneK k) x = 0 := by
  unfold fd; rw [one_over k x h]; rfl

/-- a float less itself is nought just where it is finite -/
theorem self_sub (k : FloatKind) (x : Nat) (w : World) : eqK k (fv .sub k x x w) 0 = finK k x := by
  have hres := fv_res .sub k x x w
  by_cases h : rgK k x < infK k
  · obtain ⟨m, p, e, hv⟩ := read_num k.format x h
    have hs : floatBits .sub k x x = some 0 := by
      show (((k.format.read x).sum (k.format.read x).opposite).map _) = _
      rw [e]
      have hz : ∀ s, signed s m (k.format.leastPlace + (p : Int) - min (k.format.leastPlace + (p : Int)) (k.format.leastPlace + (p : Int))).toNat + signed (!s) m (k.format.leastPlace + (p : Int) - min (k.format.leastPlace + (p : Int)) (k.format.leastPlace + (p : Int))).toNat = 0 := by
        intro s; cases s <;> simp [signed] <;> omega
      simp only [Datum.opposite, Datum.sum, hz, Option.map_some, if_true, Bool.and_not_self, Format.write, Format.nearest, Int.natAbs_zero]
      rfl
    unfold fv
    rw [hs, Option.getD_some, eqK_nought, nought_rg]
    simp [finK, h]
  · have hn : floatBits .sub k x x = none := by
      show (((k.format.read x).sum (k.format.read x).opposite).map _) = _
      by_cases hi : rgK k x = infK k
      · rw [read_inf k.format (okF k) x hi]
        cases ng k.format x <;> rfl
      · rw [read_nan k.format (okF k) x (by unfold nan; rw [decide_eq_true_eq]; show infK k < rgK k x; omega)]
        rfl
    rw [resK, hn] at hres
    obtain ⟨_, h1 | ⟨_, h2⟩⟩ := hres
    · cases h1
    · unfold eqK; rw [h2]; simp [finK, h]

theorem smK_self (k : FloatKind) (x : Nat) : smK k x x = true := by unfold smK; cases nanK k x <;> simp

/-- what the package's functions give, by rungs and signs -/
def clK (k : FloatKind) (a lo hi : Nat) : Nat := if ltK k lo a = false then lo else if ltK k hi a then hi else a
def mostK (k : FloatKind) (a b : Nat) : Nat := if nanK k a || ltK k a b || mzK k a && decide (rgK k b = 0) then b else a
def bitsK (a : Nat) : Nat := if nanK .f64 a then 9221120237041090560 else a

theorem neg_facts (k : FloatKind) (x : Nat) (h : okK k x) : rgK k (Op.negFloat k x) = rgK k x ∧ ngK k (Op.negFloat k x) = !ngK k x ∧ okK k (Op.negFloat k x) := xor_sign k.format x h
theorem neg_nan (k : FloatKind) (x : Nat) (h : okK k x) : nanK k (Op.negFloat k x) = nanK k x := by rw [nanK_eq, nanK_eq, (neg_facts k x h).1]
theorem cmp_le2 (k : FloatKind) (x y : Nat) : (ltK k x y || eqK k x y) = leK k x y := by rw [← cmp_eq, ← cmp_lt, cmp_le]
theorem cmp_ge2 (k : FloatKind) (x y : Nat) : (ltK k y x || eqK k x y) = leK k y x := by rw [← cmp_eq, ← cmp_gt, cmp_ge]
theorem floatBits_nan_l (op : BinOp) (k : FloatKind) (x y : Nat) (h : nanK k x = true) : floatBits op k x y = none := by
  have e : k.format.read x = _ := read_nan _ (okF k) x h
  unfold floatBits
  split
  · show Option.map _ _ = _; rw [e]; rfl
  · show Option.map _ _ = _; rw [e]; rfl
  · show Option.map _ _ = _; rw [e]; rfl
  · show Option.map _ _ = _; rw [e]; rfl
  · rfl

theorem floatBits_nan_r (op : BinOp) (k : FloatKind) (x y : Nat) (h : nanK k y = true) : floatBits op k x y = none := by
  have e : k.format.read y = _ := read_nan _ (okF k) y h
  unfold floatBits
  split
  · show Option.map _ _ = _; rw [e]; cases k.format.read x <;> rfl
  · show Option.map _ _ = _; rw [e]; cases k.format.read x <;> rfl
  · show Option.map _ _ = _; rw [e]; cases k.format.read x <;> rfl
  · show Option.map _ _ = _; rw [e]; cases k.format.read x <;> rfl
  · rfl

theorem smK_cases {k : FloatKind} {x y : Nat} (h : smK k x y = true) : x = y ∨ (nanK k x = true ∧ nanK k y = true) := by
  unfold smK at h
  simp only [Bool.or_eq_true, Bool.and_eq_true, decide_eq_true_eq] at h
  rcases h with h | h
  · exact .inr h
  · exact .inl h.2
theorem smK_nans {k : FloatKind} {x y : Nat} (hx : nanK k x = true) (hy : nanK k y = true) : smK k x y = true := by unfold smK; rw [hx, hy]; rfl

/-- the same operation of the same floats gives the same one -/
theorem res_congr {op : BinOp} {k : FloatKind} {x y x' y' r r' : Nat} (hx : smK k x x' = true) (hy : smK k y y' = true) (h : resK op k x y r) (h' : resK op k x' y' r') : smK k r r' = true := by
  have key : floatBits op k x y = floatBits op k x' y' := by
    rcases smK_cases hx with rfl | ⟨h1, h2⟩
    · rcases smK_cases hy with rfl | ⟨g1, g2⟩
      · rfl
      · rw [floatBits_nan_r _ _ _ _ g1, floatBits_nan_r _ _ _ _ g2]
    · rw [floatBits_nan_l _ _ _ _ h1, floatBits_nan_l _ _ _ _ h2]
  rcases h.2 with e | ⟨e, n⟩
  · rcases h'.2 with e' | ⟨e', n'⟩
    · rw [e, e'] at key; cases key; exact smK_self ..
    · rw [e, e'] at key; cases key
  · rcases h'.2 with e' | ⟨e', n'⟩
    · rw [e, e'] at key; cases key
    · exact smK_nans n n'


theorem log2_mul_pow (m q : Nat) (h : m ≠ 0) : (m * 2 ^ q).log2 = m.log2 + q := by
  rw [Nat.log2_eq_iff (Nat.mul_ne_zero h (Nat.ne_of_gt (Nat.two_pow_pos _)))]
  have h1 := log2_le m h
  have h2 := lt_log2 m
  constructor
  · rw [Nat.pow_add]; exact Nat.mul_le_mul_right _ h1
  · rw [show m.log2 + q + 1 = (m.log2 + 1) + q by omega, Nat.pow_add]
    exact Nat.mul_lt_mul_of_pos_right h2 (Nat.two_pow_pos _)

theorem cut_exact (neg : Bool) (n d : Nat) : Toward.even.cut neg (n * 2 ^ d) d = n := by
  by_cases hn : n = 0
  · subst hn
    unfold Toward.cut
    simp
  · unfold Toward.cut
    simp only []
    have hl : min d ((n * 2 ^ d).log2 + 2) = d := by rw [log2_mul_pow n d hn]; omega
    have hp := Nat.two_pow_pos d
    rw [hl, Nat.one_shiftLeft, Nat.mul_div_cancel _ hp, Nat.mul_mod_left]
    have e1 : decide (2 ^ d < 2 * 0) = false := by simp
    have e2 : (2 ^ d == 2 * 0) = false := by simp
    rw [e1, e2]
    rfl

theorem cut_scale (neg : Bool) (n d q : Nat) (hn : n ≠ 0) : Toward.even.cut neg (n * 2 ^ q) (d + q) = Toward.even.cut neg n d := by
  unfold Toward.cut
  simp only []
  rw [log2_mul_pow n q hn]
  have hl : min (d + q) (n.log2 + q + 2) = min d (n.log2 + 2) + q := by omega
  rw [hl]
  generalize min d (n.log2 + 2) = g
  have hq := Nat.two_pow_pos q
  rw [Nat.one_shiftLeft, Nat.one_shiftLeft, Nat.pow_add, Nat.mul_div_mul_right _ _ hq, Nat.mul_mod_mul_right]
  have e1 : decide (2 ^ g * 2 ^ q < 2 * (n % 2 ^ g * 2 ^ q)) = decide (2 ^ g < 2 * (n % 2 ^ g)) := by
    rw [← Nat.mul_assoc]
    simp only [Nat.mul_lt_mul_right hq]
  have e2 : (2 ^ g * 2 ^ q == 2 * (n % 2 ^ g * 2 ^ q)) = (2 ^ g == 2 * (n % 2 ^ g)) := by
    rw [← Nat.mul_assoc, Bool.eq_iff_iff, beq_iff_eq, beq_iff_eq]
    exact Nat.mul_left_inj (by omega)
  rw [e1, e2]

theorem fin_sm {k : FloatKind} {x y : Nat} (h : smK k x y = true) : finK k x = finK k y := by
  rcases smK_cases h with rfl | ⟨h1, h2⟩
  · rfl
  · rw [nanK_eq] at h1 h2
    simp only [decide_eq_true_eq] at h1 h2
    unfold finK
    rw [decide_eq_false (by omega), decide_eq_false (by omega)]

end Go.Proofs.Ytfohggiehbplkaa
namespace Go.Proofs.Ytfohggiehbplkaa
open Ieee Go.RowKit

theorem run_store_float (P : Program) (w : World) (a : Addr) (m : Mode) (k : FloatKind) (x : Nat) : (store a (.float k x) m).run P w = stored P w a (.float k x) m := run_store P w a _ m rfl
theorem setCell_drewN (w : World) (n : Nat) (a : Addr) (v : Value) : (w.drewN n).setCell a v = (w.setCell a v).drewN n := rfl
theorem alloc_drewN (w : World) (n : Nat) (o : Obj) : (w.drewN n).alloc o = (w.alloc o).drewN n := rfl
attribute [go_sem] run_store_float setCell_drewN alloc_drewN
/-- of what was there nothing has turned; blocks may have been laid, the tape asked -/
def Bel (W w1 : World) : Prop := Below W.heap.size W w1 ∧ ∀ a, w1.frozen? a = W.frozen? a
theorem Bel.size {W w1 : World} (h : Bel W w1) : W.heap.size ≤ w1.heap.size := h.1.size
theorem Bel.grown {W w1 : World} (h : Bel W w1) : Grown W w1 := ⟨h.1.frame _, h.2, h.1.size⟩
theorem bl_refl (w : World) : Bel w w := ⟨Below.refl _ _, fun _ => rfl⟩
theorem bl_drewN {a w : World} (h : Bel a w) (n : Nat) : Bel a (w.drewN n) := ⟨⟨h.1.os, h.1.tape, h.1.output, h.1.size, h.1.block⟩, h.2⟩
theorem bl_drew {a w : World} (h : Bel a w) : Bel a w.drew := ⟨h.1.drew, h.2⟩
theorem bl_alloc {a w : World} (h : Bel a w) (c : Array Value) (t : TypeId) : Bel a (w.alloc (.cells c t)) := ⟨h.1.alloc h.size _, (h.grown.alloc c t).2.1⟩
theorem bl_set {a w : World} (h : Bel a w) {p : Addr} {v : Value} (hp : a.heap.size ≤ p.block) : Bel a (w.setCell p v) := ⟨h.1.setCell hp v, (h.grown.setCell hp v).2.1⟩
theorem bl_trans {a b c : World} (h : Bel a b) (k : Bel b c) : Bel a c := ⟨h.1.trans (k.1.mono h.size), fun x => (k.2 x).trans (h.2 x)⟩
theorem bcell {W w1 : World} (hb : Bel W w1) : (∀ b o, b < W.heap.size → w1.cell? ⟨b, o, none⟩ = W.cell? ⟨b, o, none⟩) ∧ (∀ a, w1.frozen? a = W.frozen? a) :=
  ⟨fun b o h => hb.1.cell (p := ⟨b, o, none⟩) h, hb.2⟩

def sqR (x r : Nat) : Prop := okK .f64 r ∧ (FloatKind.f64.format.sqrt x = some r ∨ (FloatKind.f64.format.sqrt x = none ∧ nanK .f64 r = true))
def sv (x : Nat) (w : World) : Nat := (FloatKind.f64.format.sqrt x).getD ((Question.nanBits .f64 x x).cut (w.tape w.drawn (.nanBits .f64 x x)))
def sd (x : Nat) : Nat := if (FloatKind.f64.format.sqrt x).isSome then 0 else 1
theorem sqrt_nan (x : Nat) (h : nanK .f64 x = true) : FloatKind.f64.format.sqrt x = none := by
  unfold Format.sqrt
  rw [read_nan _ (okF .f64) x h]
  rfl
theorem sqrt_ok {x r : Nat} (h : FloatKind.f64.format.sqrt x = some r) : okK .f64 r := FloatKind.f64.format.sqrt_lt h
theorem sv_res (x : Nat) (w : World) : sqR x (sv x w) := by
  unfold sqR sv
  cases h : FloatKind.f64.format.sqrt x with
  | some r => exact ⟨by simpa using sqrt_ok h, .inl rfl⟩
  | none => exact ⟨by simpa using (cut_nan .f64 x x _).1, .inr ⟨rfl, by simpa using (cut_nan .f64 x x _).2⟩⟩
theorem sq_congr {x x' r r' : Nat} (hx : smK .f64 x x' = true) (h : sqR x r) (h' : sqR x' r') : smK .f64 r r' = true := by
  rcases smK_cases hx with rfl | ⟨n1, n2⟩
  · rcases h.2 with h1 | ⟨h1, h2⟩ <;> rcases h'.2 with g1 | ⟨g1, g2⟩
    · rw [h1] at g1; cases g1; exact smK_self _ _
    · rw [h1] at g1; cases g1
    · rw [h1] at g1; cases g1
    · exact smK_nans h2 g2
  · rcases h.2 with h1 | ⟨h1, h2⟩
    · rw [sqrt_nan _ n1] at h1; cases h1
    · rcases h'.2 with g1 | ⟨g1, g2⟩
      · rw [sqrt_nan _ n2] at g1; cases g1
      · exact smK_nans h2 g2

theorem andNot_u64 (a : Nat) (h : okK .f64 a) : (bits .andNot .u64 (a : Int) 9223372036854775808).toNat = rgK .f64 a := by
  rw [okK64] at h
  have := u64_andNot_nat a 9223372036854775808 h (by omega)
  rw [show ((9223372036854775808 : Nat) : Int) = 9223372036854775808 from rfl] at this
  rw [this, Int.toNat_natCast, show (18446744073709551615 - 9223372036854775808 : Nat) = 2 ^ 63 - 1 from rfl, Nat.and_two_pow_sub_one_eq_mod, rg64]

def AddR (ax ay bx b_y x y : Nat) : Prop := resK .add .f64 ax bx x ∧ resK .add .f64 ay b_y y
def SubR (ax ay bx b_y x y : Nat) : Prop := resK .sub .f64 ax bx x ∧ resK .sub .f64 ay b_y y
def ScaleR (ax ay s x y : Nat) : Prop := resK .mul .f64 ax s x ∧ resK .mul .f64 ay s y
def MoreR (ax ay s bx b_y x y : Nat) : Prop := ∃ p q, resK .mul .f64 s bx p ∧ resK .mul .f64 s b_y q ∧ resK .add .f64 ax p x ∧ resK .add .f64 ay q y
def MiddleR (ax ay bx b_y x y : Nat) : Prop := ∃ p q, resK .add .f64 ax bx p ∧ resK .add .f64 ay b_y q ∧ resK .quo .f64 p 4611686018427387904 x ∧ resK .quo .f64 q 4611686018427387904 y
def DotR (ax ay bx b_y r : Nat) : Prop := ∃ p q, resK .mul .f64 ax bx p ∧ resK .mul .f64 ay b_y q ∧ resK .add .f64 p q r
def CrossR (ax ay bx b_y r : Nat) : Prop := ∃ p q, resK .mul .f64 ax b_y p ∧ resK .mul .f64 ay bx q ∧ resK .sub .f64 p q r
def LengthR (ax ay r : Nat) : Prop := ∃ s, DotR ax ay ax ay s ∧ sqR s r
def UnitR (ax ay x y : Nat) (ok : Bool) : Prop := ∃ n, LengthR ax ay n ∧ ok = (ltK .f64 0 n && finK .f64 n) ∧ if ok then resK .quo .f64 ax n x ∧ resK .quo .f64 ay n y else x = 0 ∧ y = 0

theorem AddR.sm {ax ay bx b_y x y x' y' : Nat} (h : AddR ax ay bx b_y x y) (g : AddR ax ay bx b_y x' y') : smK .f64 x x' = true ∧ smK .f64 y y' = true :=
  ⟨res_congr (smK_self _ _) (smK_self _ _) h.1 g.1, res_congr (smK_self _ _) (smK_self _ _) h.2 g.2⟩
theorem SubR.sm {ax ay bx b_y x y x' y' : Nat} (h : SubR ax ay bx b_y x y) (g : SubR ax ay bx b_y x' y') : smK .f64 x x' = true ∧ smK .f64 y y' = true :=
  ⟨res_congr (smK_self _ _) (smK_self _ _) h.1 g.1, res_congr (smK_self _ _) (smK_self _ _) h.2 g.2⟩
theorem ScaleR.sm {ax ay s x y x' y' : Nat} (h : ScaleR ax ay s x y) (g : ScaleR ax ay s x' y') : smK .f64 x x' = true ∧ smK .f64 y y' = true :=
  ⟨res_congr (smK_self _ _) (smK_self _ _) h.1 g.1, res_congr (smK_self _ _) (smK_self _ _) h.2 g.2⟩
theorem MoreR.sm {ax ay s bx b_y x y x' y' : Nat} (h : MoreR ax ay s bx b_y x y) (g : MoreR ax ay s bx b_y x' y') : smK .f64 x x' = true ∧ smK .f64 y y' = true := by
  obtain ⟨p, q, h1, h2, h3, h4⟩ := h
  obtain ⟨p', q', g1, g2, g3, g4⟩ := g
  exact ⟨res_congr (smK_self _ _) (res_congr (smK_self _ _) (smK_self _ _) h1 g1) h3 g3, res_congr (smK_self _ _) (res_congr (smK_self _ _) (smK_self _ _) h2 g2) h4 g4⟩
theorem MiddleR.sm {ax ay bx b_y x y x' y' : Nat} (h : MiddleR ax ay bx b_y x y) (g : MiddleR ax ay bx b_y x' y') : smK .f64 x x' = true ∧ smK .f64 y y' = true := by
  obtain ⟨p, q, h1, h2, h3, h4⟩ := h
  obtain ⟨p', q', g1, g2, g3, g4⟩ := g
  exact ⟨res_congr (res_congr (smK_self _ _) (smK_self _ _) h1 g1) (smK_self _ _) h3 g3, res_congr (res_congr (smK_self _ _) (smK_self _ _) h2 g2) (smK_self _ _) h4 g4⟩
theorem DotR.sm {ax ay bx b_y r r' : Nat} (h : DotR ax ay bx b_y r) (g : DotR ax ay bx b_y r') : smK .f64 r r' = true := by
  obtain ⟨p, q, h1, h2, h3⟩ := h
  obtain ⟨p', q', g1, g2, g3⟩ := g
  exact res_congr (res_congr (smK_self _ _) (smK_self _ _) h1 g1) (res_congr (smK_self _ _) (smK_self _ _) h2 g2) h3 g3
theorem CrossR.sm {ax ay bx b_y r r' : Nat} (h : CrossR ax ay bx b_y r) (g : CrossR ax ay bx b_y r') : smK .f64 r r' = true := by
  obtain ⟨p, q, h1, h2, h3⟩ := h
  obtain ⟨p', q', g1, g2, g3⟩ := g
  exact res_congr (res_congr (smK_self _ _) (smK_self _ _) h1 g1) (res_congr (smK_self _ _) (smK_self _ _) h2 g2) h3 g3
theorem LengthR.sm {ax ay r r' : Nat} (h : LengthR ax ay r) (g : LengthR ax ay r') : smK .f64 r r' = true := by
  obtain ⟨s, h1, h2⟩ := h
  obtain ⟨s', g1, g2⟩ := g
  exact sq_congr (h1.sm g1) h2 g2
theorem ltK_sm {a x y : Nat} (h : smK .f64 x y = true) : ltK .f64 a x = ltK .f64 a y := by
  rcases smK_cases h with rfl | ⟨h1, h2⟩
  · rfl
  · unfold ltK; rw [h1, h2]; simp
theorem UnitR.sm {ax ay x y x' y' : Nat} {b b' : Bool} (h : UnitR ax ay x y b) (g : UnitR ax ay x' y' b') : smK .f64 x x' = true ∧ smK .f64 y y' = true ∧ b = b' := by
  obtain ⟨n, h1, h2, h3⟩ := h
  obtain ⟨n', g1, g2, g3⟩ := g
  have hn := h1.sm g1
  have hb : b = b' := by rw [h2, g2, ltK_sm hn, fin_sm hn]
  subst hb
  cases b
  · simp only [Bool.false_eq_true, if_false] at h3 g3
    rw [h3.1, h3.2, g3.1, g3.2]
    exact ⟨smK_self _ _, smK_self _ _, rfl⟩
  · simp only [if_true] at h3 g3
    exact ⟨res_congr (smK_self _ _) hn h3.1 g3.1, res_congr (smK_self _ _) hn h3.2 g3.2, rfl⟩
theorem AddR.ok {ax ay bx b_y x y : Nat} (h : AddR ax ay bx b_y x y) : okK .f64 x ∧ okK .f64 y := ⟨h.1.1, h.2.1⟩
theorem SubR.ok {ax ay bx b_y x y : Nat} (h : SubR ax ay bx b_y x y) : okK .f64 x ∧ okK .f64 y := ⟨h.1.1, h.2.1⟩
theorem ScaleR.ok {ax ay s x y : Nat} (h : ScaleR ax ay s x y) : okK .f64 x ∧ okK .f64 y := ⟨h.1.1, h.2.1⟩
theorem MoreR.ok {ax ay s bx b_y x y : Nat} (h : MoreR ax ay s bx b_y x y) : okK .f64 x ∧ okK .f64 y := by
  obtain ⟨p, q, _, _, h3, h4⟩ := h; exact ⟨h3.1, h4.1⟩
theorem MiddleR.ok {ax ay bx b_y x y : Nat} (h : MiddleR ax ay bx b_y x y) : okK .f64 x ∧ okK .f64 y := by
  obtain ⟨p, q, _, _, h3, h4⟩ := h; exact ⟨h3.1, h4.1⟩
theorem DotR.ok {ax ay bx b_y r : Nat} (h : DotR ax ay bx b_y r) : okK .f64 r := by obtain ⟨p, q, _, _, h3⟩ := h; exact h3.1
theorem CrossR.ok {ax ay bx b_y r : Nat} (h : CrossR ax ay bx b_y r) : okK .f64 r := by obtain ⟨p, q, _, _, h3⟩ := h; exact h3.1
theorem LengthR.ok {ax ay r : Nat} (h : LengthR ax ay r) : okK .f64 r := by obtain ⟨s, _, h2⟩ := h; exact h2.1
theorem ok_zero : okK .f64 0 := by rw [okK64]; omega
theorem UnitR.ok {ax ay x y : Nat} {b : Bool} (h : UnitR ax ay x y b) : okK .f64 x ∧ okK .f64 y := by
  obtain ⟨n, _, _, h3⟩ := h
  cases b
  · simp only [Bool.false_eq_true, if_false] at h3; rw [h3.1, h3.2]; exact ⟨ok_zero, ok_zero⟩
  · simp only [if_true] at h3; exact ⟨h3.1.1, h3.2.1⟩

theorem bitsK_eq (a b : Nat) : decide (bitsK a = bitsK b) = smK .f64 a b := by
  have n1 : nanK .f64 9221120237041090560 = true := by decide +kernel
  unfold bitsK smK
  cases ha : nanK .f64 a <;> cases hb : nanK .f64 b <;> simp
  · intro h; subst h; rw [n1] at ha; cases ha
  · intro h; subst h; rw [n1] at hb; cases hb
end Go.Proofs.Ytfohggiehbplkaa
namespace Go.Proofs.Ytfohggiehbplkaa
open Ieee Go.RowKit

theorem neg_ok {k : FloatKind} {x : Nat} (h : okK k x) : okK k (Op.negFloat k x) := (neg_facts k x h).2.2
theorem neg_sm {x y : Nat} (hx : okK .f64 x) (hy : okK .f64 y) (h : smK .f64 x y = true) : smK .f64 (Op.negFloat .f64 x) (Op.negFloat .f64 y) = true := by
  rcases smK_cases h with rfl | ⟨h1, h2⟩
  · exact smK_self _ _
  · exact smK_nans (by rw [neg_nan _ _ hx]; exact h1) (by rw [neg_nan _ _ hy]; exact h2)

def SpinR (s ax ay x y : Nat) : Prop := ∃ p q, resK .mul .f64 s ay p ∧ resK .mul .f64 s ax q ∧ x = Op.negFloat .f64 p ∧ y = q
theorem SpinR.sm {s ax ay x y x' y' : Nat} (h : SpinR s ax ay x y) (g : SpinR s ax ay x' y') : smK .f64 x x' = true ∧ smK .f64 y y' = true := by
  obtain ⟨p, q, h1, h2, rfl, rfl⟩ := h
  obtain ⟨p', q', g1, g2, rfl, rfl⟩ := g
  exact ⟨neg_sm h1.1 g1.1 (res_congr (smK_self _ _) (smK_self _ _) h1 g1), res_congr (smK_self _ _) (smK_self _ _) h2 g2⟩
theorem SpinR.ok {s ax ay x y : Nat} (h : SpinR s ax ay x y) : okK .f64 x ∧ okK .f64 y := by
  obtain ⟨p, q, h1, h2, rfl, rfl⟩ := h
  exact ⟨neg_ok h1.1, h2.1⟩

theorem keep {W w1 : World} (hb : Bel W w1) {a : Addr} {v : Value} (h : W.cell? a = some v) : w1.cell? a = some v := (hb.1.cell (World.block_lt_of_cell? W a h)).trans h

theorem run_equalIn_fl (P : Program) (w : World) (d : Nat) (t : TypeId) (k : FloatKind) (x y : Nat) (h : P.underlying t = some (.float k)) : (Op.equalIn (d + 1) t (.float k x) (.float k y)).run P w = .ok (eqK k x y) w := by
  rw [← cmp_eq]
  simp [Op.equalIn, run_underlying h]
  rfl
theorem run_equalIn_float (P : Program) (w : World) (t : TypeId) (k : FloatKind) (x y : Nat) (h : P.underlying t = some (.float k)) : (Op.equalIn 9999 t (.float k x) (.float k y)).run P w = .ok (eqK k x y) w := run_equalIn_fl P w 9998 t k x y h

theorem res_is {op : BinOp} {k : FloatKind} {x y r v : Nat} (h : resK op k x y r) (e : floatBits op k x y = some v) : r = v := by
  rcases h.2 with h1 | ⟨h1, _⟩
  · rw [e] at h1; exact (Option.some.inj h1).symm
  · rw [e] at h1; cases h1
end Go.Proofs.Ytfohggiehbplkaa
namespace Go.Proofs.Ytfohggiehbplkaa
open Ieee Go.RowKit
set_option linter.unusedVariables false

end Go.Proofs.Ytfohggiehbplkaa
