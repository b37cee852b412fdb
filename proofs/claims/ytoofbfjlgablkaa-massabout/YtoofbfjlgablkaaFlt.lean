/-
  Plain facts on floats: a word is a sign and a rung; floats compare as their rungs do; what one over a nought is; what a float of 32 bits becomes as one of 64. No program is named here.
-/
import Ieee.Arith
import Derived.Laws.FloatBits
import Derived.Laws.FloatArith
import Derived.Laws.BitsAllLaws
import Derived.Deep.Draws
import Derived.Laws.Bits64
import Derived.Below
import Derived.RowKit3
namespace Go.Proofs.Ytoofbfjlgablkaa
open Ieee
set_option linter.unusedSimpArgs false

/-- the rung of a word -/
def rg (f : Format) (x : Nat) : Nat := x % f.signWeight
/-- the sign of a word -/
def ng (f : Format) (x : Nat) : Bool := x / f.signWeight % 2 == 1
/-- no number -/
def nan (f : Format) (x : Nat) : Bool := decide (f.infRung < rg f x)
/-- where a number stands, both noughts at 0 -/
def wo (f : Format) (x : Nat) : Int := if ng f x then -(rg f x : Int) else (rg f x : Int)
/-- how great the number of a rung is, in units of the least place -/
def vl (f : Format) (r : Nat) : Nat := if r < f.binade then r else (f.binade + r % f.binade) * 2 ^ (r / f.binade - 1)

theorem binade_pos (f : Format) : 0 < f.binade := Nat.two_pow_pos _
theorem signWeight_pos (f : Format) : 0 < f.signWeight := Nat.two_pow_pos _

theorem vl_succ (f : Format) (r : Nat) : vl f r < vl f (r + 1) := by
  have hB := binade_pos f
  generalize hb : f.binade = B at *
  unfold vl
  rw [hb]
  by_cases h1 : r + 1 < B
  · rw [if_pos (by omega), if_pos h1]; omega
  · rw [if_neg h1]
    by_cases h2 : r < B
    · have e : r + 1 = B := by omega
      rw [if_pos h2, e, Nat.mod_self, Nat.div_self hB]
      simp; omega
    · rw [if_neg h2]
      have hq : 1 ≤ r / B := (Nat.one_le_div_iff hB).2 (by omega)
      have hd := Nat.div_add_mod r B
      have hm : r % B < B := Nat.mod_lt _ hB
      by_cases h3 : r % B + 1 < B
      · have e1 : (r + 1) / B = r / B := by
          rw [← hd, Nat.add_assoc, Nat.mul_add_div hB, Nat.div_eq_of_lt h3, Nat.mul_add_div hB, Nat.div_eq_of_lt hm]
        have e2 : (r + 1) % B = r % B + 1 := by
          conv => lhs; rw [← hd, Nat.add_assoc, Nat.mul_add_mod, Nat.mod_eq_of_lt h3]
        rw [e1, e2]
        exact Nat.mul_lt_mul_of_pos_right (by omega) (Nat.two_pow_pos _)
      · have h4 : r + 1 = B * (r / B + 1) := by rw [Nat.mul_add]; omega
        have e1 : (r + 1) / B = r / B + 1 := by rw [h4, Nat.mul_div_cancel_left _ hB]
        have e2 : (r + 1) % B = 0 := by rw [h4]; exact Nat.mul_mod_right ..
        rw [e1, e2]
        obtain ⟨q, hq'⟩ : ∃ q, r / B = q + 1 := ⟨r / B - 1, by omega⟩
        rw [hq']
        simp only [Nat.add_sub_cancel, Nat.add_zero]
        rw [Nat.pow_succ, Nat.mul_comm (2 ^ q) 2, ← Nat.mul_assoc]
        exact Nat.mul_lt_mul_of_pos_right (by omega) (Nat.two_pow_pos _)

theorem vl_lt (f : Format) {r s : Nat} (h : r < s) : vl f r < vl f s := by
  induction s with
  | zero => omega
  | succ s ih =>
    by_cases e : r = s
    · subst e; exact vl_succ f r
    · exact Nat.lt_trans (ih (by omega)) (vl_succ f s)

theorem vl_lt_iff (f : Format) {r s : Nat} : vl f r < vl f s ↔ r < s := by
  refine ⟨fun h => ?_, vl_lt f⟩
  rcases Nat.lt_trichotomy r s with h1 | h1 | h1
  · exact h1
  · subst h1; omega
  · have := vl_lt f h1; omega

theorem vl_inj (f : Format) {r s : Nat} (h : vl f r = vl f s) : r = s := by
  rcases Nat.lt_trichotomy r s with h1 | h1 | h1
  · have := vl_lt f h1; omega
  · exact h1
  · have := vl_lt f h1; omega

theorem vl_zero (f : Format) : vl f 0 = 0 := by unfold vl; rw [if_pos (binade_pos f)]

/-- what a word stands for -/
theorem read_num (f : Format) (x : Nat) (h : rg f x < f.infRung) : ∃ m p, f.read x = .number (ng f x) m (f.leastPlace + (p : Nat)) ∧ m * 2 ^ p = vl f (rg f x) := by
  unfold Format.read
  simp only []
  show ∃ m p, (if rg f x < f.binade then _ else if rg f x < f.infRung then _ else _) = _ ∧ _
  by_cases h1 : rg f x < f.binade
  · rw [if_pos h1]
    exact ⟨rg f x, 0, by simp [ng, rg], by unfold vl; rw [if_pos h1]; simp⟩
  · rw [if_neg h1, if_pos h]
    exact ⟨_, _, rfl, by unfold vl; rw [if_neg h1]; rfl⟩

theorem binade_le_inf (f : Format) (hf : 2 ≤ f.exponentBits) : f.binade ≤ f.infRung := by
  unfold Format.infRung
  have : 2 ^ 1 ≤ 2 ^ f.exponentBits := Nat.pow_le_pow_right (by omega) (by omega)
  exact Nat.le_mul_of_pos_left _ (by omega)

theorem read_inf (f : Format) (hf : 2 ≤ f.exponentBits) (x : Nat) (h : rg f x = f.infRung) : f.read x = .infinity (ng f x) := by
  have hB := binade_le_inf f hf
  unfold Format.read
  simp only []
  show (if rg f x < f.binade then _ else if rg f x < f.infRung then _ else if rg f x = f.infRung then _ else _) = _
  rw [if_neg (by omega), if_neg (by omega), if_pos h]; rfl

theorem read_nan (f : Format) (hf : 2 ≤ f.exponentBits) (x : Nat) (h : nan f x = true) : f.read x = .nan (ng f x) (rg f x - f.infRung) := by
  have h : f.infRung < rg f x := of_decide_eq_true h
  have hB := binade_le_inf f hf
  unfold Format.read
  simp only []
  show (if rg f x < f.binade then _ else if rg f x < f.infRung then _ else if rg f x = f.infRung then _ else _) = _
  rw [if_neg (by omega), if_neg (by omega), if_neg (by omega)]; rfl

theorem compare_int (a b : Int) : compare a b = if a < b then .lt else if a = b then .eq else .gt := rfl

theorem signed_shift (s : Bool) (m k : Nat) : signed s m k = if s then -((m * 2 ^ k : Nat) : Int) else ((m * 2 ^ k : Nat) : Int) := by
  unfold signed; rw [Nat.shiftLeft_eq]

theorem signed_scale (s : Bool) (m k j : Nat) : signed s m (k + j) = signed s m k * 2 ^ j := by
  simp only [signed_shift, Nat.pow_add, ← Nat.mul_assoc]
  cases s <;> simp [Int.neg_mul]

theorem compare_scale (a b : Int) (j : Nat) : compare (a * 2 ^ j) (b * 2 ^ j) = compare a b := by
  have hp : (0 : Int) < 2 ^ j := Int.pow_pos (by omega)
  simp only [compare_int]
  have h1 : a * 2 ^ j < b * 2 ^ j ↔ a < b := Int.mul_lt_mul_right hp
  have h2 : a * 2 ^ j = b * 2 ^ j ↔ a = b := Int.mul_eq_mul_right_iff (by omega)
  simp only [h1, h2]

/-- two numbers by what they are, in units of the least place -/
theorem order_num (f : Format) (s t : Bool) (m n p q : Nat) :
    (Datum.number s m (f.leastPlace + (p : Nat))).order (.number t n (f.leastPlace + (q : Nat))) = some (compare (signed s m p) (signed t n q)) := by
  simp only [Datum.order]
  congr 1
  have e1 : (f.leastPlace + (p : Nat) - min (f.leastPlace + (p : Nat)) (f.leastPlace + (q : Nat))).toNat + min p q = p := by omega
  have e2 : (f.leastPlace + (q : Nat) - min (f.leastPlace + (p : Nat)) (f.leastPlace + (q : Nat))).toNat + min p q = q := by omega
  generalize (f.leastPlace + (p : Nat) - min (f.leastPlace + (p : Nat)) (f.leastPlace + (q : Nat))).toNat = P at *
  generalize (f.leastPlace + (q : Nat) - min (f.leastPlace + (p : Nat)) (f.leastPlace + (q : Nat))).toNat = Q at *
  have h1 : signed s m p = signed s m P * 2 ^ min p q := by rw [← signed_scale, e1]
  have h2 : signed t n q = signed t n Q * 2 ^ min p q := by rw [← signed_scale, e2]
  rw [h1, h2, compare_scale]

theorem compare_vl (f : Format) (s t : Bool) (r u : Nat) :
    compare (if s then -((vl f r : Nat) : Int) else (vl f r : Nat)) (if t then -((vl f u : Nat) : Int) else (vl f u : Nat)) = compare (if s then -(r : Int) else r) (if t then -(u : Int) else u) := by
  have h0 := vl_zero f
  have hlt : vl f r < vl f u ↔ r < u := vl_lt_iff f
  have hgt : vl f u < vl f r ↔ u < r := vl_lt_iff f
  have p1 : vl f 0 < vl f r ↔ 0 < r := vl_lt_iff f
  have p2 : vl f 0 < vl f u ↔ 0 < u := vl_lt_iff f
  rw [h0] at p1 p2
  generalize vl f r = a at *
  generalize vl f u = b at *
  simp only [compare_int]
  cases s <;> cases t <;> simp only [Bool.false_eq_true, if_false, if_true] <;> (repeat' split) <;> first | rfl | (exfalso; omega)

theorem order_none (f : Format) (hf : 2 ≤ f.exponentBits) (x y : Nat) (h : nan f x = true ∨ nan f y = true) : f.order x y = none := by
  unfold Format.order
  rcases h with h | h
  · rw [read_nan f hf x h]; rfl
  · rw [read_nan f hf y h]; cases f.read x <;> rfl

theorem order_some (f : Format) (hf : 2 ≤ f.exponentBits) (x y : Nat) (hx : nan f x = false) (hy : nan f y = false) : f.order x y = some (compare (wo f x) (wo f y)) := by
  have hx : rg f x ≤ f.infRung := Nat.le_of_not_lt (of_decide_eq_false hx)
  have hy : rg f y ≤ f.infRung := Nat.le_of_not_lt (of_decide_eq_false hy)
  have hi : 0 < f.infRung := Nat.lt_of_lt_of_le (binade_pos f) (binade_le_inf f hf)
  unfold Format.order wo
  by_cases ex : rg f x = f.infRung
  · rw [read_inf f hf x ex]
    by_cases ey : rg f y = f.infRung
    · rw [read_inf f hf y ey, ex, ey]
      simp only [Datum.order, compare_int]
      cases ng f x <;> cases ng f y <;> simp only [Bool.false_eq_true, if_false, if_true] <;> (repeat' split) <;> first | rfl | (exfalso; omega)
    · obtain ⟨m, p, e, _⟩ := read_num f y (by omega)
      rw [e]
      simp only [Datum.order, compare_int]
      cases ng f x <;> cases ng f y <;> simp only [Bool.false_eq_true, if_false, if_true] <;> (repeat' split) <;> first | rfl | (exfalso; omega)
  · obtain ⟨m, p, e, hv⟩ := read_num f x (by omega)
    rw [e]
    by_cases ey : rg f y = f.infRung
    · rw [read_inf f hf y ey]
      simp only [Datum.order, compare_int]
      cases ng f x <;> cases ng f y <;> simp only [Bool.false_eq_true, if_false, if_true] <;> (repeat' split) <;> first | rfl | (exfalso; omega)
    · obtain ⟨n, q, e', hv'⟩ := read_num f y (by omega)
      rw [e', order_num, signed_shift, signed_shift, hv, hv', compare_vl]

theorem order_eqB (f : Format) (hf : 2 ≤ f.exponentBits) (x y : Nat) : (f.order x y == some .eq) = (!nan f x && !nan f y && decide (wo f x = wo f y)) := by
  cases hx : nan f x
  · cases hy : nan f y
    · rw [order_some f hf x y hx hy, compare_int]
      (repeat' split) <;> simp <;> omega
    · rw [order_none f hf x y (.inr hy)]; rfl
  · rw [order_none f hf x y (.inl hx)]; rfl

theorem order_ltB (f : Format) (hf : 2 ≤ f.exponentBits) (x y : Nat) : (f.order x y == some .lt) = (!nan f x && !nan f y && decide (wo f x < wo f y)) := by
  cases hx : nan f x
  · cases hy : nan f y
    · rw [order_some f hf x y hx hy, compare_int]
      (repeat' split) <;> simp <;> omega
    · rw [order_none f hf x y (.inr hy)]; rfl
  · rw [order_none f hf x y (.inl hx)]; rfl

theorem order_gtB (f : Format) (hf : 2 ≤ f.exponentBits) (x y : Nat) : (f.order x y == some .gt) = (!nan f x && !nan f y && decide (wo f y < wo f x)) := by
  cases hx : nan f x
  · cases hy : nan f y
    · rw [order_some f hf x y hx hy, compare_int]
      (repeat' split) <;> simp <;> omega
    · rw [order_none f hf x y (.inr hy)]; rfl
  · rw [order_none f hf x y (.inl hx)]; rfl

/-- the number of a rung that is told by a place and what is kept -/
theorem vl_mk (f : Format) (e K : Nat) (h1 : K < 2 * f.binade) (h2 : 0 < e → f.binade ≤ K) : vl f (e * f.binade + K) = K * 2 ^ e := by
  have hB := binade_pos f
  unfold vl
  generalize f.binade = B at *
  rcases Nat.eq_zero_or_pos e with he | he
  · subst he
    simp only [Nat.zero_mul, Nat.zero_add, Nat.pow_zero, Nat.mul_one]
    by_cases hk : K < B
    · rw [if_pos hk]
    · rw [if_neg hk]
      have e1 : K / B = 1 := by rw [Nat.div_eq_iff hB]; omega
      have e2 : K % B = K - B := by have := Nat.div_add_mod K B; rw [e1] at this; omega
      rw [e1, e2]; simp; omega
  · have hk := h2 he
    obtain ⟨j, rfl⟩ : ∃ j, K = B + j := ⟨K - B, by omega⟩
    have hj : j < B := by omega
    have e0 : e * B + (B + j) = B * (e + 1) + j := by rw [Nat.mul_add, Nat.mul_comm e B]; omega
    rw [e0, if_neg (by have : B ≤ B * (e + 1) := Nat.le_mul_of_pos_right _ (by omega); omega)]
    rw [Nat.mul_add_div hB, Nat.div_eq_of_lt hj, Nat.mul_add_mod, Nat.mod_eq_of_lt hj]
    simp

theorem cut_none (neg : Bool) (n : Nat) : Toward.even.cut neg n 0 = n := by
  unfold Toward.cut
  simp only [Nat.zero_min, Nat.shiftLeft_zero, Nat.div_one, Nat.mod_one]
  simp

theorem log2_le (m : Nat) (h : m ≠ 0) : 2 ^ m.log2 ≤ m := Nat.log2_self_le h

theorem lt_log2 (m : Nat) : m < 2 ^ (m.log2 + 1) := Nat.lt_log2_self

/-- a number that the format has just so, by a place that is not too high -/
theorem nearest_just (f : Format) (neg : Bool) (m : Nat) (q : Nat) (hm : m ≠ 0) (hl : m.log2 ≤ f.fractionBits) :
    ∃ r, f.nearest neg m (f.leastPlace + (q : Nat)) = f.word neg (min r f.infRung) ∧ vl f r = m * 2 ^ q ∧ r < (q + 2) * f.binade := by
  have h1 := log2_le m hm
  have h2 := lt_log2 m
  generalize hlg : m.log2 = l at *
  let d : Nat := min q (f.fractionBits - l)
  have hd : f.leastPlace + (q : Int) - max (f.leastPlace + (q : Int) + l - f.fractionBits) f.leastPlace = d := by
    show _ = ((min q (f.fractionBits - l) : Nat) : Int); omega
  have hlast : max (f.leastPlace + (q : Int) + l - f.fractionBits) f.leastPlace - f.leastPlace = (q - d : Nat) := by
    show _ = ((q - min q (f.fractionBits - l) : Nat) : Int); omega
  have hdq : d ≤ q := Nat.min_le_left _ _
  have hdl : d ≤ f.fractionBits - l := Nat.min_le_right _ _
  have hK1 : m * 2 ^ d < 2 * f.binade := by
    have e : 2 * f.binade = 2 ^ (l + 1) * 2 ^ (f.fractionBits - l) := by
      unfold Format.binade
      rw [← Nat.pow_add, Nat.mul_comm, ← Nat.pow_succ]
      congr 1
      omega
    rw [e]
    calc m * 2 ^ d < 2 ^ (l + 1) * 2 ^ d := Nat.mul_lt_mul_of_pos_right h2 (Nat.two_pow_pos _)
      _ ≤ _ := Nat.mul_le_mul_left _ (Nat.pow_le_pow_right (by omega) hdl)
  have hK2 : 0 < q - d → f.binade ≤ m * 2 ^ d := by
    intro hq
    have e : d = f.fractionBits - l := by
      show min q (f.fractionBits - l) = _
      have : d < q := by omega
      have : min q (f.fractionBits - l) < q := this
      omega
    have e2 : f.binade = 2 ^ l * 2 ^ d := by
      unfold Format.binade
      rw [← Nat.pow_add, e]; congr 1; omega
    rw [e2]
    exact Nat.mul_le_mul_right _ h1
  refine ⟨(q - d) * f.binade + m * 2 ^ d, ?_, ?_, ?_⟩
  · unfold Format.nearest
    rw [if_neg hm]
    simp only []
    have hz : max (f.leastPlace + (q : Int) + l - f.fractionBits) f.leastPlace - (f.leastPlace + (q : Int)) = -(d : Int) := by omega
    rw [hlg, hd, hlast, hz]
    have hz2 : (-(d : Int)).toNat = 0 := by omega
    rw [hz2, cut_none, Nat.shiftLeft_eq]
    simp
  · rw [vl_mk f _ _ hK1 hK2, Nat.mul_assoc, ← Nat.pow_add]
    congr 2; omega
  · have : (q - d) * f.binade ≤ q * f.binade := Nat.mul_le_mul_right _ (by omega)
    rw [Nat.add_mul]; omega

theorem rg_word (f : Format) (neg : Bool) (r : Nat) (h : r < f.signWeight) : rg f (f.word neg r) = r := by
  unfold rg Format.word
  split
  · rw [Nat.add_mod_left, Nat.mod_eq_of_lt h]
  · exact Nat.mod_eq_of_lt h

theorem ng_word (f : Format) (neg : Bool) (r : Nat) (h : r < f.signWeight) : ng f (f.word neg r) = neg := by
  have hp := signWeight_pos f
  unfold ng Format.word
  cases neg
  · simp [Nat.div_eq_of_lt h]
  · simp only [if_true]
    rw [Nat.add_div_left _ hp, Nat.div_eq_of_lt h]; rfl

theorem inf_lt_sign (f : Format) : f.infRung < f.signWeight := f.infRung_lt

theorem width_two (f : Format) : 2 ^ f.width = 2 * f.signWeight := by
  unfold Format.width Format.signWeight
  rw [Nat.add_assoc, Nat.add_comm 1, Nat.pow_succ, Nat.mul_comm]

/-- a word is its sign and its rung -/
theorem word_eq (f : Format) (x : Nat) (h : x < 2 ^ f.width) : x = f.word (ng f x) (rg f x) := by
  rw [width_two] at h
  have hp := signWeight_pos f
  have hd := Nat.div_add_mod x f.signWeight
  have hlt : x / f.signWeight < 2 := (Nat.div_lt_iff_lt_mul hp).2 h
  unfold Format.word ng rg
  generalize x / f.signWeight = q at *
  generalize x % f.signWeight = r at *
  generalize f.signWeight = S at *
  have hq : q = 0 ∨ q = 1 := by omega
  rcases hq with rfl | rfl <;> simp at * <;> omega

theorem word_inj (f : Format) (x y : Nat) (hx : x < 2 ^ f.width) (hy : y < 2 ^ f.width) (h1 : ng f x = ng f y) (h2 : rg f x = rg f y) : x = y := by
  rw [word_eq f x hx, word_eq f y hy, h1, h2]

/-- the sign turned -/
theorem xor_sign (f : Format) (x : Nat) (h : x < 2 ^ f.width) : rg f (x ^^^ f.signWeight) = rg f x ∧ ng f (x ^^^ f.signWeight) = !ng f x ∧ x ^^^ f.signWeight < 2 ^ f.width := by
  have hr : rg f x < f.signWeight := Nat.mod_lt _ (signWeight_pos f)
  have e : x ^^^ f.signWeight = f.word (!ng f x) (rg f x) := by
    conv => lhs; rw [word_eq f x h]
    generalize rg f x = r at *
    have hS : f.signWeight = 2 ^ (f.exponentBits + f.fractionBits) := rfl
    unfold Format.word
    rw [hS] at hr ⊢
    generalize f.exponentBits + f.fractionBits = n at *
    have hadd : 2 ^ n + r = 2 ^ n ^^^ r := by
      have := Nat.two_pow_add_eq_or_of_lt hr 1
      rw [Nat.mul_one] at this
      rw [this]
      apply Nat.eq_of_testBit_eq
      intro i
      rw [Nat.testBit_or, Nat.testBit_xor, Nat.testBit_two_pow]
      by_cases hi : n = i
      · subst hi; rw [Nat.testBit_lt_two_pow hr]; simp
      · simp [hi]
    cases ng f x
    · simp only [Bool.not_false, if_true, Bool.false_eq_true, if_false]
      rw [hadd, Nat.xor_comm]
    · simp only [Bool.not_true, if_true, Bool.false_eq_true, if_false]
      rw [hadd, Nat.xor_comm, ← Nat.xor_assoc, Nat.xor_self, Nat.zero_xor]
  rw [e]
  exact ⟨rg_word f _ _ hr, ng_word f _ _ hr, f.word_lt _ hr⟩


theorem okF (k : FloatKind) : 2 ≤ k.format.exponentBits := by cases k <;> decide

/-- a float's rung, its sign, whether it is no number, where it stands -/
def rgK (k : FloatKind) (x : Nat) : Nat := rg k.format x
def ngK (k : FloatKind) (x : Nat) : Bool := ng k.format x
def nanK (k : FloatKind) (x : Nat) : Bool := nan k.format x
def woK (k : FloatKind) (x : Nat) : Int := wo k.format x
/-- the words of a kind -/
def okK (k : FloatKind) (x : Nat) : Prop := x < 2 ^ k.format.width
/-- the rung of infinity -/
def infK (k : FloatKind) : Nat := k.format.infRung
/-- finite -/
def finK (k : FloatKind) (x : Nat) : Bool := decide (rgK k x < infK k)
/-- the same -/
def smK (k : FloatKind) (x y : Nat) : Bool := (nanK k x && nanK k y) || (!nanK k x && !nanK k y && decide (x = y))
/-- minus nought -/
def mzK (k : FloatKind) (x : Nat) : Bool := decide (rgK k x = 0) && ngK k x
/-- less, as Go compares -/
def ltK (k : FloatKind) (x y : Nat) : Bool := !nanK k x && !nanK k y && decide (woK k x < woK k y)
/-- equal, as Go compares -/
def eqK (k : FloatKind) (x y : Nat) : Bool := !nanK k x && !nanK k y && decide (woK k x = woK k y)
/-- at most, as Go compares -/
def leK (k : FloatKind) (x y : Nat) : Bool := !nanK k x && !nanK k y && decide (woK k x ≤ woK k y)

theorem nanK_eq (k : FloatKind) (x : Nat) : nanK k x = decide (infK k < rgK k x) := rfl
theorem woK_eq (k : FloatKind) (x : Nat) : woK k x = if ngK k x then -(rgK k x : Int) else (rgK k x : Int) := rfl

theorem inf64 : infK .f64 = 9218868437227405312 := by decide +kernel
theorem inf32 : infK .f32 = 2139095040 := by decide +kernel
theorem sign64 : FloatKind.f64.format.signWeight = 9223372036854775808 := by decide +kernel
theorem sign32 : FloatKind.f32.format.signWeight = 2147483648 := by decide +kernel
theorem width64 : 2 ^ FloatKind.f64.format.width = 18446744073709551616 := by decide +kernel
theorem width32 : 2 ^ FloatKind.f32.format.width = 4294967296 := by decide +kernel
theorem okK64 {x : Nat} : okK .f64 x ↔ x < 18446744073709551616 := by unfold okK; rw [width64]
theorem okK32 {x : Nat} : okK .f32 x ↔ x < 4294967296 := by unfold okK; rw [width32]
theorem rg64 (x : Nat) : rgK .f64 x = x % 9223372036854775808 := by unfold rgK rg; rw [sign64]
theorem ng64 (x : Nat) : ngK .f64 x = (x / 9223372036854775808 % 2 == 1) := by unfold ngK ng; rw [sign64]

theorem cmp_eq (k : FloatKind) (x y : Nat) : (k.format.order x y == some .eq) = eqK k x y := order_eqB _ (okF k) x y
theorem cmp_ne (k : FloatKind) (x y : Nat) : (k.format.order x y != some .eq) = !eqK k x y := congrArg (!·) (cmp_eq k x y)
theorem cmp_lt (k : FloatKind) (x y : Nat) : (k.format.order x y == some .lt) = ltK k x y := order_ltB _ (okF k) x y
theorem cmp_gt (k : FloatKind) (x y : Nat) : (k.format.order x y == some .gt) = ltK k y x := by
  rw [order_gtB _ (okF k) x y]; unfold ltK nanK woK; cases nan k.format x <;> cases nan k.format y <;> rfl
theorem cmp_le (k : FloatKind) (x y : Nat) : (k.format.order x y == some .lt || k.format.order x y == some .eq) = leK k x y := by
  rw [cmp_lt, cmp_eq]
  unfold ltK eqK leK
  cases nanK k x <;> cases nanK k y <;> simp <;> (rw [Bool.eq_iff_iff]; simp; omega)
theorem cmp_ge (k : FloatKind) (x y : Nat) : (k.format.order x y == some .gt || k.format.order x y == some .eq) = leK k y x := by
  rw [cmp_gt, cmp_eq]
  unfold ltK eqK leK
  cases nanK k x <;> cases nanK k y <;> simp <;> (rw [Bool.eq_iff_iff]; simp; omega)

theorem eqK_self (k : FloatKind) (x : Nat) : eqK k x x = !nanK k x := by unfold eqK; cases nanK k x <;> simp

theorem nought_rg (k : FloatKind) : rgK k 0 = 0 := by unfold rgK rg; exact Nat.zero_mod _
theorem nought_ng (k : FloatKind) : ngK k 0 = false := by unfold ngK ng; simp
theorem nought_nan (k : FloatKind) : nanK k 0 = false := by rw [nanK_eq, nought_rg]; simp
theorem nought_wo (k : FloatKind) : woK k 0 = 0 := by rw [woK_eq, nought_rg, nought_ng]; rfl

theorem wo_zero (k : FloatKind) (x : Nat) : woK k x = 0 ↔ rgK k x = 0 := by rw [woK_eq]; split <;> omega

theorem rg_zero_nan (k : FloatKind) (x : Nat) (h : rgK k x = 0) : nanK k x = false := by rw [nanK_eq, h]; simp

/-- equal to nought -/
theorem eqK_nought (k : FloatKind) (x : Nat) : eqK k x 0 = decide (rgK k x = 0) := by
  unfold eqK
  rw [nought_nan, nought_wo]
  by_cases h : rgK k x = 0
  · simp [h, rg_zero_nan k x h, wo_zero]
  · simp [h, wo_zero]

/-- what an operation gives: the nearest float; or no number, whichever -/
def resK (op : BinOp) (k : FloatKind) (x y r : Nat) : Prop := okK k r ∧ (floatBits op k x y = some r ∨ (floatBits op k x y = none ∧ nanK k r = true))

/-- the value and the number of draws of an operation in a world -/
def fv (op : BinOp) (k : FloatKind) (x y : Nat) (w : World) : Nat := (floatBits op k x y).getD ((Question.nanBits k x y).cut (w.tape w.drawn (.nanBits k x y)))
def fd (op : BinOp) (k : FloatKind) (x y : Nat) : Nat := if (floatBits op k x y).isSome then 0 else 1

theorem cut_nan (k : FloatKind) (x y t : Nat) : okK k ((Question.nanBits k x y).cut t) ∧ nanK k ((Question.nanBits k x y).cut t) = true := by
  cases k
  · have e : (Question.nanBits .f32 x y).cut t = t % 2 * 2 ^ 31 + 0x7f800000 + 1 + t / 2 % (2 ^ 23 - 1) := rfl
    rw [e, okK32, nanK_eq, inf32]
    have h1 : t % 2 < 2 := Nat.mod_lt _ (by omega)
    have h2 : t / 2 % (2 ^ 23 - 1) < 2 ^ 23 - 1 := Nat.mod_lt _ (by omega)
    generalize t / 2 % (2 ^ 23 - 1) = c at *
    generalize t % 2 = b at *
    refine ⟨by omega, ?_⟩
    unfold rgK rg
    rw [sign32]
    simp only [decide_eq_true_eq]
    omega
  · have e : (Question.nanBits .f64 x y).cut t = t % 2 * 2 ^ 63 + 0x7ff0000000000000 + 1 + t / 2 % (2 ^ 52 - 1) := rfl
    rw [e, okK64, nanK_eq, inf64]
    have h1 : t % 2 < 2 := Nat.mod_lt _ (by omega)
    have h2 : t / 2 % (2 ^ 52 - 1) < 2 ^ 52 - 1 := Nat.mod_lt _ (by omega)
    generalize t / 2 % (2 ^ 52 - 1) = c at *
    generalize t % 2 = b at *
    refine ⟨by omega, ?_⟩
    rw [rg64]
    simp only [decide_eq_true_eq]
    omega

theorem floatBits_ok {op : BinOp} {k : FloatKind} {x y r : Nat} (h : floatBits op k x y = some r) : okK k r := by
  unfold floatBits at h
  unfold okK
  split at h
  · exact k.format.add_lt h
  · exact k.format.sub_lt h
  · exact k.format.mul_lt h
  · exact k.format.div_lt h
  · cases h

theorem fv_res (op : BinOp) (k : FloatKind) (x y : Nat) (w : World) : resK op k x y (fv op k x y w) := by
  unfold resK fv
  cases h : floatBits op k x y with
  | none => exact ⟨(cut_nan k x y _).1, .inr ⟨rfl, (cut_nan k x y _).2⟩⟩
  | some r => exact ⟨floatBits_ok h, .inl rfl⟩

theorem run_fl (P : Program) (op : BinOp) (hop : op = .add ∨ op = .sub ∨ op = .mul ∨ op = .quo) (t : TypeId) (k : FloatKind) (x y : Nat) (w : World) :
    (binOp op t (.float k x) (.float k y)).run P w = .ok (.float k (fv op k x y w)) (w.drewN (fd op k x y)) := by
  unfold fv fd
  cases h : floatBits op k x y with
  | some r => rw [run_float_arith w op t k x y r h]; rfl
  | none =>
    rcases hop with rfl | rfl | rfl | rfl <;> simp only [floatBits] at h <;> simp only [binOp, Op.floatArith, h, ne_eq, not_true_eq_false, if_false] <;> rfl

theorem run_add (P : Program) (t : TypeId) (k : FloatKind) (x y : Nat) (w : World) : (binOp .add t (.float k x) (.float k y)).run P w = .ok (.float k (fv .add k x y w)) (w.drewN (fd .add k x y)) := run_fl P _ (.inl rfl) t k x y w
theorem run_sub (P : Program) (t : TypeId) (k : FloatKind) (x y : Nat) (w : World) : (binOp .sub t (.float k x) (.float k y)).run P w = .ok (.float k (fv .sub k x y w)) (w.drewN (fd .sub k x y)) := run_fl P _ (.inr (.inl rfl)) t k x y w
theorem run_mul (P : Program) (t : TypeId) (k : FloatKind) (x y : Nat) (w : World) : (binOp .mul t (.float k x) (.float k y)).run P w = .ok (.float k (fv .mul k x y w)) (w.drewN (fd .mul k x y)) := run_fl P _ (.inr (.inr (.inl rfl))) t k x y w
theorem run_quo (P : Program) (t : TypeId) (k : FloatKind) (x y : Nat) (w : World) : (binOp .quo t (.float k x) (.float k y)).run P w = .ok (.float k (fv .quo k x y w)) (w.drewN (fd .quo k x y)) := run_fl P _ (.inr (.inr (.inr rfl))) t k x y w


/-- one -/
def oneK : FloatKind → Nat
  | .f32 => 1065353216
  | .f64 => 4607182418800017408

theorem one_read (k : FloatKind) : ∃ m p, m ≠ 0 ∧ k.format.read (oneK k) = .number false m p := by
  cases k
  · exact ⟨8388608, -23, by decide, by decide +kernel⟩
  · exact ⟨4503599627370496, -52, by decide, by decide +kernel⟩

theorem ngK_word (k : FloatKind) (s : Bool) (r : Nat) (h : r ≤ infK k) : ngK k (k.format.word s r) = s := ng_word _ _ _ (Nat.lt_of_le_of_lt h (inf_lt_sign _))
theorem rgK_word (k : FloatKind) (s : Bool) (r : Nat) (h : r ≤ infK k) : rgK k (k.format.word s r) = r := rg_word _ _ _ (Nat.lt_of_le_of_lt h (inf_lt_sign _))

theorem infK_pos (k : FloatKind) : 0 < infK k := Nat.lt_of_lt_of_le (binade_pos _) (binade_le_inf _ (okF k))

/-- one over a nought is an infinity of its sign -/
theorem one_over (k : FloatKind) (x : Nat) (h : rgK k x = 0) : floatBits .quo k (oneK k) x = some (k.format.word (ngK k x) (infK k)) := by
  obtain ⟨m, p, hm, e1⟩ := one_read k
  obtain ⟨m', p', e2, hv⟩ := read_num k.format x (by rw [show rg k.format x = 0 from h]; exact infK_pos k)
  have hm' : m' = 0 := by
    rw [show rg k.format x = 0 from h, vl_zero] at hv
    rcases Nat.mul_eq_zero.1 hv with h | h
    · exact h
    · exact absurd h (Nat.ne_of_gt (Nat.two_pow_pos _))
  subst hm'
  show (((k.format.read (oneK k)).quotient _ (k.format.read x)).map _) = _
  rw [e1, e2]
  simp [Datum.quotient, hm, Format.write, infK, ngK]

theorem mz_of (k : FloatKind) (x : Nat) (w : World) (h : rgK k x = 0) : ltK k (fv .quo k (oneK k) x w) 0 = ngK k x := by
  unfold fv
  rw [one_over k x h, Option.getD_some]
  have hi := infK_pos k
  unfold ltK
  rw [nought_nan, nought_wo, nanK_eq, woK_eq, ngK_word k _ _ (Nat.le_refl _), rgK_word k _ _ (Nat.le_refl _)]
  cases ngK k x <;> simp <;> omega

theorem quo_one_draws (k : FloatKind) (x : Nat) (h : rgK k x = 0) : fd .quo k (oneK k) x = 0 := by
  unfold fd; rw [one_over k x h]; rfl

/-- a float less itself is nought just where it is finite -/
theorem self_sub (k : FloatKind) (x : Nat) (w : World) : eqK k (fv .sub k x x w) 0 = finK k x := by
  have hres := fv_res .sub k x x w
  by_cases h : rgK k x < infK k
  · obtain ⟨m, p, e, hv⟩ := read_num k.format x h
    have hs : floatBits .sub k x x = some 0 := by
      show (((k.format.read x).sum (k.format.read x).opposite).map _) = _
      rw [e]
      have hz : ∀ s, signed s m (k.format.leastPlace + (p : Int) - min (k.format.leastPlace + (p : Int)) (k.format.leastPlace + (p : Int))).toNat + signed (!s) m (k.format.leastPlace + (p : Int) - min (k.format.leastPlace + (p : Int)) (k.format.leastPlace + (p : Int))).toNat = 0 := by
        intro s; cases s <;> simp [signed] <;> omega
      simp only [Datum.opposite, Datum.sum, hz, Option.map_some, if_true, Bool.and_not_self, Format.write, Format.nearest, Int.natAbs_zero]
      rfl
    unfold fv
    rw [hs, Option.getD_some, eqK_nought, nought_rg]
    simp [finK, h]
  · have hn : floatBits .sub k x x = none := by
      show (((k.format.read x).sum (k.format.read x).opposite).map _) = _
      by_cases hi : rgK k x = infK k
      · rw [read_inf k.format (okF k) x hi]
        cases ng k.format x <;> rfl
      · rw [read_nan k.format (okF k) x (by unfold nan; rw [decide_eq_true_eq]; show infK k < rgK k x; omega)]
        rfl
    rw [resK, hn] at hres
    obtain ⟨_, h1 | ⟨_, h2⟩⟩ := hres
    · cases h1
    · unfold eqK; rw [h2]; simp [finK, h]

/-- how much finer the least place of 64 bits is -/
def wex : Nat := 925
def wsc : Nat := 2 ^ wex
theorem wsc_pos : 0 < wsc := Nat.two_pow_pos _

/-- of a float of 32 bits one of 64 that is as great -/
def Wid (x X : Nat) : Prop := okK .f64 X ∧ nanK .f64 X = nanK .f32 x ∧ (nanK .f32 x = false → ngK .f64 X = ngK .f32 x ∧ ((rgK .f32 x < infK .f32 ∧ rgK .f64 X < infK .f64 ∧ vl FloatKind.f64.format (rgK .f64 X) = vl FloatKind.f32.format (rgK .f32 x) * wsc) ∨ (rgK .f32 x = infK .f32 ∧ rgK .f64 X = infK .f64)))

def wv (x : Nat) (w : World) : Nat := (floatToFloatBits .f32 x .f64).getD ((Question.nanConv .f64 x).cut (w.tape w.drawn (.nanConv .f64 x)))
def wd (x : Nat) : Nat := if (floatToFloatBits .f32 x .f64).isSome then 0 else 1

theorem read_num32 (x : Nat) (h : rgK .f32 x < infK .f32) : ∃ m p, FloatKind.f32.format.read x = .number (ngK .f32 x) m (FloatKind.f32.format.leastPlace + (p : Nat)) ∧ m * 2 ^ p = vl FloatKind.f32.format (rgK .f32 x) ∧ m < 2 ^ 24 ∧ p ≤ 253 := by
  have hi : rgK .f32 x < 2139095040 := by rw [inf32] at h; exact h
  unfold Format.read
  simp only []
  have hb : FloatKind.f32.format.binade = 8388608 := by decide +kernel
  show ∃ m p, (if rgK .f32 x < FloatKind.f32.format.binade then _ else if rgK .f32 x < infK .f32 then _ else _) = _ ∧ _
  by_cases h1 : rgK .f32 x < FloatKind.f32.format.binade
  · rw [if_pos h1]
    exact ⟨rgK .f32 x, 0, by simp [ngK, ng, rgK, rg], by unfold vl; rw [if_pos h1]; simp, by omega, by omega⟩
  · rw [if_neg h1, if_pos h]
    refine ⟨_, _, rfl, by unfold vl; rw [if_neg h1]; rfl, ?_, ?_⟩
    · show FloatKind.f32.format.binade + rgK .f32 x % FloatKind.f32.format.binade < _
      rw [hb]; omega
    · show rgK .f32 x / FloatKind.f32.format.binade - 1 ≤ 253
      rw [hb]; omega

theorem wide_num (x : Nat) (h : rgK .f32 x < infK .f32) : ∃ X, floatToFloatBits .f32 x .f64 = some X ∧ okK .f64 X ∧ ngK .f64 X = ngK .f32 x ∧ rgK .f64 X < infK .f64 ∧ vl FloatKind.f64.format (rgK .f64 X) = vl FloatKind.f32.format (rgK .f32 x) * wsc := by
  obtain ⟨m, p, e, hv, hm, hp⟩ := read_num32 x h
  have hX : ∃ r, r < infK .f64 ∧ FloatKind.f64.format.nearest (ngK .f32 x) m (FloatKind.f32.format.leastPlace + (p : Nat)) = FloatKind.f64.format.word (ngK .f32 x) r ∧ vl FloatKind.f64.format r = m * 2 ^ (p + wex) := by
    by_cases hm0 : m = 0
    · subst hm0
      exact ⟨0, infK_pos _, by unfold Format.nearest; rw [if_pos rfl], by rw [vl_zero, Nat.zero_mul]⟩
    · have hl : m.log2 ≤ FloatKind.f64.format.fractionBits := by
        have : m.log2 < 24 := (Nat.log2_lt hm0).2 hm
        have e : FloatKind.f64.format.fractionBits = 52 := rfl
        omega
      have hpl : FloatKind.f32.format.leastPlace + (p : Nat) = FloatKind.f64.format.leastPlace + ((p + wex : Nat) : Int) := by
        have e1 : FloatKind.f32.format.leastPlace = -149 := by decide +kernel
        have e2 : FloatKind.f64.format.leastPlace = -1074 := by decide +kernel
        have e3 : wex = 925 := rfl
        rw [e1, e2, e3]; omega
      obtain ⟨r, h1, h2, h3⟩ := nearest_just FloatKind.f64.format (ngK .f32 x) m (p + wex) hm0 hl
      have hb : FloatKind.f64.format.binade = 4503599627370496 := by decide +kernel
      have hr : r < infK .f64 := by
        have e3 : wex = 925 := rfl
        have h4 : p + wex + 2 ≤ 1180 := by omega
        have h5 : (p + wex + 2) * FloatKind.f64.format.binade ≤ 1180 * FloatKind.f64.format.binade := Nat.mul_le_mul_right _ h4
        have h6 := Nat.lt_of_lt_of_le h3 h5
        rw [hb] at h6
        rw [inf64]
        omega
      refine ⟨r, hr, ?_, h2⟩
      rw [hpl, h1]
      congr 1
      exact Nat.min_eq_left (Nat.le_of_lt hr)
  obtain ⟨r, hr, h1, h2⟩ := hX
  refine ⟨FloatKind.f64.format.word (ngK .f32 x) r, ?_, ?_, ngK_word .f64 _ _ (Nat.le_of_lt hr), ?_, ?_⟩
  · unfold floatToFloatBits
    rw [if_neg (by decide)]
    have e' : FloatKind.f32.decode x = .number (ngK .f32 x) m (FloatKind.f32.format.leastPlace + (p : Nat)) := e
    rw [e']
    have e2 : FloatKind.f64.encode (.number (ngK .f32 x) m (FloatKind.f32.format.leastPlace + (p : Nat))) = FloatKind.f64.format.word (ngK .f32 x) r := h1
    simp only [e2]
    obtain ⟨a, b, e3, _⟩ := read_num FloatKind.f64.format (FloatKind.f64.format.word (ngK .f32 x) r) (by show rgK .f64 _ < infK .f64; rw [rgK_word .f64 _ _ (Nat.le_of_lt hr)]; exact hr)
    have e4 : FloatKind.f64.decode (FloatKind.f64.format.word (ngK .f32 x) r) = _ := e3
    rw [e4]
    rfl
  · exact FloatKind.f64.format.word_lt _ (Nat.lt_trans hr (inf_lt_sign _))
  · rw [rgK_word .f64 _ _ (Nat.le_of_lt hr)]; exact hr
  · rw [rgK_word .f64 _ _ (Nat.le_of_lt hr), h2, ← hv, wsc, Nat.mul_assoc, ← Nat.pow_add]

theorem wv_wid (x : Nat) (w : World) : Wid x (wv x w) := by
  unfold Wid wv
  by_cases h : rgK .f32 x < infK .f32
  · obtain ⟨X, e, h1, h2, h3, h4⟩ := wide_num x h
    rw [e, Option.getD_some]
    have n1 : nanK .f32 x = false := by rw [nanK_eq]; simp; omega
    have n2 : nanK .f64 X = false := by rw [nanK_eq]; simp; omega
    exact ⟨h1, by rw [n1, n2], fun _ => ⟨h2, .inl ⟨h, h3, h4⟩⟩⟩
  · by_cases hi : rgK .f32 x = infK .f32
    · have e : floatToFloatBits .f32 x .f64 = some (FloatKind.f64.format.word (ngK .f32 x) (infK .f64)) := by
        unfold floatToFloatBits
        rw [if_neg (by decide)]
        have e' : FloatKind.f32.decode x = .infinity (ngK .f32 x) := read_inf _ (okF _) x hi
        rw [e']; rfl
      rw [e, Option.getD_some]
      have n1 : nanK .f32 x = false := by rw [nanK_eq]; simp; omega
      have hg := rgK_word .f64 (ngK .f32 x) _ (Nat.le_refl (infK .f64))
      have n2 : nanK .f64 (FloatKind.f64.format.word (ngK .f32 x) (infK .f64)) = false := by rw [nanK_eq, hg]; simp
      exact ⟨FloatKind.f64.format.word_lt _ (inf_lt_sign _), by rw [n1, n2], fun _ => ⟨ngK_word .f64 _ _ (Nat.le_refl _), .inr ⟨hi, hg⟩⟩⟩
    · have n1 : nanK .f32 x = true := by rw [nanK_eq]; simp; omega
      have e : floatToFloatBits .f32 x .f64 = none := by
        unfold floatToFloatBits
        rw [if_neg (by decide)]
        have e' : FloatKind.f32.decode x = .nan _ _ := read_nan _ (okF _) x n1
        rw [e']
      rw [e, Option.getD_none]
      have hc := cut_nan .f64 0 0 (w.tape w.drawn (.nanConv .f64 x))
      refine ⟨hc.1, ?_, fun h => ?_⟩
      · rw [n1]; exact hc.2
      · rw [n1] at h; cases h

theorem run_wide (P : Program) (src dst : TypeId) (x : Nat) (w : World) (hs : P.underlying src = some (.float .f32)) (hd : P.underlying dst = some (.float .f64)) :
    (convert src dst (.float .f32 x)).run P w = .ok (.float .f64 (wv x w)) (w.drewN (wd x)) := by
  unfold wv wd
  cases h : floatToFloatBits .f32 x .f64 with
  | some r => rw [run_convert_float_float w src dst .f32 .f64 x r (by rw [hs]; rfl) hd h]; rfl
  | none =>
    unfold floatToFloatBits at h
    rw [if_neg (by decide)] at h
    have hn : ∃ a b, FloatKind.f32.decode x = .nan a b := by
      split at h
      · exact ⟨_, _, by assumption⟩
      · cases h
      · rename_i s m e hh
        exfalso
        by_cases hr : rgK .f32 x < infK .f32
        · obtain ⟨X, hX, _⟩ := wide_num x hr
          unfold floatToFloatBits at hX
          rw [if_neg (by decide), hh] at hX
          simp only [] at hX
          rw [hX] at h; cases h
        · have hh' : FloatKind.f32.format.read x = .number s m e := hh
          by_cases hi : rgK .f32 x = infK .f32
          · rw [read_inf _ (okF .f32) x hi] at hh'; cases hh'
          · rw [read_nan _ (okF .f32) x (by show nanK .f32 x = true; rw [nanK_eq]; simp; omega)] at hh'; cases hh'
    obtain ⟨a, b, hn⟩ := hn
    simp [convert, run_underlying hs, run_underlying hd, Conv.floatToFloat, hn]
    rfl


theorem wid_ng {x X : Nat} (h : Wid x X) (hn : nanK .f32 x = false) : ngK .f64 X = ngK .f32 x := (h.2.2 hn).1
theorem wid_nan {x X : Nat} (h : Wid x X) : nanK .f64 X = nanK .f32 x := h.2.1
theorem wid_ok {x X : Nat} (h : Wid x X) : okK .f64 X := h.1
theorem wid_fin {x X : Nat} (h : Wid x X) : finK .f64 X = finK .f32 x := by
  unfold finK
  cases hn : nanK .f32 x
  · rcases (h.2.2 hn).2 with ⟨h1, h2, _⟩ | ⟨h1, h2⟩
    · simp [h1, h2]
    · rw [h1, h2]; simp
  · have h2 := h.2.1
    rw [hn] at h2
    rw [nanK_eq] at hn h2
    simp only [decide_eq_true_eq] at hn h2
    simp; omega

theorem wid_rg {x X y Y : Nat} (hx : Wid x X) (hy : Wid y Y) (nx : nanK .f32 x = false) (ny : nanK .f32 y = false) : (rgK .f64 X < rgK .f64 Y ↔ rgK .f32 x < rgK .f32 y) := by
  rcases (hx.2.2 nx).2 with ⟨h1, h2, h3⟩ | ⟨h1, h2⟩
  · rcases (hy.2.2 ny).2 with ⟨g1, g2, g3⟩ | ⟨g1, g2⟩
    · rw [← vl_lt_iff FloatKind.f64.format, h3, g3, Nat.mul_lt_mul_right wsc_pos, vl_lt_iff]
    · omega
  · rcases (hy.2.2 ny).2 with ⟨g1, g2, g3⟩ | ⟨g1, g2⟩ <;> omega

theorem wid_nought {x X : Nat} (hx : Wid x X) (nx : nanK .f32 x = false) : (rgK .f64 X = 0 ↔ rgK .f32 x = 0) := by
  have p1 := infK_pos .f32
  have p2 := infK_pos .f64
  rcases (hx.2.2 nx).2 with ⟨h1, h2, h3⟩ | ⟨h1, h2⟩
  · constructor
    · intro h
      rw [h, vl_zero] at h3
      have := wsc_pos
      have h4 : vl FloatKind.f32.format (rgK .f32 x) = 0 := by
        rcases Nat.mul_eq_zero.1 h3.symm with h | h
        · exact h
        · omega
      rw [← vl_zero FloatKind.f32.format] at h4
      exact vl_inj _ h4
    · intro h
      rw [h, vl_zero, Nat.zero_mul, ← vl_zero FloatKind.f64.format] at h3
      exact vl_inj _ h3
  · omega

theorem wid_wo {x X y Y : Nat} (hx : Wid x X) (hy : Wid y Y) (nx : nanK .f32 x = false) (ny : nanK .f32 y = false) : (woK .f64 X < woK .f64 Y ↔ woK .f32 x < woK .f32 y) := by
  have h1 := wid_rg hx hy nx ny
  have h2 := wid_rg hy hx ny nx
  have h3 := wid_nought hx nx
  have h4 := wid_nought hy ny
  simp only [woK_eq, wid_ng hx nx, wid_ng hy ny]
  cases ngK .f32 x <;> cases ngK .f32 y <;> simp only [Bool.false_eq_true, if_false, if_true] <;> omega

theorem wid_lt {x X y Y : Nat} (hx : Wid x X) (hy : Wid y Y) : ltK .f64 X Y = ltK .f32 x y := by
  unfold ltK
  rw [hx.2.1, hy.2.1]
  cases nx : nanK .f32 x <;> cases ny : nanK .f32 y <;> simp
  rw [wid_wo hx hy nx ny]

theorem wid_le {x X y Y : Nat} (hx : Wid x X) (hy : Wid y Y) : leK .f64 X Y = leK .f32 x y := by
  unfold leK
  rw [hx.2.1, hy.2.1]
  cases nx : nanK .f32 x <;> cases ny : nanK .f32 y <;> simp
  have := wid_wo hy hx ny nx
  omega

theorem wid_eq {x X y Y : Nat} (hx : Wid x X) (hy : Wid y Y) : eqK .f64 X Y = eqK .f32 x y := by
  unfold eqK
  rw [hx.2.1, hy.2.1]
  cases nx : nanK .f32 x <;> cases ny : nanK .f32 y <;> simp
  have := wid_wo hx hy nx ny
  have := wid_wo hy hx ny nx
  omega

/-- two words are one where their signs and rungs are -/
theorem same_iff (k : FloatKind) (x y : Nat) (hx : okK k x) (hy : okK k y) : x = y ↔ ngK k x = ngK k y ∧ rgK k x = rgK k y :=
  ⟨fun h => by subst h; exact ⟨rfl, rfl⟩, fun h => word_inj k.format x y hx hy h.1 h.2⟩

theorem wid_sm {x X y Y : Nat} (hx : Wid x X) (hy : Wid y Y) (ox : okK .f32 x) (oy : okK .f32 y) : smK .f64 X Y = smK .f32 x y := by
  unfold smK
  rw [hx.2.1, hy.2.1]
  cases nx : nanK .f32 x <;> cases ny : nanK .f32 y <;> simp
  rw [same_iff .f64 X Y hx.1 hy.1, same_iff .f32 x y ox oy, wid_ng hx nx, wid_ng hy ny]
  have h1 := wid_rg hx hy nx ny
  have h2 := wid_rg hy hx ny nx
  have : (rgK .f64 X = rgK .f64 Y ↔ rgK .f32 x = rgK .f32 y) := by omega
  rw [this]

/-- the same: by '==' and by which nought it is -/
theorem smK_of (k : FloatKind) (x y : Nat) (hx : okK k x) (hy : okK k y) (nx : nanK k x = false) (ny : nanK k y = false) : smK k x y = (eqK k x y && (mzK k x == mzK k y)) := by
  unfold smK eqK mzK
  rw [nx, ny, Bool.eq_iff_iff]
  have h := same_iff k x y hx hy
  simp only [Bool.false_and, Bool.not_false, Bool.true_and, Bool.false_or, decide_eq_true_eq, h, Bool.and_eq_true]
  simp only [woK_eq]
  cases ngK k x <;> cases ngK k y <;> simp <;> omega

theorem smK_nan_l (k : FloatKind) (x y : Nat) (nx : nanK k x = true) : smK k x y = nanK k y := by unfold smK; rw [nx]; simp
theorem smK_nan_r (k : FloatKind) (x y : Nat) (ny : nanK k y = true) : smK k x y = nanK k x := by unfold smK; rw [ny]; simp
theorem smK_self (k : FloatKind) (x : Nat) : smK k x x = true := by unfold smK; cases nanK k x <;> simp

/-- no number, by its bits -/
theorem nan_bits (b : Nat) (h : okK .f64 b) : nanK .f64 b = (decide (bits .and .u64 ((b : Int) / 4503599627370496) 2047 = 2047) && (IntKind.u64.wrap ((b : Int) * 4096) != 0)) := by
  rw [okK64] at h
  have e1 : bits .and .u64 ((b : Int) / 4503599627370496) 2047 = ((b / 4503599627370496 % 2048 : Nat) : Int) := by
    have := u64_and_nat (b / 4503599627370496) 2047 (by omega) (by omega)
    rw [show (((b / 4503599627370496 : Nat)) : Int) = (b : Int) / 4503599627370496 from by omega] at this
    rw [show ((2047 : Nat) : Int) = 2047 from rfl] at this
    rw [this, show (2047 : Nat) = 2 ^ 11 - 1 from rfl, Nat.and_two_pow_sub_one_eq_mod]
  have e2 : IntKind.u64.wrap ((b : Int) * 4096) = (b : Int) * 4096 % 18446744073709551616 := by simp [IntKind.wrap, IntKind.bits, IntKind.signed]
  rw [e1, e2, nanK_eq, inf64, rg64, Bool.eq_iff_iff]
  simp only [decide_eq_true_eq, Bool.and_eq_true, bne_iff_ne, ne_eq]
  omega

theorem fin_bits (b : Nat) (h : okK .f64 b) : finK .f64 b = decide (bits .and .u64 ((b : Int) / 4503599627370496) 2047 < 2047) := by
  rw [okK64] at h
  have e1 : bits .and .u64 ((b : Int) / 4503599627370496) 2047 = ((b / 4503599627370496 % 2048 : Nat) : Int) := by
    have := u64_and_nat (b / 4503599627370496) 2047 (by omega) (by omega)
    rw [show (((b / 4503599627370496 : Nat)) : Int) = (b : Int) / 4503599627370496 from by omega] at this
    rw [show ((2047 : Nat) : Int) = 2047 from rfl] at this
    rw [this, show (2047 : Nat) = 2 ^ 11 - 1 from rfl, Nat.and_two_pow_sub_one_eq_mod]
  rw [e1]
  unfold finK
  rw [inf64, rg64, Bool.eq_iff_iff]
  simp only [decide_eq_true_eq]
  omega


/-- what the package's functions give, by rungs and signs -/
def clK (k : FloatKind) (a lo hi : Nat) : Nat := if ltK k lo a = false then lo else if ltK k hi a then hi else a
def leastK (k : FloatKind) (a b : Nat) : Nat := if nanK k a || ltK k b a || mzK k b && decide (rgK k a = 0) then b else a
def mostK (k : FloatKind) (a b : Nat) : Nat := if nanK k a || ltK k a b || mzK k a && decide (rgK k b = 0) then b else a
def sgK (k : FloatKind) (a : Nat) : Int := if ltK k 0 a then 1 else if ltK k a 0 then -1 else 0
def aheadK (a b : Nat) : Bool := if nanK .f64 a || nanK .f64 b then nanK .f64 a else ltK .f64 a b || eqK .f64 a b && mzK .f64 a
def ordK (a b : Nat) : Int := if smK .f64 a b then 0 else if aheadK a b then -1 else 1
def withinK (k : FloatKind) (a m : Nat) : Bool := leK k (Op.negFloat k m) a && leK k a m
def bitsK (a : Nat) : Nat := if nanK .f64 a then 9221120237041090560 else a

theorem neg_facts (k : FloatKind) (x : Nat) (h : okK k x) : rgK k (Op.negFloat k x) = rgK k x ∧ ngK k (Op.negFloat k x) = !ngK k x ∧ okK k (Op.negFloat k x) := xor_sign k.format x h
theorem neg_nan (k : FloatKind) (x : Nat) (h : okK k x) : nanK k (Op.negFloat k x) = nanK k x := by rw [nanK_eq, nanK_eq, (neg_facts k x h).1]
theorem neg_wo (k : FloatKind) (x : Nat) (h : okK k x) : woK k (Op.negFloat k x) = -woK k x := by
  obtain ⟨h1, h2, _⟩ := neg_facts k x h
  rw [woK_eq, woK_eq, h1, h2]
  cases ngK k x <;> simp
theorem wid_neg {x X : Nat} (ox : okK .f32 x) (h : Wid x X) : Wid (Op.negFloat .f32 x) (Op.negFloat .f64 X) := by
  obtain ⟨a1, a2, a3⟩ := neg_facts .f32 x ox
  obtain ⟨b1, b2, b3⟩ := neg_facts .f64 X h.1
  refine ⟨b3, by rw [neg_nan .f64 X h.1, neg_nan .f32 x ox]; exact h.2.1, fun hn => ?_⟩
  rw [neg_nan .f32 x ox] at hn
  obtain ⟨g1, g2⟩ := h.2.2 hn
  rw [a1, a2, b1, b2, g1]
  exact ⟨rfl, g2⟩

theorem wid_within {x X y Y : Nat} (oy : okK .f32 y) (hx : Wid x X) (hy : Wid y Y) : withinK .f64 X Y = withinK .f32 x y := by
  unfold withinK
  rw [wid_le (wid_neg oy hy) hx, wid_le hx hy]

theorem wid_cl {x X y Y z Z : Nat} (hx : Wid x X) (hy : Wid y Y) (hz : Wid z Z) : Wid (clK .f32 x y z) (clK .f64 X Y Z) := by
  unfold clK
  rw [wid_lt hy hx, wid_lt hz hx]
  split
  · exact hy
  · split
    · exact hz
    · exact hx

theorem wid_mz {x X : Nat} (h : Wid x X) : mzK .f64 X = mzK .f32 x := by
  unfold mzK
  cases hn : nanK .f32 x
  · rw [wid_ng h hn]
    have := wid_nought h hn
    simp [this]
  · have h2 := h.2.1
    rw [hn] at h2
    rw [nanK_eq] at hn h2
    simp only [decide_eq_true_eq] at hn h2
    have e1 : decide (rgK .f64 X = 0) = false := by simp; omega
    have e2 : decide (rgK .f32 x = 0) = false := by simp; omega
    rw [e1, e2]; rfl

theorem wid_z {x X : Nat} (h : Wid x X) : decide (rgK .f64 X = 0) = decide (rgK .f32 x = 0) := by
  cases hn : nanK .f32 x
  · have := wid_nought h hn
    simp [this]
  · have h2 := h.2.1
    rw [hn] at h2
    rw [nanK_eq] at hn h2
    simp only [decide_eq_true_eq] at hn h2
    have e1 : decide (rgK .f64 X = 0) = false := by simp; omega
    have e2 : decide (rgK .f32 x = 0) = false := by simp; omega
    rw [e1, e2]

theorem wid_least {x X y Y : Nat} (hx : Wid x X) (hy : Wid y Y) : Wid (leastK .f32 x y) (leastK .f64 X Y) := by
  unfold leastK
  rw [wid_lt hy hx, hx.2.1, wid_mz hy, wid_z hx]
  split
  · exact hy
  · exact hx

theorem wid_most {x X y Y : Nat} (hx : Wid x X) (hy : Wid y Y) : Wid (mostK .f32 x y) (mostK .f64 X Y) := by
  unfold mostK
  rw [wid_lt hx hy, hx.2.1, wid_mz hx, wid_z hy]
  split
  · exact hy
  · exact hx

theorem wid_sg {x X : Nat} (hx : Wid x X) : sgK .f64 X = sgK .f32 x := by
  have h0 : Wid 0 0 := by
    refine ⟨by rw [okK64]; omega, by rw [nought_nan, nought_nan], fun _ => ?_⟩
    rw [nought_ng, nought_ng, nought_rg, nought_rg]
    exact ⟨rfl, .inl ⟨infK_pos _, infK_pos _, by rw [vl_zero, vl_zero, Nat.zero_mul]⟩⟩
  unfold sgK
  rw [wid_lt h0 hx, wid_lt hx h0]

theorem clK_ok {k : FloatKind} {a b c : Nat} (ha : okK k a) (hb : okK k b) (hc : okK k c) : okK k (clK k a b c) := by unfold clK; split; exact hb; split; exact hc; exact ha
theorem leastK_ok {k : FloatKind} {a b : Nat} (ha : okK k a) (hb : okK k b) : okK k (leastK k a b) := by unfold leastK; split; exact hb; exact ha
theorem mostK_ok {k : FloatKind} {a b : Nat} (ha : okK k a) (hb : okK k b) : okK k (mostK k a b) := by unfold mostK; split; exact hb; exact ha

/-- where a number stands among all, noughts apart; both noughts at 0 -/
def plK (a : Nat) : Int := if ngK .f64 a then -(rgK .f64 a : Int) - 1 else (rgK .f64 a : Int)
def wtK (a : Nat) : Int := if plK a = -1 then 0 else plK a

theorem wtK_lt (a b : Nat) : wtK a < wtK b ↔ woK .f64 a < woK .f64 b := by
  unfold wtK plK
  rw [woK_eq, woK_eq]
  cases ngK .f64 a <;> cases ngK .f64 b <;> simp only [Bool.false_eq_true, if_false, if_true] <;> (repeat' split) <;> omega

theorem plK_bits (a : Nat) (h : okK .f64 a) : plK a = if (a : Int) / 9223372036854775808 = 1 then -(IntKind.u64.wrap ((a : Int) * 2) / 2) - 1 else IntKind.u64.wrap ((a : Int) * 2) / 2 := by
  rw [okK64] at h
  have e2 : IntKind.u64.wrap ((a : Int) * 2) = (a : Int) * 2 % 18446744073709551616 := by simp [IntKind.wrap, IntKind.bits, IntKind.signed]
  unfold plK
  rw [e2, rg64, ng64]
  simp only [beq_iff_eq]
  split <;> split <;> omega

theorem least_ref (a b : Nat) (ha : okK .f64 a) (hb : okK .f64 b) : leastK .f64 a b = if nanK .f64 a then b else if nanK .f64 b || decide (plK a ≤ plK b) then a else b := by
  unfold leastK
  have hs := same_iff .f64 a b ha hb
  cases na : nanK .f64 a
  · cases nb : nanK .f64 b
    · have hl : ltK .f64 b a = decide (woK .f64 b < woK .f64 a) := by unfold ltK; rw [na, nb]; rfl
      have ea := woK_eq .f64 a
      have eb := woK_eq .f64 b
      rw [hl]
      unfold mzK
      unfold plK
      generalize woK .f64 a = U at *
      generalize woK .f64 b = V at *
      simp only [Bool.false_or, Bool.or_eq_true, Bool.and_eq_true, decide_eq_true_eq, Bool.false_eq_true, if_false]
      cases hA : ngK .f64 a <;> cases hB : ngK .f64 b <;> simp only [hA, hB, if_true, if_false, Bool.false_eq_true, true_and, false_and, and_true, and_false, or_false, iff_false, reduceCtorEq] at * <;> (repeat' split) <;> omega
    · have h1 : ltK .f64 b a = false := by unfold ltK; rw [nb]; simp
      have h2 : mzK .f64 b = false := by
        unfold mzK
        rw [nanK_eq] at nb
        simp only [decide_eq_true_eq] at nb
        have : decide (rgK .f64 b = 0) = false := by simp; omega
        rw [this]; rfl
      simp [h1, h2]
  · simp

theorem most_ref (a b : Nat) (ha : okK .f64 a) (hb : okK .f64 b) : mostK .f64 a b = if nanK .f64 a then b else if nanK .f64 b || decide (plK b ≤ plK a) then a else b := by
  unfold mostK
  have hs := same_iff .f64 a b ha hb
  cases na : nanK .f64 a
  · cases nb : nanK .f64 b
    · have hl : ltK .f64 a b = decide (woK .f64 a < woK .f64 b) := by unfold ltK; rw [na, nb]; rfl
      have ea := woK_eq .f64 a
      have eb := woK_eq .f64 b
      rw [hl]
      unfold mzK
      unfold plK
      generalize woK .f64 a = U at *
      generalize woK .f64 b = V at *
      simp only [Bool.false_or, Bool.or_eq_true, Bool.and_eq_true, decide_eq_true_eq, Bool.false_eq_true, if_false]
      cases hA : ngK .f64 a <;> cases hB : ngK .f64 b <;> simp only [hA, hB, if_true, if_false, Bool.false_eq_true, true_and, false_and, and_true, and_false, or_false, iff_false, reduceCtorEq] at * <;> (repeat' split) <;> omega
    · have h1 : ltK .f64 a b = false := by unfold ltK; rw [nb]; simp
      have h2 : decide (rgK .f64 b = 0) = false := by
        rw [nanK_eq] at nb
        simp only [decide_eq_true_eq] at nb
        simp; omega
      simp [h1, h2]
  · simp

theorem ord_ref (a b : Nat) (ha : okK .f64 a) (hb : okK .f64 b) : ordK a b = if nanK .f64 a || nanK .f64 b then (if nanK .f64 a && nanK .f64 b then 0 else if nanK .f64 a then -1 else 1) else if plK a < plK b then -1 else if plK b < plK a then 1 else 0 := by
  unfold ordK aheadK
  have hs := same_iff .f64 a b ha hb
  cases na : nanK .f64 a
  · cases nb : nanK .f64 b
    · have ea := woK_eq .f64 a
      have eb := woK_eq .f64 b
      unfold smK ltK eqK mzK plK
      rw [na, nb]
      generalize woK .f64 a = U at *
      generalize woK .f64 b = V at *
      simp only [Bool.false_and, Bool.not_false, Bool.true_and, Bool.false_or, decide_eq_true_eq, Bool.false_eq_true, if_false, Bool.or_eq_true, Bool.and_eq_true]
      cases hA : ngK .f64 a <;> cases hB : ngK .f64 b <;> simp only [hA, hB, if_true, if_false, Bool.false_eq_true, true_and, false_and, and_true, and_false, or_false, iff_false, reduceCtorEq] at * <;> (repeat' split) <;> omega
    · rw [smK_nan_r _ _ _ nb, na]; simp
  · rw [smK_nan_l _ _ _ na]
    cases nanK .f64 b <;> simp

theorem cmp_le1 (k : FloatKind) (x y : Nat) : (k.format.order x y == some .lt || eqK k x y) = leK k x y := by rw [← cmp_eq, cmp_le]
theorem cmp_ge1 (k : FloatKind) (x y : Nat) : (k.format.order x y == some .gt || eqK k x y) = leK k y x := by rw [← cmp_eq, cmp_ge]
theorem cmp_le2 (k : FloatKind) (x y : Nat) : (ltK k x y || eqK k x y) = leK k x y := by rw [← cmp_eq, ← cmp_lt, cmp_le]
theorem cmp_ge2 (k : FloatKind) (x y : Nat) : (ltK k y x || eqK k x y) = leK k y x := by rw [← cmp_eq, ← cmp_gt, cmp_ge]
theorem run_neg (P : Program) (k : FloatKind) (x : Nat) (w : World) : (Op.unary .neg (.float k x)).run P w = .ok (.float k (Op.negFloat k x)) w := rfl

theorem beq_cast (a b : Nat) : ((a : Int) == (b : Int)) = decide (a = b) := by
  rw [Bool.eq_iff_iff, beq_iff_eq, decide_eq_true_eq]; omega

theorem half_wrap (a : Nat) : IntKind.i64.wrap (IntKind.u64.wrap ((a : Int) * 2) / 2) = IntKind.u64.wrap ((a : Int) * 2) / 2 := by
  have e2 : IntKind.u64.wrap ((a : Int) * 2) = (a : Int) * 2 % 18446744073709551616 := by simp [IntKind.wrap, IntKind.bits, IntKind.signed]
  have e3 : ∀ n : Int, 0 ≤ n → n < 9223372036854775808 → IntKind.i64.wrap n = n := by
    intro n h1 h2
    simp [IntKind.wrap, IntKind.bits, IntKind.signed]
    omega
  rw [e2]
  exact e3 _ (by omega) (by omega)

theorem within_ref (a b : Nat) (hb : okK .f64 b) : withinK .f64 a b = (!nanK .f64 a && !nanK .f64 b && !ltK .f64 b a && !ltK .f64 a (Op.negFloat .f64 b)) := by
  unfold withinK leK ltK
  rw [neg_nan .f64 b hb]
  cases nanK .f64 a <;> cases nanK .f64 b <;> simp
  rw [Bool.eq_iff_iff]
  simp
  omega

theorem wf_u64 {a : Int} (h : (Lit.int .u64 a).wf = true) : ∃ n : Nat, a = n ∧ okK .f64 n := by
  simp [Lit.wf, IntKind.min, IntKind.max, IntKind.signed, IntKind.bits] at h
  exact ⟨a.toNat, by omega, by rw [okK64]; omega⟩
theorem wf_u32 {a : Int} (h : (Lit.int .u32 a).wf = true) : ∃ n : Nat, a = n ∧ okK .f32 n := by
  simp [Lit.wf, IntKind.min, IntKind.max, IntKind.signed, IntKind.bits] at h
  exact ⟨a.toNat, by omega, by rw [okK32]; omega⟩

theorem floatBits_nan_l (op : BinOp) (k : FloatKind) (x y : Nat) (h : nanK k x = true) : floatBits op k x y = none := by
  have e : k.format.read x = _ := read_nan _ (okF k) x h
  unfold floatBits
  split
  · show Option.map _ _ = _; rw [e]; rfl
  · show Option.map _ _ = _; rw [e]; rfl
  · show Option.map _ _ = _; rw [e]; rfl
  · show Option.map _ _ = _; rw [e]; rfl
  · rfl

theorem floatBits_nan_r (op : BinOp) (k : FloatKind) (x y : Nat) (h : nanK k y = true) : floatBits op k x y = none := by
  have e : k.format.read y = _ := read_nan _ (okF k) y h
  unfold floatBits
  split
  · show Option.map _ _ = _; rw [e]; cases k.format.read x <;> rfl
  · show Option.map _ _ = _; rw [e]; cases k.format.read x <;> rfl
  · show Option.map _ _ = _; rw [e]; cases k.format.read x <;> rfl
  · show Option.map _ _ = _; rw [e]; cases k.format.read x <;> rfl
  · rfl

theorem smK_cases {k : FloatKind} {x y : Nat} (h : smK k x y = true) : x = y ∨ (nanK k x = true ∧ nanK k y = true) := by
  unfold smK at h
  simp only [Bool.or_eq_true, Bool.and_eq_true, decide_eq_true_eq] at h
  rcases h with h | h
  · exact .inr h
  · exact .inl h.2
theorem smK_nans {k : FloatKind} {x y : Nat} (hx : nanK k x = true) (hy : nanK k y = true) : smK k x y = true := by unfold smK; rw [hx, hy]; rfl

theorem smK_symm {k : FloatKind} {x y : Nat} (h : smK k x y = true) : smK k y x = true := by
  rcases smK_cases h with rfl | ⟨h1, h2⟩
  · exact smK_self ..
  · exact smK_nans h2 h1
theorem smK_trans {k : FloatKind} {x y z : Nat} (h : smK k x y = true) (g : smK k y z = true) : smK k x z = true := by
  rcases smK_cases h with rfl | ⟨h1, h2⟩
  · exact g
  · rcases smK_cases g with rfl | ⟨g1, g2⟩
    · exact h
    · exact smK_nans h1 g2

/-- the same operation of the same floats gives the same one -/
theorem res_congr {op : BinOp} {k : FloatKind} {x y x' y' r r' : Nat} (hx : smK k x x' = true) (hy : smK k y y' = true) (h : resK op k x y r) (h' : resK op k x' y' r') : smK k r r' = true := by
  have key : floatBits op k x y = floatBits op k x' y' := by
    rcases smK_cases hx with rfl | ⟨h1, h2⟩
    · rcases smK_cases hy with rfl | ⟨g1, g2⟩
      · rfl
      · rw [floatBits_nan_r _ _ _ _ g1, floatBits_nan_r _ _ _ _ g2]
    · rw [floatBits_nan_l _ _ _ _ h1, floatBits_nan_l _ _ _ _ h2]
  rcases h.2 with e | ⟨e, n⟩
  · rcases h'.2 with e' | ⟨e', n'⟩
    · rw [e, e'] at key; cases key; exact smK_self ..
    · rw [e, e'] at key; cases key
  · rcases h'.2 with e' | ⟨e', n'⟩
    · rw [e, e'] at key; cases key
    · exact smK_nans n n'


/-- the place of a float in the row of all: no number ahead of all -/
def rkK (a : Nat) : Int := if nanK .f64 a then -9223372036854775809 else plK a

theorem plK_ge (a : Nat) : -9223372036854775808 ≤ plK a := by
  have h : rgK .f64 a < 9223372036854775808 := by rw [rg64]; exact Nat.mod_lt _ (by omega)
  unfold plK
  split <;> omega

theorem ord_rk (a b : Nat) (ha : okK .f64 a) (hb : okK .f64 b) : ordK a b = if rkK a < rkK b then -1 else if rkK b < rkK a then 1 else 0 := by
  rw [ord_ref a b ha hb]
  have h1 := plK_ge a
  have h2 := plK_ge b
  unfold rkK
  cases nanK .f64 a <;> cases nanK .f64 b <;> simp only [Bool.or_self, Bool.or_true, Bool.or_false, Bool.true_and, Bool.and_true, Bool.and_false, Bool.false_eq_true, if_false, if_true] <;> (repeat' split) <;> first | rfl | (exfalso; omega)

theorem sm_rk (a b : Nat) (ha : okK .f64 a) (hb : okK .f64 b) : smK .f64 a b = decide (rkK a = rkK b) := by
  have h1 := plK_ge a
  have h2 := plK_ge b
  have hs := same_iff .f64 a b ha hb
  unfold smK rkK
  cases na : nanK .f64 a <;> cases nb : nanK .f64 b <;> simp
  · rw [hs]
    unfold plK
    cases hA : ngK .f64 a <;> cases hB : ngK .f64 b <;> simp <;> omega
  · omega
  · omega

theorem lt_rk (a b : Nat) (h : ltK .f64 a b = true) : rkK a < rkK b := by
  unfold ltK at h
  unfold rkK
  cases na : nanK .f64 a <;> cases nb : nanK .f64 b <;> rw [na, nb] at h <;> simp at h
  simp only [Bool.false_eq_true, if_false]
  rw [woK_eq, woK_eq] at h
  unfold plK
  revert h
  cases ngK .f64 a <;> cases ngK .f64 b <;> simp only [Bool.false_eq_true, if_false, if_true] <;> omega

theorem least_le (a b : Nat) (ha : okK .f64 a) (hb : okK .f64 b) (na : nanK .f64 a = false) (nb : nanK .f64 b = false) (h : plK a ≤ plK b) : leastK .f64 a b = a ∧ leastK .f64 b a = a ∧ mostK .f64 a b = b ∧ mostK .f64 b a = b := by
  have key : plK b ≤ plK a → a = b := by
    intro h'
    have hs := sm_rk a b ha hb
    unfold rkK at hs
    rw [na, nb] at hs
    have e : plK a = plK b := by omega
    simp [e] at hs
    rcases smK_cases hs with h | ⟨h, _⟩
    · exact h
    · rw [na] at h; cases h
  rw [least_ref a b ha hb, least_ref b a hb ha, most_ref a b ha hb, most_ref b a hb ha, na, nb]
  by_cases h' : plK b ≤ plK a
  · have e := key h'; subst e; simp
  · simp [h, h']

theorem clK_held (a lo hi : Nat) (h : leK .f64 lo hi = true) : leK .f64 lo (clK .f64 a lo hi) = true ∧ leK .f64 (clK .f64 a lo hi) hi = true ∧ (leK .f64 lo a = true → leK .f64 a hi = true → eqK .f64 (clK .f64 a lo hi) a = true) := by
  unfold leK at h
  simp only [Bool.and_eq_true, Bool.not_eq_true', decide_eq_true_eq] at h
  obtain ⟨⟨n1, n2⟩, hle⟩ := h
  unfold clK leK eqK ltK
  cases na : nanK .f64 a <;> simp only [n1, n2, na, Bool.not_false, Bool.not_true, Bool.true_and, Bool.and_true, Bool.false_and, Bool.and_false, decide_eq_true_eq, decide_eq_false_iff_not, Bool.false_eq_true, if_true, false_implies, implies_true, and_true]
  · by_cases h1 : woK .f64 lo < woK .f64 a
    · by_cases h2 : woK .f64 hi < woK .f64 a
      · simp [h1, h2, n1, n2, na]; omega
      · simp [h1, h2, n1, n2, na]; omega
    · simp [h1, n1, n2, na]; omega
  · simp [n1, n2]; omega

theorem sg_neg (a : Nat) (ha : okK .f64 a) : sgK .f64 (Op.negFloat .f64 a) = -sgK .f64 a := by
  unfold sgK ltK
  rw [neg_nan .f64 a ha, neg_wo .f64 a ha, nought_nan, nought_wo]
  cases nanK .f64 a <;> simp
  (repeat' split) <;> first | rfl | (exfalso; omega)

theorem within_inf (a : Nat) : withinK .f64 a 9218868437227405312 = !nanK .f64 a := by
  have e1 : nanK .f64 9218868437227405312 = false := by decide +kernel
  have e2 : woK .f64 9218868437227405312 = 9218868437227405312 := by decide +kernel
  have e3 : nanK .f64 (Op.negFloat .f64 9218868437227405312) = false := by decide +kernel
  have e4 : woK .f64 (Op.negFloat .f64 9218868437227405312) = -9218868437227405312 := by decide +kernel
  unfold withinK leK
  rw [e1, e2, e3, e4]
  cases na : nanK .f64 a
  · rw [nanK_eq, inf64] at na
    simp only [decide_eq_false_iff_not] at na
    simp only [Bool.not_false, Bool.true_and]
    rw [woK_eq]
    cases ngK .f64 a <;> simp <;> omega
  · simp

theorem bits_sm (a : Nat) : smK .f64 (bitsK a) a = true := by
  unfold bitsK
  cases na : nanK .f64 a
  · simp [smK_self]
  · simp only [if_true]
    exact smK_nans (by decide +kernel) na


theorem log2_mul_pow (m q : Nat) (h : m ≠ 0) : (m * 2 ^ q).log2 = m.log2 + q := by
  rw [Nat.log2_eq_iff (Nat.mul_ne_zero h (Nat.ne_of_gt (Nat.two_pow_pos _)))]
  have h1 := log2_le m h
  have h2 := lt_log2 m
  constructor
  · rw [Nat.pow_add]; exact Nat.mul_le_mul_right _ h1
  · rw [show m.log2 + q + 1 = (m.log2 + 1) + q by omega, Nat.pow_add]
    exact Nat.mul_lt_mul_of_pos_right h2 (Nat.two_pow_pos _)

theorem cut_exact (neg : Bool) (n d : Nat) : Toward.even.cut neg (n * 2 ^ d) d = n := by
  by_cases hn : n = 0
  · subst hn
    unfold Toward.cut
    simp
  · unfold Toward.cut
    simp only []
    have hl : min d ((n * 2 ^ d).log2 + 2) = d := by rw [log2_mul_pow n d hn]; omega
    have hp := Nat.two_pow_pos d
    rw [hl, Nat.one_shiftLeft, Nat.mul_div_cancel _ hp, Nat.mul_mod_left]
    have e1 : decide (2 ^ d < 2 * 0) = false := by simp
    have e2 : (2 ^ d == 2 * 0) = false := by simp
    rw [e1, e2]
    rfl

theorem cut_scale (neg : Bool) (n d q : Nat) (hn : n ≠ 0) : Toward.even.cut neg (n * 2 ^ q) (d + q) = Toward.even.cut neg n d := by
  unfold Toward.cut
  simp only []
  rw [log2_mul_pow n q hn]
  have hl : min (d + q) (n.log2 + q + 2) = min d (n.log2 + 2) + q := by omega
  rw [hl]
  generalize min d (n.log2 + 2) = g
  have hq := Nat.two_pow_pos q
  rw [Nat.one_shiftLeft, Nat.one_shiftLeft, Nat.pow_add, Nat.mul_div_mul_right _ _ hq, Nat.mul_mod_mul_right]
  have e1 : decide (2 ^ g * 2 ^ q < 2 * (n % 2 ^ g * 2 ^ q)) = decide (2 ^ g < 2 * (n % 2 ^ g)) := by
    rw [← Nat.mul_assoc]
    simp only [Nat.mul_lt_mul_right hq]
  have e2 : (2 ^ g * 2 ^ q == 2 * (n % 2 ^ g * 2 ^ q)) = (2 ^ g == 2 * (n % 2 ^ g)) := by
    rw [← Nat.mul_assoc, Bool.eq_iff_iff, beq_iff_eq, beq_iff_eq]
    exact Nat.mul_left_inj (by omega)
  rw [e1, e2]

/-- to write a number, in units of the least place or of a higher one: the same -/
theorem nearest_scale (f : Format) (neg : Bool) (m q : Nat) : f.nearest neg m (f.leastPlace + (q : Nat)) = f.nearest neg (m * 2 ^ q) f.leastPlace := by
  by_cases hm : m = 0
  · subst hm; unfold Format.nearest; simp
  · have hm' : m * 2 ^ q ≠ 0 := Nat.mul_ne_zero hm (Nat.ne_of_gt (Nat.two_pow_pos _))
    unfold Format.nearest
    rw [if_neg hm, if_neg hm']
    simp only []
    rw [log2_mul_pow m q hm]
    have hlast : max (f.leastPlace + ((m.log2 + q : Nat) : Int) - (f.fractionBits : Int)) f.leastPlace = max (f.leastPlace + (q : Int) + (m.log2 : Int) - (f.fractionBits : Int)) f.leastPlace := by omega
    rw [hlast]
    obtain ⟨L, hL⟩ : ∃ L : Nat, max (f.leastPlace + (q : Int) + (m.log2 : Int) - (f.fractionBits : Int)) f.leastPlace = f.leastPlace + (L : Int) :=
      ⟨(max (f.leastPlace + (q : Int) + (m.log2 : Int) - (f.fractionBits : Int)) f.leastPlace - f.leastPlace).toNat, by omega⟩
    rw [hL]
    have e0 : (f.leastPlace - (f.leastPlace + (L : Int))).toNat = 0 := by omega
    have e1 : (f.leastPlace + (L : Int) - f.leastPlace).toNat = L := by omega
    rw [e0, e1, Nat.shiftLeft_zero]
    congr 1
    congr 1
    congr 1
    by_cases h : L ≤ q
    · have e2 : (f.leastPlace + (q : Int) - (f.leastPlace + (L : Int))).toNat = q - L := by omega
      have e3 : (f.leastPlace + (L : Int) - (f.leastPlace + (q : Int))).toNat = 0 := by omega
      rw [e2, e3, cut_none, Nat.shiftLeft_eq]
      have e4 : m * 2 ^ q = m * 2 ^ (q - L) * 2 ^ L := by rw [Nat.mul_assoc, ← Nat.pow_add]; congr 2; omega
      rw [e4, cut_exact]
    · have e2 : (f.leastPlace + (q : Int) - (f.leastPlace + (L : Int))).toNat = 0 := by omega
      have e3 : (f.leastPlace + (L : Int) - (f.leastPlace + (q : Int))).toNat = L - q := by omega
      rw [e2, e3, Nat.shiftLeft_zero]
      have e4 : L = (L - q) + q := by omega
      conv => rhs; rw [e4]
      rw [cut_scale _ _ _ _ hm]

/-- a rung's own number is written as that rung -/
theorem nearest_vl (f : Format) (neg : Bool) (r : Nat) (h : r ≤ f.infRung) : f.nearest neg (vl f r) f.leastPlace = f.word neg r := by
  have hB := binade_pos f
  by_cases hr : r = 0
  · subst hr; rw [vl_zero]; unfold Format.nearest; simp
  · by_cases h1 : r < f.binade
    · have hv : vl f r = r := by unfold vl; rw [if_pos h1]
      have hl : r.log2 < f.fractionBits := (Nat.log2_lt hr).2 h1
      unfold Format.nearest
      rw [hv, if_neg hr]
      simp only []
      have hlast : max (f.leastPlace + (r.log2 : Int) - (f.fractionBits : Int)) f.leastPlace = f.leastPlace := by omega
      rw [hlast, Int.sub_self]
      simp only [Int.toNat_zero, Nat.shiftLeft_zero, cut_none, Nat.zero_mul, Nat.zero_add]
      rw [Nat.min_eq_left h]
    · have hd := Nat.div_add_mod r f.binade
      have hq : 1 ≤ r / f.binade := (Nat.one_le_div_iff hB).2 (by omega)
      have hm : r % f.binade < f.binade := Nat.mod_lt _ hB
      have hv : vl f r = (f.binade + r % f.binade) * 2 ^ (r / f.binade - 1) := by unfold vl; rw [if_neg h1]
      have hne : f.binade + r % f.binade ≠ 0 := by omega
      have hl : (f.binade + r % f.binade).log2 = f.fractionBits := by
        rw [Nat.log2_eq_iff hne]
        have e : f.binade = 2 ^ f.fractionBits := rfl
        rw [Nat.pow_succ]
        omega
      have hn : vl f r ≠ 0 := by rw [hv]; exact Nat.mul_ne_zero hne (Nat.ne_of_gt (Nat.two_pow_pos _))
      have hlog : (vl f r).log2 = f.fractionBits + (r / f.binade - 1) := by rw [hv, log2_mul_pow _ _ hne, hl]
      unfold Format.nearest
      rw [if_neg hn]
      simp only []
      rw [hlog]
      have hlast : max (f.leastPlace + ((f.fractionBits + (r / f.binade - 1) : Nat) : Int) - (f.fractionBits : Int)) f.leastPlace = f.leastPlace + ((r / f.binade - 1 : Nat) : Int) := by omega
      rw [hlast]
      have e0 : (f.leastPlace - (f.leastPlace + ((r / f.binade - 1 : Nat) : Int))).toNat = 0 := by omega
      have e1 : (f.leastPlace + ((r / f.binade - 1 : Nat) : Int) - f.leastPlace).toNat = r / f.binade - 1 := by omega
      rw [e0, e1, Nat.shiftLeft_zero, hv, cut_exact]
      have e2 : (r / f.binade - 1) * f.binade + (f.binade + r % f.binade) = r := by
        obtain ⟨Q, hQ⟩ : ∃ Q, r / f.binade = Q + 1 := ⟨r / f.binade - 1, by omega⟩
        rw [hQ] at hd ⊢
        rw [Nat.mul_add, Nat.mul_comm f.binade Q] at hd
        simp only [Nat.add_sub_cancel]
        omega
      rw [e2, Nat.min_eq_left h]

/-- a number with a nought added is as great -/
theorem add_nought (k : FloatKind) (a z r : Nat) (ha : finK k a = true) (hz : rgK k z = 0) (h : resK .add k a z r) : eqK k r a = true := by
  have ha : rgK k a < infK k := of_decide_eq_true ha
  obtain ⟨m, p, e, hv⟩ := read_num k.format a ha
  obtain ⟨m', p', e', hv'⟩ := read_num k.format z (by rw [show rg k.format z = 0 from hz]; exact infK_pos k)
  have hm' : m' = 0 := by
    rw [show rg k.format z = 0 from hz, vl_zero] at hv'
    rcases Nat.mul_eq_zero.1 hv' with h | h
    · exact h
    · exact absurd h (Nat.ne_of_gt (Nat.two_pow_pos _))
  subst hm'
  have key : ∃ s, floatBits .add k a z = some (k.format.word s (rgK k a)) ∧ (rgK k a = 0 ∨ s = ngK k a) := by
    show ∃ s, (((k.format.read a).sum (k.format.read z)).map _) = _ ∧ _
    rw [e, e']
    simp only [Datum.sum, Option.map_some, Format.write]
    have hb : min (k.format.leastPlace + (p : Int)) (k.format.leastPlace + (p' : Int)) = k.format.leastPlace + ((min p p' : Nat) : Int) := by omega
    rw [hb]
    have h1 : (k.format.leastPlace + (p : Int) - (k.format.leastPlace + ((min p p' : Nat) : Int))).toNat = p - min p p' := by omega
    rw [h1]
    have h2 : ∀ t u, signed t 0 u = 0 := by intro t u; cases t <;> simp [signed]
    rw [h2, Int.add_zero]
    have h3 : (signed (ng k.format a) m (p - min p p')).natAbs = m * 2 ^ (p - min p p') := by rw [signed_shift]; split <;> omega
    rw [h3, nearest_scale, Nat.mul_assoc, ← Nat.pow_add, show p - min p p' + min p p' = p by omega, hv]
    refine ⟨_, congrArg some (nearest_vl k.format _ _ (Nat.le_of_lt ha)), ?_⟩
    by_cases h0 : rgK k a = 0
    · exact .inl h0
    · right
      have hpos : 0 < m * 2 ^ (p - min p p') := by
        rcases Nat.eq_zero_or_pos m with h | h
        · subst h
          rw [Nat.zero_mul, ← vl_zero k.format] at hv
          exact absurd (vl_inj _ hv).symm h0
        · exact Nat.mul_pos h (Nat.two_pow_pos _)
      simp only [signed_shift]
      show _ = ng k.format a
      generalize m * 2 ^ (p - min p p') = T at *
      have hT : (0 : Int) < (T : Int) := by omega
      cases ng k.format a
      · simp only [Bool.false_eq_true, if_false]
        rw [if_neg (by omega)]
        exact decide_eq_false (by omega)
      · simp only [if_true]
        rw [if_neg (by omega)]
        exact decide_eq_true (by omega)
  obtain ⟨s, hs, hor⟩ := key
  have hr : r = k.format.word s (rgK k a) := by
    rcases h.2 with h | ⟨h, _⟩
    · rw [hs] at h; exact (Option.some.inj h).symm
    · rw [hs] at h; cases h
  subst hr
  have g1 := rgK_word k s (rgK k a) (Nat.le_of_lt ha)
  have g2 := ngK_word k s (rgK k a) (Nat.le_of_lt ha)
  have n1 : nanK k a = false := by rw [nanK_eq]; simp; omega
  have n2 : nanK k (k.format.word s (rgK k a)) = false := by rw [nanK_eq, g1]; simp; omega
  unfold eqK
  rw [n1, n2, woK_eq, woK_eq, g1, g2]
  rcases hor with h | h
  · rw [h]; simp
  · rw [h]; simp

/-- nought times a finite number is a nought -/
theorem nought_mul (k : FloatKind) (x r : Nat) (hx : finK k x = true) (h : resK .mul k 0 x r) : rgK k r = 0 := by
  have hx : rgK k x < infK k := of_decide_eq_true hx
  obtain ⟨m, p, e, hv⟩ := read_num k.format x hx
  obtain ⟨m', p', e', hv'⟩ := read_num k.format 0 (by rw [show rg k.format 0 = 0 from nought_rg k]; exact infK_pos k)
  have hm' : m' = 0 := by
    rw [show rg k.format 0 = 0 from nought_rg k, vl_zero] at hv'
    rcases Nat.mul_eq_zero.1 hv' with h | h
    · exact h
    · exact absurd h (Nat.ne_of_gt (Nat.two_pow_pos _))
  subst hm'
  have key : ∃ s, floatBits .mul k 0 x = some (k.format.word s 0) := by
    show ∃ s, (((k.format.read 0).product (k.format.read x)).map _) = _
    rw [e, e']
    simp only [Datum.product, Option.map_some, Format.write, Nat.zero_mul]
    exact ⟨_, by unfold Format.nearest; rw [if_pos rfl]⟩
  obtain ⟨s, hs⟩ := key
  have hr : r = k.format.word s 0 := by
    rcases h.2 with h | ⟨h, _⟩
    · rw [hs] at h; exact (Option.some.inj h).symm
    · rw [hs] at h; cases h
  rw [hr, rgK_word k s 0 (Nat.zero_le _)]

theorem fin_sm {k : FloatKind} {x y : Nat} (h : smK k x y = true) : finK k x = finK k y := by
  rcases smK_cases h with rfl | ⟨h1, h2⟩
  · rfl
  · rw [nanK_eq] at h1 h2
    simp only [decide_eq_true_eq] at h1 h2
    unfold finK
    rw [decide_eq_false (by omega), decide_eq_false (by omega)]

end Go.Proofs.Ytoofbfjlgablkaa
namespace Go.Proofs.Ytoofbfjlgablkaa
open Ieee Go.RowKit

/-! ### Memory: floats are stored as one cell; draws and new blocks -/
theorem run_store_float (P : Program) (w : World) (a : Addr) (m : Mode) (k : FloatKind) (x : Nat) : (store a (.float k x) m).run P w = stored P w a (.float k x) m := run_store P w a _ m rfl
theorem setCell_drewN (w : World) (n : Nat) (a : Addr) (v : Value) : (w.drewN n).setCell a v = (w.setCell a v).drewN n := rfl
theorem alloc_drewN (w : World) (n : Nat) (o : Obj) : (w.drewN n).alloc o = (w.alloc o).drewN n := rfl
attribute [go_sem] run_store_float setCell_drewN alloc_drewN
/-- of what was there nothing has turned; blocks may have been laid, the tape asked -/
def Bel (W w1 : World) : Prop := Below W.heap.size W w1 ∧ ∀ a, w1.frozen? a = W.frozen? a
theorem Bel.size {W w1 : World} (h : Bel W w1) : W.heap.size ≤ w1.heap.size := h.1.size
theorem Bel.grown {W w1 : World} (h : Bel W w1) : Grown W w1 := ⟨h.1.frame _, h.2, h.1.size⟩
theorem bl_refl (w : World) : Bel w w := ⟨Below.refl _ _, fun _ => rfl⟩
theorem bl_drewN {a w : World} (h : Bel a w) (n : Nat) : Bel a (w.drewN n) := ⟨⟨h.1.os, h.1.tape, h.1.output, h.1.size, h.1.block⟩, h.2⟩
theorem bl_drew {a w : World} (h : Bel a w) : Bel a w.drew := ⟨h.1.drew, h.2⟩
theorem bl_alloc {a w : World} (h : Bel a w) (c : Array Value) (t : TypeId) : Bel a (w.alloc (.cells c t)) := ⟨h.1.alloc h.size _, (h.grown.alloc c t).2.1⟩
theorem bl_set {a w : World} (h : Bel a w) {p : Addr} {v : Value} (hp : a.heap.size ≤ p.block) : Bel a (w.setCell p v) := ⟨h.1.setCell hp v, (h.grown.setCell hp v).2.1⟩
theorem bl_trans {a b c : World} (h : Bel a b) (k : Bel b c) : Bel a c := ⟨h.1.trans (k.1.mono h.size), fun x => (k.2 x).trans (h.2 x)⟩
theorem bcell {W w1 : World} (hb : Bel W w1) : (∀ b o, b < W.heap.size → w1.cell? ⟨b, o, none⟩ = W.cell? ⟨b, o, none⟩) ∧ (∀ a, w1.frozen? a = W.frozen? a) :=
  ⟨fun b o h => hb.1.cell (p := ⟨b, o, none⟩) h, hb.2⟩

/-! ### The root -/
def sqR (x r : Nat) : Prop := okK .f64 r ∧ (FloatKind.f64.format.sqrt x = some r ∨ (FloatKind.f64.format.sqrt x = none ∧ nanK .f64 r = true))
def sv (x : Nat) (w : World) : Nat := (FloatKind.f64.format.sqrt x).getD ((Question.nanBits .f64 x x).cut (w.tape w.drawn (.nanBits .f64 x x)))
def sd (x : Nat) : Nat := if (FloatKind.f64.format.sqrt x).isSome then 0 else 1
theorem sqrt_nan (x : Nat) (h : nanK .f64 x = true) : FloatKind.f64.format.sqrt x = none := by
  unfold Format.sqrt
  rw [read_nan _ (okF .f64) x h]
  rfl
theorem sqrt_ok {x r : Nat} (h : FloatKind.f64.format.sqrt x = some r) : okK .f64 r := FloatKind.f64.format.sqrt_lt h
theorem sv_res (x : Nat) (w : World) : sqR x (sv x w) := by
  unfold sqR sv
  cases h : FloatKind.f64.format.sqrt x with
  | some r => exact ⟨by simpa using sqrt_ok h, .inl rfl⟩
  | none => exact ⟨by simpa using (cut_nan .f64 x x _).1, .inr ⟨rfl, by simpa using (cut_nan .f64 x x _).2⟩⟩
theorem sq_congr {x x' r r' : Nat} (hx : smK .f64 x x' = true) (h : sqR x r) (h' : sqR x' r') : smK .f64 r r' = true := by
  rcases smK_cases hx with rfl | ⟨n1, n2⟩
  · rcases h.2 with h1 | ⟨h1, h2⟩ <;> rcases h'.2 with g1 | ⟨g1, g2⟩
    · rw [h1] at g1; cases g1; exact smK_self _ _
    · rw [h1] at g1; cases g1
    · rw [h1] at g1; cases g1
    · exact smK_nans h2 g2
  · rcases h.2 with h1 | ⟨h1, h2⟩
    · rw [sqrt_nan _ n1] at h1; cases h1
    · rcases h'.2 with g1 | ⟨g1, g2⟩
      · rw [sqrt_nan _ n2] at g1; cases g1
      · exact smK_nans h2 g2

/-! ### Signs turned and taken away, as integers of 64 bits -/
theorem xor_u64 (a : Nat) (h : okK .f64 a) : (bits .xor .u64 (a : Int) 9223372036854775808).toNat = Op.negFloat .f64 a := by
  rw [okK64] at h
  have := u64_xor_nat a 9223372036854775808 h (by omega)
  rw [show ((9223372036854775808 : Nat) : Int) = 9223372036854775808 from rfl] at this
  rw [this, Int.toNat_natCast]
  rfl
theorem andNot_u64 (a : Nat) (h : okK .f64 a) : (bits .andNot .u64 (a : Int) 9223372036854775808).toNat = rgK .f64 a := by
  rw [okK64] at h
  have := u64_andNot_nat a 9223372036854775808 h (by omega)
  rw [show ((9223372036854775808 : Nat) : Int) = 9223372036854775808 from rfl] at this
  rw [this, Int.toNat_natCast, show (18446744073709551615 - 9223372036854775808 : Nat) = 2 ^ 63 - 1 from rfl, Nat.and_two_pow_sub_one_eq_mod, rg64]

/-! ### What the calls on ways answer, as relations -/
def AddR (ax ay bx b_y x y : Nat) : Prop := resK .add .f64 ax bx x ∧ resK .add .f64 ay b_y y
def SubR (ax ay bx b_y x y : Nat) : Prop := resK .sub .f64 ax bx x ∧ resK .sub .f64 ay b_y y
def ScaleR (ax ay s x y : Nat) : Prop := resK .mul .f64 ax s x ∧ resK .mul .f64 ay s y
def MoreR (ax ay s bx b_y x y : Nat) : Prop := ∃ p q, resK .mul .f64 s bx p ∧ resK .mul .f64 s b_y q ∧ resK .add .f64 ax p x ∧ resK .add .f64 ay q y
def MiddleR (ax ay bx b_y x y : Nat) : Prop := ∃ p q, resK .add .f64 ax bx p ∧ resK .add .f64 ay b_y q ∧ resK .quo .f64 p 4611686018427387904 x ∧ resK .quo .f64 q 4611686018427387904 y
def DotR (ax ay bx b_y r : Nat) : Prop := ∃ p q, resK .mul .f64 ax bx p ∧ resK .mul .f64 ay b_y q ∧ resK .add .f64 p q r
def CrossR (ax ay bx b_y r : Nat) : Prop := ∃ p q, resK .mul .f64 ax b_y p ∧ resK .mul .f64 ay bx q ∧ resK .sub .f64 p q r
def LengthR (ax ay r : Nat) : Prop := ∃ s, DotR ax ay ax ay s ∧ sqR s r
def UnitR (ax ay x y : Nat) (ok : Bool) : Prop := ∃ n, LengthR ax ay n ∧ ok = (ltK .f64 0 n && finK .f64 n) ∧ if ok then resK .quo .f64 ax n x ∧ resK .quo .f64 ay n y else x = 0 ∧ y = 0

theorem AddR.sm {ax ay bx b_y x y x' y' : Nat} (h : AddR ax ay bx b_y x y) (g : AddR ax ay bx b_y x' y') : smK .f64 x x' = true ∧ smK .f64 y y' = true :=
  ⟨res_congr (smK_self _ _) (smK_self _ _) h.1 g.1, res_congr (smK_self _ _) (smK_self _ _) h.2 g.2⟩
theorem SubR.sm {ax ay bx b_y x y x' y' : Nat} (h : SubR ax ay bx b_y x y) (g : SubR ax ay bx b_y x' y') : smK .f64 x x' = true ∧ smK .f64 y y' = true :=
  ⟨res_congr (smK_self _ _) (smK_self _ _) h.1 g.1, res_congr (smK_self _ _) (smK_self _ _) h.2 g.2⟩
theorem ScaleR.sm {ax ay s x y x' y' : Nat} (h : ScaleR ax ay s x y) (g : ScaleR ax ay s x' y') : smK .f64 x x' = true ∧ smK .f64 y y' = true :=
  ⟨res_congr (smK_self _ _) (smK_self _ _) h.1 g.1, res_congr (smK_self _ _) (smK_self _ _) h.2 g.2⟩
theorem MoreR.sm {ax ay s bx b_y x y x' y' : Nat} (h : MoreR ax ay s bx b_y x y) (g : MoreR ax ay s bx b_y x' y') : smK .f64 x x' = true ∧ smK .f64 y y' = true := by
  obtain ⟨p, q, h1, h2, h3, h4⟩ := h
  obtain ⟨p', q', g1, g2, g3, g4⟩ := g
  exact ⟨res_congr (smK_self _ _) (res_congr (smK_self _ _) (smK_self _ _) h1 g1) h3 g3, res_congr (smK_self _ _) (res_congr (smK_self _ _) (smK_self _ _) h2 g2) h4 g4⟩
theorem MiddleR.sm {ax ay bx b_y x y x' y' : Nat} (h : MiddleR ax ay bx b_y x y) (g : MiddleR ax ay bx b_y x' y') : smK .f64 x x' = true ∧ smK .f64 y y' = true := by
  obtain ⟨p, q, h1, h2, h3, h4⟩ := h
  obtain ⟨p', q', g1, g2, g3, g4⟩ := g
  exact ⟨res_congr (res_congr (smK_self _ _) (smK_self _ _) h1 g1) (smK_self _ _) h3 g3, res_congr (res_congr (smK_self _ _) (smK_self _ _) h2 g2) (smK_self _ _) h4 g4⟩
theorem DotR.sm {ax ay bx b_y r r' : Nat} (h : DotR ax ay bx b_y r) (g : DotR ax ay bx b_y r') : smK .f64 r r' = true := by
  obtain ⟨p, q, h1, h2, h3⟩ := h
  obtain ⟨p', q', g1, g2, g3⟩ := g
  exact res_congr (res_congr (smK_self _ _) (smK_self _ _) h1 g1) (res_congr (smK_self _ _) (smK_self _ _) h2 g2) h3 g3
theorem CrossR.sm {ax ay bx b_y r r' : Nat} (h : CrossR ax ay bx b_y r) (g : CrossR ax ay bx b_y r') : smK .f64 r r' = true := by
  obtain ⟨p, q, h1, h2, h3⟩ := h
  obtain ⟨p', q', g1, g2, g3⟩ := g
  exact res_congr (res_congr (smK_self _ _) (smK_self _ _) h1 g1) (res_congr (smK_self _ _) (smK_self _ _) h2 g2) h3 g3
theorem LengthR.sm {ax ay r r' : Nat} (h : LengthR ax ay r) (g : LengthR ax ay r') : smK .f64 r r' = true := by
  obtain ⟨s, h1, h2⟩ := h
  obtain ⟨s', g1, g2⟩ := g
  exact sq_congr (h1.sm g1) h2 g2
theorem ltK_sm {a x y : Nat} (h : smK .f64 x y = true) : ltK .f64 a x = ltK .f64 a y := by
  rcases smK_cases h with rfl | ⟨h1, h2⟩
  · rfl
  · unfold ltK; rw [h1, h2]; simp
theorem UnitR.sm {ax ay x y x' y' : Nat} {b b' : Bool} (h : UnitR ax ay x y b) (g : UnitR ax ay x' y' b') : smK .f64 x x' = true ∧ smK .f64 y y' = true ∧ b = b' := by
  obtain ⟨n, h1, h2, h3⟩ := h
  obtain ⟨n', g1, g2, g3⟩ := g
  have hn := h1.sm g1
  have hb : b = b' := by rw [h2, g2, ltK_sm hn, fin_sm hn]
  subst hb
  cases b
  · simp only [Bool.false_eq_true, if_false] at h3 g3
    rw [h3.1, h3.2, g3.1, g3.2]
    exact ⟨smK_self _ _, smK_self _ _, rfl⟩
  · simp only [if_true] at h3 g3
    exact ⟨res_congr (smK_self _ _) hn h3.1 g3.1, res_congr (smK_self _ _) hn h3.2 g3.2, rfl⟩
theorem AddR.ok {ax ay bx b_y x y : Nat} (h : AddR ax ay bx b_y x y) : okK .f64 x ∧ okK .f64 y := ⟨h.1.1, h.2.1⟩
theorem SubR.ok {ax ay bx b_y x y : Nat} (h : SubR ax ay bx b_y x y) : okK .f64 x ∧ okK .f64 y := ⟨h.1.1, h.2.1⟩
theorem ScaleR.ok {ax ay s x y : Nat} (h : ScaleR ax ay s x y) : okK .f64 x ∧ okK .f64 y := ⟨h.1.1, h.2.1⟩
theorem MoreR.ok {ax ay s bx b_y x y : Nat} (h : MoreR ax ay s bx b_y x y) : okK .f64 x ∧ okK .f64 y := by
  obtain ⟨p, q, _, _, h3, h4⟩ := h; exact ⟨h3.1, h4.1⟩
theorem MiddleR.ok {ax ay bx b_y x y : Nat} (h : MiddleR ax ay bx b_y x y) : okK .f64 x ∧ okK .f64 y := by
  obtain ⟨p, q, _, _, h3, h4⟩ := h; exact ⟨h3.1, h4.1⟩
theorem DotR.ok {ax ay bx b_y r : Nat} (h : DotR ax ay bx b_y r) : okK .f64 r := by obtain ⟨p, q, _, _, h3⟩ := h; exact h3.1
theorem CrossR.ok {ax ay bx b_y r : Nat} (h : CrossR ax ay bx b_y r) : okK .f64 r := by obtain ⟨p, q, _, _, h3⟩ := h; exact h3.1
theorem LengthR.ok {ax ay r : Nat} (h : LengthR ax ay r) : okK .f64 r := by obtain ⟨s, _, h2⟩ := h; exact h2.1
theorem ok_zero : okK .f64 0 := by rw [okK64]; omega
theorem UnitR.ok {ax ay x y : Nat} {b : Bool} (h : UnitR ax ay x y b) : okK .f64 x ∧ okK .f64 y := by
  obtain ⟨n, _, _, h3⟩ := h
  cases b
  · simp only [Bool.false_eq_true, if_false] at h3; rw [h3.1, h3.2]; exact ⟨ok_zero, ok_zero⟩
  · simp only [if_true] at h3; exact ⟨h3.1.1, h3.2.1⟩

/-- the reference's bits -/
def bitsR (a : Nat) : Nat := if nanK .f64 a then 9221120237041090561 else a
theorem bitsR_eq (a b : Nat) : decide (bitsR a = bitsR b) = smK .f64 a b := by
  have n1 : nanK .f64 9221120237041090561 = true := by decide +kernel
  unfold bitsR smK
  cases ha : nanK .f64 a <;> cases hb : nanK .f64 b <;> simp
  · intro h; subst h; rw [n1] at ha; cases ha
  · intro h; subst h; rw [n1] at hb; cases hb
theorem bitsK_eq (a b : Nat) : decide (bitsK a = bitsK b) = smK .f64 a b := by
  have n1 : nanK .f64 9221120237041090560 = true := by decide +kernel
  unfold bitsK smK
  cases ha : nanK .f64 a <;> cases hb : nanK .f64 b <;> simp
  · intro h; subst h; rw [n1] at ha; cases ha
  · intro h; subst h; rw [n1] at hb; cases hb
theorem abs_within (a m : Nat) (hm : okK .f64 m) : leK .f64 (rgK .f64 a) m = withinK .f64 a m := by
  have h1 : rgK .f64 (rgK .f64 a) = rgK .f64 a := by rw [rg64, rg64]; omega
  have h2 : ngK .f64 (rgK .f64 a) = false := by rw [ng64, rg64, beq_eq_false_iff_ne]; omega
  unfold withinK leK
  rw [neg_nan _ _ hm, neg_wo _ _ hm, nanK_eq, nanK_eq .f64 a, h1]
  rw [woK_eq .f64 (rgK .f64 a), h1, h2, woK_eq .f64 a]
  rw [Bool.eq_iff_iff]
  cases hs : ngK .f64 a <;> cases hm : nanK .f64 m <;> simp <;> omega
theorem sm_bool {a b : Nat} (h : smK .f64 a b = true) : smK .f64 a b = true := h
end Go.Proofs.Ytoofbfjlgablkaa
namespace Go.Proofs.Ytoofbfjlgablkaa
open Ieee Go.RowKit

/-! ### Products and sums in either order; signs -/
theorem mul_comm_bits (k : FloatKind) (x y : Nat) : floatBits .mul k x y = floatBits .mul k y x := by
  show k.format.mul x y = k.format.mul y x
  unfold Format.mul
  congr 1
  cases k.format.read x <;> cases k.format.read y <;> simp only [Datum.product, Bool.xor_comm, Nat.mul_comm, Int.add_comm]
theorem add_comm_bits (k : FloatKind) (x y : Nat) : floatBits .add k x y = floatBits .add k y x := by
  show k.format.add x y = k.format.add y x
  unfold Format.add
  congr 1
  cases k.format.read x <;> cases k.format.read y <;> simp only [Datum.sum]
  · rename_i s m i t n j
    rw [Int.min_comm, Int.add_comm, Bool.and_comm]
  · rename_i s t
    by_cases h : s = t
    · subst h; rfl
    · rw [if_neg h, if_neg (fun e => h e.symm)]
theorem res_mul_comm {k : FloatKind} {x y r : Nat} (h : resK .mul k x y r) : resK .mul k y x r := by
  unfold resK at *; rwa [mul_comm_bits k y x]
theorem res_add_comm {k : FloatKind} {x y r : Nat} (h : resK .add k x y r) : resK .add k y x r := by
  unfold resK at *; rwa [add_comm_bits k y x]
theorem neg_neg (k : FloatKind) (x : Nat) : Op.negFloat k (Op.negFloat k x) = x := by
  unfold Op.negFloat; rw [Nat.xor_assoc, Nat.xor_self, Nat.xor_zero]
theorem neg_ok {k : FloatKind} {x : Nat} (h : okK k x) : okK k (Op.negFloat k x) := (neg_facts k x h).2.2
theorem neg_sm {x y : Nat} (hx : okK .f64 x) (hy : okK .f64 y) (h : smK .f64 x y = true) : smK .f64 (Op.negFloat .f64 x) (Op.negFloat .f64 y) = true := by
  rcases smK_cases h with rfl | ⟨h1, h2⟩
  · exact smK_self _ _
  · exact smK_nans (by rw [neg_nan _ _ hx]; exact h1) (by rw [neg_nan _ _ hy]; exact h2)

def SpinR (s ax ay x y : Nat) : Prop := ∃ p q, resK .mul .f64 s ay p ∧ resK .mul .f64 s ax q ∧ x = Op.negFloat .f64 p ∧ y = q
theorem SpinR.sm {s ax ay x y x' y' : Nat} (h : SpinR s ax ay x y) (g : SpinR s ax ay x' y') : smK .f64 x x' = true ∧ smK .f64 y y' = true := by
  obtain ⟨p, q, h1, h2, rfl, rfl⟩ := h
  obtain ⟨p', q', g1, g2, rfl, rfl⟩ := g
  exact ⟨neg_sm h1.1 g1.1 (res_congr (smK_self _ _) (smK_self _ _) h1 g1), res_congr (smK_self _ _) (smK_self _ _) h2 g2⟩
theorem SpinR.ok {s ax ay x y : Nat} (h : SpinR s ax ay x y) : okK .f64 x ∧ okK .f64 y := by
  obtain ⟨p, q, h1, h2, rfl, rfl⟩ := h
  exact ⟨neg_ok h1.1, h2.1⟩

theorem keep {W w1 : World} (hb : Bel W w1) {a : Addr} {v : Value} (h : W.cell? a = some v) : w1.cell? a = some v := (hb.1.cell (World.block_lt_of_cell? W a h)).trans h

theorem run_equalIn_fl (P : Program) (w : World) (d : Nat) (t : TypeId) (k : FloatKind) (x y : Nat) (h : P.underlying t = some (.float k)) : (Op.equalIn (d + 1) t (.float k x) (.float k y)).run P w = .ok (eqK k x y) w := by
  rw [← cmp_eq]
  simp [Op.equalIn, run_underlying h]
  rfl
theorem run_equalIn_float (P : Program) (w : World) (t : TypeId) (k : FloatKind) (x y : Nat) (h : P.underlying t = some (.float k)) : (Op.equalIn 9999 t (.float k x) (.float k y)).run P w = .ok (eqK k x y) w := run_equalIn_fl P w 9998 t k x y h

/-- a way turned by so many quarters -/
def rotP : Nat → Nat × Nat → Nat × Nat
  | 0, p => p
  | n + 1, p => (Op.negFloat .f64 (rotP n p).2, (rotP n p).1)
theorem rot_two (x y : Nat) : rotP 2 (x, y) = (Op.negFloat .f64 x, Op.negFloat .f64 y) := rfl
theorem rot_three (x y : Nat) : rotP 3 (x, y) = (y, Op.negFloat .f64 x) := by
  show (Op.negFloat .f64 (Op.negFloat .f64 y), _) = _
  rw [neg_neg]
  rfl

/-! ### Closed answers -/
theorem res_is {op : BinOp} {k : FloatKind} {x y r v : Nat} (h : resK op k x y r) (e : floatBits op k x y = some v) : r = v := by
  rcases h.2 with h1 | ⟨h1, _⟩
  · rw [e] at h1; exact (Option.some.inj h1).symm
  · rw [e] at h1; cases h1
theorem sq_is {x r v : Nat} (h : sqR x r) (e : FloatKind.f64.format.sqrt x = some v) : r = v := by
  rcases h.2 with h1 | ⟨h1, _⟩
  · rw [e] at h1; exact (Option.some.inj h1).symm
  · rw [e] at h1; cases h1
end Go.Proofs.Ytoofbfjlgablkaa
namespace Go.Proofs.Ytoofbfjlgablkaa
open Ieee Go.RowKit
set_option linter.unusedVariables false

/-! ### The chapter's first examples, worked out -/
theorem dot_ex {r : Nat} (h : DotR 4613937818241073152 4616189618054758400 4607182418800017408 4611686018427387904 r) : r = 4622382067542392832 := by
  obtain ⟨p, q, h1, h2, h3⟩ := h
  rw [res_is h1 (v := 4613937818241073152) (by decide +kernel), res_is h2 (v := 4620693217682128896) (by decide +kernel)] at h3
  exact res_is h3 (by decide +kernel)
theorem cross_ex {r : Nat} (h : CrossR 4613937818241073152 4616189618054758400 4607182418800017408 4611686018427387904 r) : r = 4611686018427387904 := by
  obtain ⟨p, q, h1, h2, h3⟩ := h
  rw [res_is h1 (v := 4618441417868443648) (by decide +kernel), res_is h2 (v := 4616189618054758400) (by decide +kernel)] at h3
  exact res_is h3 (by decide +kernel)
theorem length_ex {r : Nat} (h : LengthR 4613937818241073152 4616189618054758400 r) : r = 4617315517961601024 := by
  obtain ⟨s, ⟨p, q, h1, h2, h3⟩, h4⟩ := h
  rw [res_is h1 (v := 4621256167635550208) (by decide +kernel), res_is h2 (v := 4625196817309499392) (by decide +kernel)] at h3
  rw [res_is h3 (v := 4627730092099895296) (by decide +kernel)] at h4
  exact sq_is h4 (by decide +kernel)
theorem length_no {r : Nat} (h : LengthR 0 0 r) : r = 0 := by
  obtain ⟨s, ⟨p, q, h1, h2, h3⟩, h4⟩ := h
  rw [res_is h1 (v := 0) (by decide +kernel), res_is h2 (v := 0) (by decide +kernel)] at h3
  rw [res_is h3 (v := 0) (by decide +kernel)] at h4
  exact sq_is h4 (by decide +kernel)
theorem unit_ex {x y : Nat} {b : Bool} (h : UnitR 4613937818241073152 4616189618054758400 x y b) : x = 4603579539098121011 ∧ y = 4605380978949069210 ∧ b = true := by
  obtain ⟨n, h1, h2, h3⟩ := h
  rw [length_ex h1] at h2 h3
  rw [show (ltK .f64 0 4617315517961601024 && finK .f64 4617315517961601024) = true by decide +kernel] at h2
  subst h2
  simp only [if_true] at h3
  exact ⟨res_is h3.1 (by decide +kernel), res_is h3.2 (by decide +kernel), rfl⟩
theorem unit_none {x y : Nat} {b : Bool} (h : UnitR 0 0 x y b) : x = 0 ∧ y = 0 ∧ b = false := by
  obtain ⟨n, h1, h2, h3⟩ := h
  rw [length_no h1] at h2 h3
  rw [show (ltK .f64 0 0 && finK .f64 0) = false by decide +kernel] at h2
  subst h2
  simp only [Bool.false_eq_true, if_false] at h3
  exact ⟨h3.1, h3.2, rfl⟩
theorem middle_ex {x y : Nat} (h : MiddleR 4613937818241073152 4616189618054758400 4607182418800017408 4607182418800017408 x y) : x = 4611686018427387904 ∧ y = 4612811918334230528 := by
  obtain ⟨p, q, h1, h2, h3, h4⟩ := h
  rw [res_is h1 (v := 4616189618054758400) (by decide +kernel)] at h3
  rw [res_is h2 (v := 4617315517961601024) (by decide +kernel)] at h4
  exact ⟨res_is h3 (by decide +kernel), res_is h4 (by decide +kernel)⟩
end Go.Proofs.Ytoofbfjlgablkaa
