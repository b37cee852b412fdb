/-
  Plain facts on floats, more: rounding to the nearest rung, sums and products of finite floats, signs turned. No program is named here.
-/
import Derived.Test.YtfohggiehbplkaaRnd
namespace Go.Proofs.Ytfohggiehbplkaa
open Ieee Go.RowKit
set_option linter.unusedSimpArgs false
set_option linter.unusedVariables false

theorem gap_le (f : Format) (r : Nat) : f.binade * vl f (r + 1) ≤ f.binade * vl f r + vl f r + f.binade := by
  have hB := binade_pos f
  by_cases h : r < f.binade
  · have e1 := vl_mk2 f 0 r (by omega) (by omega)
    have e2 := vl_mk2 f 0 (r + 1) (by omega) (by omega)
    simp only [Nat.zero_mul, Nat.zero_add, Nat.pow_zero, Nat.mul_one] at e1 e2
    rw [e1, e2, Nat.mul_add]; omega
  · obtain ⟨e, he⟩ : ∃ e, r / f.binade = e + 1 := ⟨r / f.binade - 1, by have := (Nat.one_le_div_iff hB).2 (by omega : f.binade ≤ r); omega⟩
    have hd := Nat.div_add_mod r f.binade
    have hm := Nat.mod_lt r hB
    rw [he, Nat.mul_add, Nat.mul_one, Nat.mul_comm f.binade e] at hd
    generalize hK : r % f.binade = K at *
    have e1 := vl_mk2 f e (f.binade + K) (by omega) (fun _ => by omega)
    have e2 := vl_mk2 f e (f.binade + K + 1) (by omega) (fun _ => by omega)
    rw [show e * f.binade + (f.binade + K) = r by omega] at e1
    rw [show e * f.binade + (f.binade + K + 1) = r + 1 by omega] at e2
    rw [e1, e2]
    generalize 2 ^ e = Y
    generalize f.binade = B at *
    have : B * ((B + K + 1) * Y) = B * ((B + K) * Y) + B * Y := by grind
    have h2 : B * Y ≤ (B + K) * Y := Nat.mul_le_mul_right _ (by omega)
    omega

theorem rr_err (f : Format) (hf : 1 ≤ f.fractionBits) (m t : Nat) :
    2 * f.binade * m ≤ (2 * f.binade * vl f (rr f m t) + vl f (rr f m t) + f.binade) * 2 ^ t ∧
    2 * f.binade * vl f (rr f m t) * 2 ^ t ≤ 2 * f.binade * m + (vl f (rr f m t) + f.binade) * 2 ^ t := by
  obtain ⟨h1, h2, _⟩ := rr_spec f hf m t
  generalize rr f m t = r at *
  have g1 := gap_le f r
  generalize 2 ^ t = X at *
  constructor
  · have h3 : f.binade * (2 * m) ≤ f.binade * ((vl f r + vl f (r + 1)) * X) := Nat.mul_le_mul_left _ h2
    have h4 : f.binade * vl f (r + 1) * X ≤ (f.binade * vl f r + vl f r + f.binade) * X := Nat.mul_le_mul_right _ g1
    have e1 : f.binade * ((vl f r + vl f (r + 1)) * X) = f.binade * vl f r * X + f.binade * vl f (r + 1) * X := by grind
    have e2 : (2 * f.binade * vl f r + vl f r + f.binade) * X = f.binade * vl f r * X + (f.binade * vl f r + vl f r + f.binade) * X := by grind
    have e3 : 2 * f.binade * m = f.binade * (2 * m) := by grind
    omega
  · by_cases hr : r = 0
    · subst hr; rw [vl_zero]; simp
    · have h1 := h1.resolve_left hr
      obtain ⟨q, rfl⟩ : ∃ q, r = q + 1 := ⟨r - 1, by omega⟩
      rw [Nat.add_sub_cancel] at h1
      have g2 := gap_le f q
      have g3 := Nat.le_of_lt (vl_succ f q)
      have h3 : f.binade * ((vl f q + vl f (q + 1)) * X) ≤ f.binade * (2 * m) := Nat.mul_le_mul_left _ h1
      have h4 : f.binade * vl f (q + 1) * X ≤ (f.binade * vl f q + vl f (q + 1) + f.binade) * X := Nat.mul_le_mul_right _ (by omega)
      have e1 : f.binade * ((vl f q + vl f (q + 1)) * X) = f.binade * vl f q * X + f.binade * vl f (q + 1) * X := by grind
      have e2 : (f.binade * vl f q + vl f (q + 1) + f.binade) * X = f.binade * vl f q * X + (vl f (q + 1) + f.binade) * X := by grind
      have e3 : 2 * f.binade * vl f (q + 1) * X = f.binade * vl f (q + 1) * X + f.binade * vl f (q + 1) * X := by grind
      have e4 : 2 * f.binade * m = f.binade * (2 * m) := by grind
      omega

/-- the number of a float without its sign, in units of the least place -/
def mg (x : Nat) : Nat := vl FloatKind.f64.format (rgK .f64 x)
/-- .. as a number -/
def av (x : Nat) : Rat := (mg x : Rat) / 2 ^ 1074
def epR : Rat := 1 / 2 ^ 53
def etR : Rat := 1 / 2 ^ 1075
theorem av_nn (x : Nat) : 0 ≤ av x := by
  unfold av
  rw [Rat.div_def]
  exact Rat.mul_nonneg Rat.natCast_nonneg (Rat.le_of_lt (Rat.inv_pos.2 (Rat.pow_pos (by decide))))

theorem bin64 : FloatKind.f64.format.binade = 2 ^ 52 := rfl

/-- near q e A: A is q rounded: within e of A's part and half a least place -/
def nearR (q A : Rat) : Prop := q ≤ A + epR * A + etR ∧ A ≤ q + epR * A + etR

/-- m / 2 ^ t least places, rounded -/
theorem near_rr (m t : Nat) (q : Rat) (hq : q * 2 ^ t * 2 ^ 1074 = m) : nearR q ((vl FloatKind.f64.format (rr FloatKind.f64.format m t) : Rat) / 2 ^ 1074) := by
  obtain ⟨h1, h2⟩ := rr_err FloatKind.f64.format fb1 m t
  generalize vl FloatKind.f64.format (rr FloatKind.f64.format m t) = V at *
  have hbin : (FloatKind.f64.format.binade : Rat) = 2 ^ 52 := by rw [bin64]; push_cast; rfl
  generalize FloatKind.f64.format.binade = b at *
  have h1 := Rat.natCast_le_natCast.2 h1
  have h2 := Rat.natCast_le_natCast.2 h2
  have hX : (0 : Rat) < 2 ^ t := Rat.pow_pos (by decide)
  have hW : (0 : Rat) < 2 ^ 1074 := Rat.pow_pos (by decide)
  push_cast at h1 h2
  rw [hbin] at h1 h2
  clear hbin
  unfold nearR epR etR
  have hW2 : (2 : Rat) ^ 1075 = 2 ^ 1074 * 2 := Rat.pow_succ _ _
  rw [hW2]
  have h53 : (2 : Rat) ^ 53 = 2 * 2 ^ 52 := by rw [Rat.pow_succ]; grind
  rw [h53]
  generalize (2 : Rat) ^ 1074 = W at *
  generalize (2 : Rat) ^ t = X at *
  have hc : (0 : Rat) < 2 ^ 52 := by decide
  generalize (2 : Rat) ^ 52 = B at *
  rw [← hq] at h1 h2
  generalize (V : Rat) = v at *
  constructor
  · refine Rat.le_of_mul_le_mul_right (c := 2 * B * (X * W)) ?_ (Rat.mul_pos (Rat.mul_pos (by decide) hc) (Rat.mul_pos hX hW))
    have e1 : (v / W + 1 / (2 * B) * (v / W) + 1 / (W * 2)) * (2 * B * (X * W)) = (2 * B * v + v + B) * X := by grind
    have e2 : q * (2 * B * (X * W)) = 2 * B * (q * X * W) := by grind
    rw [e1, e2]; exact h1
  · refine Rat.le_of_mul_le_mul_right (c := 2 * B * (X * W)) ?_ (Rat.mul_pos (Rat.mul_pos (by decide) hc) (Rat.mul_pos hX hW))
    have e1 : (q + 1 / (2 * B) * (v / W) + 1 / (W * 2)) * (2 * B * (X * W)) = 2 * B * (q * X * W) + (v + B) * X := by grind
    have e2 : v / W * (2 * B * (X * W)) = 2 * B * v * X := by grind
    rw [e1, e2]; exact h2
end Go.Proofs.Ytfohggiehbplkaa
namespace Go.Proofs.Ytfohggiehbplkaa
open Ieee Go.RowKit
set_option linter.unusedSimpArgs false
set_option linter.unusedVariables false

theorem two_ne : (2 : Rat) ≠ 0 := by decide
theorem zp_pos (k : Int) : (0 : Rat) < 2 ^ k := Rat.zpow_pos (by decide)
theorem zp_add (a b : Int) : (2 : Rat) ^ (a + b) = 2 ^ a * 2 ^ b := Rat.zpow_add two_ne a b
theorem zp_nat (n : Nat) : (2 : Rat) ^ (n : Int) = 2 ^ n := Rat.zpow_natCast _ _

theorem near_any (m : Nat) (p : Int) : ∃ r, (∀ s, FloatKind.f64.format.nearest s m p = FloatKind.f64.format.word s (min r (infK .f64))) ∧ nearR ((m : Rat) * 2 ^ p) ((vl FloatKind.f64.format r : Rat) / 2 ^ 1074) := by
  by_cases h : FloatKind.f64.format.leastPlace ≤ p
  · obtain ⟨q, hq⟩ : ∃ q : Nat, p = FloatKind.f64.format.leastPlace - ((0 : Nat) : Int) + (q : Int) := ⟨(p - FloatKind.f64.format.leastPlace).toNat, by omega⟩
    refine ⟨rr FloatKind.f64.format (m * 2 ^ q) 0, fun s => by rw [hq, nearest_shift, nearest_rr]; rfl, near_rr _ _ _ ?_⟩
    have e : p + 1074 = (q : Int) := by rw [hq, least64]; omega
    have e2 : (2 : Rat) ^ p * 2 ^ 1074 = 2 ^ q := by
      rw [← zp_nat q, ← e, zp_add, ← zp_nat 1074]; rfl
    push_cast
    rw [Rat.pow_zero, Rat.mul_one, Rat.mul_assoc, e2]
  · obtain ⟨t, ht⟩ : ∃ t : Nat, p = FloatKind.f64.format.leastPlace - (t : Int) := ⟨(FloatKind.f64.format.leastPlace - p).toNat, by omega⟩
    refine ⟨rr FloatKind.f64.format m t, fun s => by rw [ht, nearest_rr]; rfl, near_rr _ _ _ ?_⟩
    have e : p + (t : Int) + 1074 = 0 := by rw [ht, least64]; omega
    have e2 : (2 : Rat) ^ p * 2 ^ t * 2 ^ 1074 = 1 := by
      rw [← zp_nat t, ← zp_add, ← zp_nat 1074, ← zp_add]
      rw [show p + (t : Int) + ((1074 : Nat) : Int) = 0 from e, Rat.zpow_zero]
    rw [Rat.mul_assoc, Rat.mul_assoc, ← Rat.mul_assoc (2 ^ p), e2, Rat.mul_one]

theorem read_num64 (x : Nat) (h : finK .f64 x = true) : ∃ m p, FloatKind.f64.format.read x = .number (ngK .f64 x) m (FloatKind.f64.format.leastPlace + (p : Nat)) ∧ m * 2 ^ p = mg x ∧ m < 2 ^ 53 := by
  have h : rgK .f64 x < infK .f64 := of_decide_eq_true h
  have hb := binade_pos FloatKind.f64.format
  unfold Format.read
  simp only []
  by_cases h1 : rg FloatKind.f64.format x < FloatKind.f64.format.binade
  · have h2 : x % FloatKind.f64.format.signWeight < FloatKind.f64.format.binade := h1
    rw [if_pos h2]
    refine ⟨x % FloatKind.f64.format.signWeight, 0, by rw [Int.natCast_zero, Int.add_zero]; rfl, ?_, ?_⟩
    · rw [Nat.pow_zero, Nat.mul_one]
      show _ = vl FloatKind.f64.format (rg FloatKind.f64.format x)
      unfold vl
      rw [if_pos h1]
      rfl
    · have : FloatKind.f64.format.binade = 2 ^ 52 := rfl
      rw [this] at h2
      exact Nat.lt_trans h2 (by decide)
  · have h2 : ¬ x % FloatKind.f64.format.signWeight < FloatKind.f64.format.binade := h1
    have h3 : x % FloatKind.f64.format.signWeight < FloatKind.f64.format.infRung := h
    rw [if_neg h2, if_pos h3]
    refine ⟨FloatKind.f64.format.binade + x % FloatKind.f64.format.signWeight % FloatKind.f64.format.binade, x % FloatKind.f64.format.signWeight / FloatKind.f64.format.binade - 1, rfl, ?_, ?_⟩
    · show _ = vl FloatKind.f64.format (rg FloatKind.f64.format x)
      unfold vl
      rw [if_neg h1]
      rfl
    · have h4 := Nat.mod_lt (x % FloatKind.f64.format.signWeight) hb
      have : FloatKind.f64.format.binade = 2 ^ 52 := rfl
      have h5 : (2 : Nat) ^ 53 = 2 * FloatKind.f64.format.binade := by rw [this]
      rw [h5]
      generalize FloatKind.f64.format.binade = B at *
      omega

theorem av_read {x m p : Nat} (h : m * 2 ^ p = mg x) : av x = (m : Rat) * 2 ^ (FloatKind.f64.format.leastPlace + (p : Int)) := by
  unfold av
  rw [← h]
  have e : FloatKind.f64.format.leastPlace + (p : Int) + ((1074 : Nat) : Int) = (p : Int) := by rw [least64]; omega
  have e2 : (2 : Rat) ^ (FloatKind.f64.format.leastPlace + (p : Int)) * 2 ^ 1074 = 2 ^ p := by
    rw [← zp_nat 1074, ← zp_add, e, zp_nat]
  push_cast
  rw [← e2, ← Rat.mul_assoc]
  exact Rat.mul_div_cancel (Rat.ne_of_gt (Rat.pow_pos (by decide)))

theorem mg_word (s : Bool) (r : Nat) (h : r < infK .f64) : mg (FloatKind.f64.format.word s (min r (infK .f64))) = vl FloatKind.f64.format r := by
  unfold mg
  rw [rgK_word _ _ _ (Nat.min_le_right _ _), Nat.min_eq_left (Nat.le_of_lt h)]

/-- a product, rounded -/
theorem mul_near {x y r : Nat} (hx : finK .f64 x = true) (hy : finK .f64 y = true) (h : resK .mul .f64 x y r) (hr : finK .f64 r = true) :
    nearR (av x * av y) (av r) ∧ ngK .f64 r = (ngK .f64 x ^^ ngK .f64 y) := by
  have e := res_is h (mul_spec x y hx hy)
  rw [e, fin_word] at hr
  have hr := of_decide_eq_true hr
  constructor
  · have hm : mg r = vl FloatKind.f64.format (rr FloatKind.f64.format (mg x * mg y) 1074) := by rw [e]; exact mg_word _ _ hr
    unfold av
    rw [hm]
    refine near_rr _ _ _ ?_
    have hW : (0 : Rat) < 2 ^ 1074 := Rat.pow_pos (by decide)
    push_cast
    generalize (2 : Rat) ^ 1074 = W at *
    grind
  · rw [e, ngK_word _ _ _ (Nat.min_le_right _ _)]

end Go.Proofs.Ytfohggiehbplkaa
namespace Go.Proofs.Ytfohggiehbplkaa
open Ieee Go.RowKit
set_option linter.unusedSimpArgs false
set_option linter.unusedVariables false

theorem quo_nat (m n : Nat) (hm : m < 2 ^ 53) (hn : n ≠ 0) (more : Nat) (hmore : 54 + n.log2 - m.log2 = more) :
    2 ^ 53 * ((2 * (m * 2 ^ more / n) + (m * 2 ^ more % n != 0).toNat) * n) ≤ 2 ^ 53 * (2 * (m * 2 ^ more)) + 2 * (m * 2 ^ more) ∧
    2 ^ 53 * (2 * (m * 2 ^ more)) ≤ 2 ^ 53 * ((2 * (m * 2 ^ more / n) + (m * 2 ^ more % n != 0).toNat) * n) + 2 * (m * 2 ^ more) := by
  by_cases hm0 : m = 0
  · subst hm0
    simp
  · have hD : 2 ^ 53 * n ≤ m * 2 ^ more := by
      have hl : m.log2 ≤ 52 := by
        have := (Nat.log2_lt hm0).2 hm
        omega
      have h1 := log2_le m hm0
      have h2 := lt_log2 n
      have h3 : 2 ^ m.log2 * 2 ^ more ≤ m * 2 ^ more := Nat.mul_le_mul_right _ h1
      rw [← Nat.pow_add, show m.log2 + more = 53 + (n.log2 + 1) by omega, Nat.pow_add] at h3
      have h4 : 2 ^ 53 * n ≤ 2 ^ 53 * 2 ^ (n.log2 + 1) := Nat.mul_le_mul_left _ (Nat.le_of_lt h2)
      omega
    generalize m * 2 ^ more = D at *
    have hd := Nat.div_add_mod D n
    have hr := Nat.mod_lt D (Nat.pos_of_ne_zero hn)
    generalize D / n = q at *
    generalize D % n = r at *
    by_cases hz : r = 0
    · have : (r != 0).toNat = 0 := by simp [hz]
      rw [this]
      have e : (2 * q + 0) * n = 2 * (n * q) := by grind
      rw [e]
      generalize n * q = nq at *
      omega
    · have : (r != 0).toNat = 1 := by simp [hz]
      rw [this]
      have e : (2 * q + 1) * n = 2 * (n * q) + n := by grind
      rw [e]
      generalize n * q = nq at *
      omega

theorem quo_rat {A C Z E Q n x : Rat} (hE : 0 < E) (hz : 0 < Z) (hq : Q * n * 2 = A * Z) (hx : x * 2 = C * Z) (n1 : E * A ≤ E * C + C) (n2 : E * C ≤ E * A + C) : Q * n ≤ x + 1 / E * x ∧ x ≤ Q * n + 1 / E * x := by
  have n1 := Rat.mul_le_mul_of_nonneg_right n1 (Rat.le_of_lt hz)
  have n2 := Rat.mul_le_mul_of_nonneg_right n2 (Rat.le_of_lt hz)
  have hp : (0 : Rat) < 2 * E := Rat.mul_pos (by decide) hE
  constructor
  · refine Rat.le_of_mul_le_mul_right (c := 2 * E) ?_ hp
    have e1 : Q * n * (2 * E) = E * (Q * n * 2) := by grind
    have e2 : (x + 1 / E * x) * (2 * E) = E * (x * 2) + x * 2 := by grind
    rw [e1, e2, hq, hx]
    grind
  · refine Rat.le_of_mul_le_mul_right (c := 2 * E) ?_ hp
    have e1 : (Q * n + 1 / E * x) * (2 * E) = E * (Q * n * 2) + x * 2 := by grind
    have e2 : x * (2 * E) = E * (x * 2) := by grind
    rw [e1, e2, hq, hx]
    grind

theorem near_any0 (p : Int) : ∀ s, FloatKind.f64.format.nearest s 0 p = FloatKind.f64.format.word s (min 0 (infK .f64)) := fun s => by
  unfold Format.nearest; simp

theorem quo_near {x y : Nat} (hx : finK .f64 x = true) (hy : finK .f64 y = true) (h0 : mg y ≠ 0) : ∃ (Q : Rat) (r : Nat), 0 ≤ Q ∧ Q * av y ≤ av x + epR * av x ∧ av x ≤ Q * av y + epR * av x ∧
    floatBits .quo .f64 x y = some (FloatKind.f64.format.word (ngK .f64 x ^^ ngK .f64 y) (min r (infK .f64))) ∧ nearR Q ((vl FloatKind.f64.format r : Rat) / 2 ^ 1074) ∧ (mg x = 0 → r = 0) := by
  obtain ⟨m, p, e, hv, hm⟩ := read_num64 x hx
  obtain ⟨n, q, e', hv', hn⟩ := read_num64 y hy
  have hn0 : n ≠ 0 := fun h => h0 (by rw [← hv', h]; simp)
  have ha := av_read hv
  have ha' := av_read hv'
  generalize hI : FloatKind.f64.format.leastPlace + (p : Int) = i at *
  generalize hJ : FloatKind.f64.format.leastPlace + (q : Int) = j at *
  obtain ⟨more, hmore⟩ : ∃ more, 54 + n.log2 - m.log2 = more := ⟨_, rfl⟩
  obtain ⟨n1, n2⟩ := quo_nat m n hm hn0 more hmore
  have hw : floatBits .quo .f64 x y = some (FloatKind.f64.format.nearest (ngK .f64 x ^^ ngK .f64 y) (2 * (m * 2 ^ more / n) + (m * 2 ^ more % n != 0).toNat) (i - j - (more : Int) - 1)) := by
    show FloatKind.f64.format.div _ _ = _
    unfold Format.div
    rw [e, e']
    simp only [Datum.quotient, if_neg hn0, Option.map_some, Format.write]
    rw [show FloatKind.f64.format.fractionBits + 2 = 54 from rfl, hmore, Nat.shiftLeft_eq]
  obtain ⟨r, hr, hnear, hzero⟩ : ∃ r, (∀ s, FloatKind.f64.format.nearest s (2 * (m * 2 ^ more / n) + (m * 2 ^ more % n != 0).toNat) (i - j - (more : Int) - 1) = FloatKind.f64.format.word s (min r (infK .f64))) ∧ nearR (((2 * (m * 2 ^ more / n) + (m * 2 ^ more % n != 0).toNat : Nat) : Rat) * 2 ^ (i - j - (more : Int) - 1)) ((vl FloatKind.f64.format r : Rat) / 2 ^ 1074) ∧ (mg x = 0 → r = 0) := by
    by_cases hx0 : m = 0
    · subst hx0
      refine ⟨0, by simpa using near_any0 _, ?_, fun _ => rfl⟩
      simp only [Nat.zero_mul, Nat.zero_div, Nat.zero_mod, vl_zero]
      unfold nearR epR etR
      simp
      decide +kernel
    · obtain ⟨r, h1, h2⟩ := near_any (2 * (m * 2 ^ more / n) + (m * 2 ^ more % n != 0).toNat) (i - j - (more : Int) - 1)
      exact ⟨r, h1, h2, fun h => absurd (by rw [← hv] at h; exact (Nat.mul_eq_zero.1 h).resolve_right (Nat.ne_of_gt (Nat.two_pow_pos _))) hx0⟩
  rw [hr] at hw
  generalize hA : 2 * (m * 2 ^ more / n) + (m * 2 ^ more % n != 0).toNat = A at *
  refine ⟨(A : Rat) * 2 ^ (i - j - (more : Int) - 1), r, Rat.mul_nonneg Rat.natCast_nonneg (Rat.le_of_lt (zp_pos _)), ?_, ?_, hw, hnear, hzero⟩
  all_goals
    have hq : (A : Rat) * 2 ^ (i - j - (more : Int) - 1) * av y * 2 = ((A * n : Nat) : Rat) * 2 ^ (i - (more : Int)) := by
      have e4 : (2 : Rat) ^ (i - (more : Int)) = 2 ^ (i - j - (more : Int) - 1) * 2 ^ j * 2 := by
        rw [← zp_add]
        have : i - (more : Int) = (i - j - (more : Int) - 1 + j) + 1 := by omega
        rw [this, zp_add, Rat.zpow_one]
      rw [e4, ha']
      push_cast
      generalize (2 : Rat) ^ (i - j - (more : Int) - 1) = z
      generalize (2 : Rat) ^ j = z'
      grind
    have hxx : av x * 2 = ((2 * (m * 2 ^ more) : Nat) : Rat) * 2 ^ (i - (more : Int)) := by
      rw [ha]
      have e4 : (2 : Rat) ^ i = 2 ^ (i - (more : Int)) * 2 ^ more := by
        rw [← zp_nat, ← zp_add]; congr 1; omega
      rw [e4]
      push_cast
      generalize (2 : Rat) ^ (i - (more : Int)) = z
      generalize (2 : Rat) ^ more = y
      grind
    have hz := zp_pos (i - (more : Int))
    generalize A * n = An at *
    generalize 2 * (m * 2 ^ more) = C at *
    have n1 := Rat.natCast_le_natCast.2 n1
    have n2 := Rat.natCast_le_natCast.2 n2
    rw [Rat.natCast_add, Rat.natCast_mul, Rat.natCast_mul, show ((2 ^ 53 : Nat) : Rat) = 2 ^ 53 by push_cast; rfl] at n1 n2
  · exact (quo_rat (Rat.pow_pos (by decide)) hz hq hxx n1 n2).1
  · exact (quo_rat (Rat.pow_pos (by decide)) hz hq hxx n1 n2).2
end Go.Proofs.Ytfohggiehbplkaa
namespace Go.Proofs.Ytfohggiehbplkaa
open Ieee Go.RowKit
set_option linter.unusedSimpArgs false
set_option linter.unusedVariables false

theorem rmul {a b c : Rat} (h : a ≤ b) (hc : 0 ≤ c) : c * a ≤ c * b := Rat.mul_le_mul_of_nonneg_left h hc
def nr (e h q A : Rat) : Prop := q ≤ A + e * A + h ∧ A ≤ q + e * A + h

end Go.Proofs.Ytfohggiehbplkaa
namespace Go.Proofs.Ytfohggiehbplkaa
open Ieee Go.RowKit
set_option linter.unusedSimpArgs false
set_option linter.unusedVariables false

end Go.Proofs.Ytfohggiehbplkaa
namespace Go.Proofs.Ytfohggiehbplkaa
open Ieee Go.RowKit
set_option linter.unusedSimpArgs false
set_option linter.unusedVariables false

theorem pow2_cast (n : Nat) : ((2 ^ n : Nat) : Rat) = 2 ^ n := by rw [Rat.natCast_pow]; rfl
theorem rp_add (a b : Nat) : (2 : Rat) ^ (a + b) = 2 ^ a * 2 ^ b := by rw [← zp_nat, ← zp_nat, ← zp_nat, ← zp_add]; rfl
theorem vl_inf : vl FloatKind.f64.format (infK .f64) = 2 ^ 2098 := by decide +kernel
theorem W_pos : (0 : Rat) < 2 ^ 1074 := Rat.pow_pos (by decide)
theorem rung_fin {r : Nat} (h : ((vl FloatKind.f64.format r : Nat) : Rat) / 2 ^ 1074 ≤ 2 ^ 1000) : r < infK .f64 := by
  apply Decidable.byContradiction
  intro g
  have h1 := vl_le FloatKind.f64.format (Nat.le_of_not_lt g)
  rw [vl_inf] at h1
  have h2 := Rat.natCast_le_natCast.2 h1
  have h3 : ((2 ^ 2098 : Nat) : Rat) = 2 ^ 1024 * 2 ^ 1074 := (pow2_cast 2098).trans (rp_add 1024 1074)
  rw [h3] at h2
  have h4 : (2 : Rat) ^ 1024 = 2 ^ 1000 * 2 ^ 24 := rp_add 1000 24
  have h5 : (2 : Rat) ^ 24 = 16777216 := by decide +kernel
  have h6 : (0 : Rat) < 2 ^ 1000 := Rat.pow_pos (by decide)
  have hW := W_pos
  have h7 : ((vl FloatKind.f64.format r : Nat) : Rat) ≤ 2 ^ 1000 * 2 ^ 1074 := by
    have := Rat.mul_le_mul_of_nonneg_right h (Rat.le_of_lt hW)
    rw [Rat.div_mul_cancel (Rat.ne_of_gt hW)] at this
    exact this
  rw [h4, h5] at h2
  have h8 : (0 : Rat) < 2 ^ 1000 * 2 ^ 1074 := Rat.mul_pos h6 hW
  generalize (2 : Rat) ^ 1000 = A at *
  generalize (2 : Rat) ^ 1074 = W at *
  generalize ((vl FloatKind.f64.format r : Nat) : Rat) = v at *
  grind

theorem av_word (s : Bool) (r : Nat) (h : r < infK .f64) : av (FloatKind.f64.format.word s (min r (infK .f64))) = (vl FloatKind.f64.format r : Rat) / 2 ^ 1074 := by
  unfold av; rw [mg_word s r h]
theorem fin_of (s : Bool) {r : Nat} (h : r < infK .f64) : finK .f64 (FloatKind.f64.format.word s (min r (infK .f64))) = true := by rw [fin_word]; exact decide_eq_true h

end Go.Proofs.Ytfohggiehbplkaa
namespace Go.Proofs.Ytfohggiehbplkaa
open Ieee Go.RowKit
set_option linter.unusedSimpArgs false
set_option linter.unusedVariables false

end Go.Proofs.Ytfohggiehbplkaa
namespace Go.Proofs.Ytfohggiehbplkaa
open Ieee Go.RowKit
set_option linter.unusedSimpArgs false
set_option linter.unusedVariables false

theorem mg_le_av {a b : Nat} (h : mg a ≤ mg b) : av a ≤ av b := by
  have hW := W_pos
  refine Rat.le_of_mul_le_mul_right (c := 2 ^ 1074) ?_ hW
  unfold av
  rw [Rat.div_mul_cancel (Rat.ne_of_gt hW), Rat.div_mul_cancel (Rat.ne_of_gt hW)]
  exact Rat.natCast_le_natCast.2 h
theorem mg_rg {a b : Nat} : mg a ≤ mg b ↔ rgK .f64 a ≤ rgK .f64 b := by
  unfold mg
  constructor
  · intro h
    apply Decidable.byContradiction
    intro g
    have := vl_lt FloatKind.f64.format (Nat.lt_of_not_le g)
    omega
  · exact fun h => vl_le _ h
end Go.Proofs.Ytfohggiehbplkaa
namespace Go.Proofs.Ytfohggiehbplkaa
open Ieee Go.RowKit
set_option linter.unusedSimpArgs false
set_option linter.unusedVariables false

/-- x' is x times 2 ^ (j - i) -/
def Sc (i j x x' : Nat) : Prop := finK .f64 x = true ∧ finK .f64 x' = true ∧ okK .f64 x ∧ okK .f64 x' ∧ ngK .f64 x' = ngK .f64 x ∧ mg x' * 2 ^ i = mg x * 2 ^ j
/-- nought, or of a size -/
def Rg (a b x : Nat) : Prop := mg x = 0 ∨ (2 ^ a ≤ mg x ∧ mg x ≤ 2 ^ b)
theorem Sc.refl {x : Nat} (h : finK .f64 x = true) (o : okK .f64 x) : Sc 0 0 x x := ⟨h, h, o, o, rfl, rfl⟩
end Go.Proofs.Ytfohggiehbplkaa
namespace Go.Proofs.Ytfohggiehbplkaa
open Ieee Go.RowKit
set_option linter.unusedSimpArgs false
set_option linter.unusedVariables false

def oneB : Nat := 4607182418800017408
theorem one_mg : mg oneB = 2 ^ 1074 := by decide +kernel
theorem one_fin : finK .f64 oneB = true := by decide +kernel
theorem one_ng : ngK .f64 oneB = false := by decide +kernel
theorem mul_one (x : Nat) (h : finK .f64 x = true) (o : okK .f64 x) : floatBits .mul .f64 x oneB = some x := by
  rw [mul_spec x oneB h one_fin, one_ng, Bool.xor_false]
  have e : vl FloatKind.f64.format (rgK .f64 x) * vl FloatKind.f64.format (rgK .f64 oneB) = vl FloatKind.f64.format (rgK .f64 x) * 2 ^ 1074 := congrArg _ one_mg
  have e2 := (congrArg (fun m => rr FloatKind.f64.format m 1074) e).trans (rr_exact FloatKind.f64.format fb1 (rgK .f64 x) 1074)
  rw [show rr FloatKind.f64.format (vl FloatKind.f64.format (rgK .f64 x) * vl FloatKind.f64.format (rgK .f64 oneB)) 1074 = rgK .f64 x from e2]
  have h : rgK .f64 x < infK .f64 := of_decide_eq_true h
  rw [Nat.min_eq_left (Nat.le_of_lt h)]
  exact congrArg some (word_eq _ x o).symm
end Go.Proofs.Ytfohggiehbplkaa
namespace Go.Proofs.Ytfohggiehbplkaa
open Ieee Go.RowKit
set_option linter.unusedSimpArgs false
set_option linter.unusedVariables false

theorem Sc.zero {i j x x' : Nat} (h : Sc i j x x') : mg x' = 0 ↔ mg x = 0 := by
  obtain ⟨_, _, _, _, _, m⟩ := h
  constructor
  · intro h; rw [h, Nat.zero_mul] at m; exact (Nat.mul_eq_zero.1 m.symm).resolve_right (Nat.ne_of_gt (Nat.two_pow_pos _))
  · intro h; rw [h, Nat.zero_mul] at m; exact (Nat.mul_eq_zero.1 m).resolve_right (Nat.ne_of_gt (Nat.two_pow_pos _))
theorem Sc.neg {i j x x' : Nat} (h : Sc i j x x') : Sc i j (Op.negFloat .f64 x) (Op.negFloat .f64 x') := by
  obtain ⟨f1, f2, o1, o2, n, m⟩ := h
  have g1 := neg_facts .f64 x o1
  have g2 := neg_facts .f64 x' o2
  refine ⟨by rw [fin_neg _ o1]; exact f1, by rw [fin_neg _ o2]; exact f2, g1.2.2, g2.2.2, by rw [g1.2.1, g2.2.1, n], ?_⟩
  unfold mg
  rw [g1.1, g2.1]
  exact m
theorem Rg.neg {a b x : Nat} (h : Rg a b x) (o : okK .f64 x) : Rg a b (Op.negFloat .f64 x) := by
  unfold Rg mg at *
  rw [(neg_facts .f64 x o).1]
  exact h
end Go.Proofs.Ytfohggiehbplkaa
namespace Go.Proofs.Ytfohggiehbplkaa
open Ieee Go.RowKit
set_option linter.unusedSimpArgs false
set_option linter.unusedVariables false

def Dv (op : BinOp) (x y : Nat) : Nat := (floatBits op .f64 x y).getD 0
theorem dv_some {op : BinOp} {x y v : Nat} (h : floatBits op .f64 x y = some v) : Dv op x y = v := by unfold Dv; rw [h]; rfl
theorem res_dv {op : BinOp} {x y r : Nat} (h : resK op .f64 x y r) (g : (floatBits op .f64 x y).isSome = true) : r = Dv op x y := by
  obtain ⟨v, hv⟩ := Option.isSome_iff_exists.1 g
  rw [dv_some hv]; exact res_is h hv
theorem dv_res {op : BinOp} {x y : Nat} (g : (floatBits op .f64 x y).isSome = true) : resK op .f64 x y (Dv op x y) := by
  obtain ⟨v, hv⟩ := Option.isSome_iff_exists.1 g
  rw [dv_some hv]; exact ⟨floatBits_ok hv, .inl hv⟩
theorem some_mul {x y : Nat} (hx : finK .f64 x = true) (hy : finK .f64 y = true) : (floatBits .mul .f64 x y).isSome = true := by rw [mul_spec x y hx hy]; rfl
theorem some_add {x y : Nat} (hx : finK .f64 x = true) (hy : finK .f64 y = true) : (floatBits .add .f64 x y).isSome = true := by rw [add_spec .f64 x y hx hy]; rfl
theorem some_sub {x y : Nat} (hx : finK .f64 x = true) (hy : finK .f64 y = true) (oy : okK .f64 y) : (floatBits .sub .f64 x y).isSome = true := by
  rw [sub_is_add .f64 x y oy]; exact some_add hx (by rw [fin_neg _ oy]; exact hy)
theorem run_mul_dv (P : Program) (t : TypeId) (x y : Nat) (w : World) (hx : finK .f64 x = true) (hy : finK .f64 y = true) : (binOp .mul t (.float .f64 x) (.float .f64 y)).run P w = .ok (.float .f64 (Dv .mul x y)) w := by
  obtain ⟨v, hv⟩ := Option.isSome_iff_exists.1 (some_mul hx hy)
  rw [run_mul, dv_some hv]
  unfold fv fd
  rw [hv]
  rfl

end Go.Proofs.Ytfohggiehbplkaa
namespace Go.Proofs.Ytfohggiehbplkaa
open Ieee Go.RowKit
set_option linter.unusedSimpArgs false
set_option linter.unusedVariables false

theorem Sc.two {j r t u : Nat} (h : Sc 100 j r t) (g : Sc 100 j t u) : Sc (100 + 100) (j + j) r u := by
  obtain ⟨f1, f2, o1, o2, n1, m1⟩ := h
  obtain ⟨_, f3, _, o3, n2, m2⟩ := g
  refine ⟨f1, f3, o1, o3, n2.trans n1, ?_⟩
  rw [Nat.pow_add, Nat.pow_add]
  generalize 2 ^ 100 = A at *
  generalize 2 ^ j = B at *
  have : mg u * (A * A) = mg u * A * A := by grind
  rw [this, m2]
  have : mg t * B * A = mg t * A * B := by grind
  rw [this, m1]; grind

end Go.Proofs.Ytfohggiehbplkaa
