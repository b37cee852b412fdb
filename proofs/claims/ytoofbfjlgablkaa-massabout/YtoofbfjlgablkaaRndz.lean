/-
  Plain facts on floats, more: rounding to the nearest rung, sums and products of finite floats, signs turned. No program is named here.
-/
import Derived.Test.YtoofbfjlgablkaaRnd
namespace Go.Proofs.Ytoofbfjlgablkaa
open Ieee Go.RowKit
set_option linter.unusedSimpArgs false
set_option linter.unusedVariables false

/-! ### How far a rounded number is from the number -/
theorem gap_le (f : Format) (r : Nat) : f.binade * vl f (r + 1) ≤ f.binade * vl f r + vl f r + f.binade := by
  have hB := binade_pos f
  by_cases h : r < f.binade
  · have e1 := vl_mk2 f 0 r (by omega) (by omega)
    have e2 := vl_mk2 f 0 (r + 1) (by omega) (by omega)
    simp only [Nat.zero_mul, Nat.zero_add, Nat.pow_zero, Nat.mul_one] at e1 e2
    rw [e1, e2, Nat.mul_add]; omega
  · obtain ⟨e, he⟩ : ∃ e, r / f.binade = e + 1 := ⟨r / f.binade - 1, by have := (Nat.one_le_div_iff hB).2 (by omega : f.binade ≤ r); omega⟩
    have hd := Nat.div_add_mod r f.binade
    have hm := Nat.mod_lt r hB
    rw [he, Nat.mul_add, Nat.mul_one, Nat.mul_comm f.binade e] at hd
    generalize hK : r % f.binade = K at *
    have e1 := vl_mk2 f e (f.binade + K) (by omega) (fun _ => by omega)
    have e2 := vl_mk2 f e (f.binade + K + 1) (by omega) (fun _ => by omega)
    rw [show e * f.binade + (f.binade + K) = r by omega] at e1
    rw [show e * f.binade + (f.binade + K + 1) = r + 1 by omega] at e2
    rw [e1, e2]
    generalize 2 ^ e = Y
    generalize f.binade = B at *
    have : B * ((B + K + 1) * Y) = B * ((B + K) * Y) + B * Y := by grind
    have h2 : B * Y ≤ (B + K) * Y := Nat.mul_le_mul_right _ (by omega)
    omega

theorem rr_err (f : Format) (hf : 1 ≤ f.fractionBits) (m t : Nat) :
    2 * f.binade * m ≤ (2 * f.binade * vl f (rr f m t) + vl f (rr f m t) + f.binade) * 2 ^ t ∧
    2 * f.binade * vl f (rr f m t) * 2 ^ t ≤ 2 * f.binade * m + (vl f (rr f m t) + f.binade) * 2 ^ t := by
  obtain ⟨h1, h2, _⟩ := rr_spec f hf m t
  generalize rr f m t = r at *
  have g1 := gap_le f r
  generalize 2 ^ t = X at *
  constructor
  · have h3 : f.binade * (2 * m) ≤ f.binade * ((vl f r + vl f (r + 1)) * X) := Nat.mul_le_mul_left _ h2
    have h4 : f.binade * vl f (r + 1) * X ≤ (f.binade * vl f r + vl f r + f.binade) * X := Nat.mul_le_mul_right _ g1
    have e1 : f.binade * ((vl f r + vl f (r + 1)) * X) = f.binade * vl f r * X + f.binade * vl f (r + 1) * X := by grind
    have e2 : (2 * f.binade * vl f r + vl f r + f.binade) * X = f.binade * vl f r * X + (f.binade * vl f r + vl f r + f.binade) * X := by grind
    have e3 : 2 * f.binade * m = f.binade * (2 * m) := by grind
    omega
  · by_cases hr : r = 0
    · subst hr; rw [vl_zero]; simp
    · have h1 := h1.resolve_left hr
      obtain ⟨q, rfl⟩ : ∃ q, r = q + 1 := ⟨r - 1, by omega⟩
      rw [Nat.add_sub_cancel] at h1
      have g2 := gap_le f q
      have g3 := Nat.le_of_lt (vl_succ f q)
      have h3 : f.binade * ((vl f q + vl f (q + 1)) * X) ≤ f.binade * (2 * m) := Nat.mul_le_mul_left _ h1
      have h4 : f.binade * vl f (q + 1) * X ≤ (f.binade * vl f q + vl f (q + 1) + f.binade) * X := Nat.mul_le_mul_right _ (by omega)
      have e1 : f.binade * ((vl f q + vl f (q + 1)) * X) = f.binade * vl f q * X + f.binade * vl f (q + 1) * X := by grind
      have e2 : (f.binade * vl f q + vl f (q + 1) + f.binade) * X = f.binade * vl f q * X + (vl f (q + 1) + f.binade) * X := by grind
      have e3 : 2 * f.binade * vl f (q + 1) * X = f.binade * vl f (q + 1) * X + f.binade * vl f (q + 1) * X := by grind
      have e4 : 2 * f.binade * m = f.binade * (2 * m) := by grind
      omega

/-- the number of a float without its sign, in units of the least place -/
def mg (x : Nat) : Nat := vl FloatKind.f64.format (rgK .f64 x)
/-- .. as a number -/
def av (x : Nat) : Rat := (mg x : Rat) / 2 ^ 1074
def epR : Rat := 1 / 2 ^ 53
def etR : Rat := 1 / 2 ^ 1075
theorem av_nn (x : Nat) : 0 ≤ av x := by
  unfold av
  rw [Rat.div_def]
  exact Rat.mul_nonneg Rat.natCast_nonneg (Rat.le_of_lt (Rat.inv_pos.2 (Rat.pow_pos (by decide))))

theorem bin64 : FloatKind.f64.format.binade = 2 ^ 52 := rfl

/-- near q e A: A is q rounded: within e of A's part and half a least place -/
def nearR (q A : Rat) : Prop := q ≤ A + epR * A + etR ∧ A ≤ q + epR * A + etR

/-- m / 2 ^ t least places, rounded -/
theorem near_rr (m t : Nat) (q : Rat) (hq : q * 2 ^ t * 2 ^ 1074 = m) : nearR q ((vl FloatKind.f64.format (rr FloatKind.f64.format m t) : Rat) / 2 ^ 1074) := by
  obtain ⟨h1, h2⟩ := rr_err FloatKind.f64.format fb1 m t
  generalize vl FloatKind.f64.format (rr FloatKind.f64.format m t) = V at *
  have hbin : (FloatKind.f64.format.binade : Rat) = 2 ^ 52 := by rw [bin64]; push_cast; rfl
  generalize FloatKind.f64.format.binade = b at *
  have h1 := Rat.natCast_le_natCast.2 h1
  have h2 := Rat.natCast_le_natCast.2 h2
  have hX : (0 : Rat) < 2 ^ t := Rat.pow_pos (by decide)
  have hW : (0 : Rat) < 2 ^ 1074 := Rat.pow_pos (by decide)
  push_cast at h1 h2
  rw [hbin] at h1 h2
  clear hbin
  unfold nearR epR etR
  have hW2 : (2 : Rat) ^ 1075 = 2 ^ 1074 * 2 := Rat.pow_succ _ _
  rw [hW2]
  have h53 : (2 : Rat) ^ 53 = 2 * 2 ^ 52 := by rw [Rat.pow_succ]; grind
  rw [h53]
  generalize (2 : Rat) ^ 1074 = W at *
  generalize (2 : Rat) ^ t = X at *
  have hc : (0 : Rat) < 2 ^ 52 := by decide
  generalize (2 : Rat) ^ 52 = B at *
  rw [← hq] at h1 h2
  generalize (V : Rat) = v at *
  constructor
  · refine Rat.le_of_mul_le_mul_right (c := 2 * B * (X * W)) ?_ (Rat.mul_pos (Rat.mul_pos (by decide) hc) (Rat.mul_pos hX hW))
    have e1 : (v / W + 1 / (2 * B) * (v / W) + 1 / (W * 2)) * (2 * B * (X * W)) = (2 * B * v + v + B) * X := by grind
    have e2 : q * (2 * B * (X * W)) = 2 * B * (q * X * W) := by grind
    rw [e1, e2]; exact h1
  · refine Rat.le_of_mul_le_mul_right (c := 2 * B * (X * W)) ?_ (Rat.mul_pos (Rat.mul_pos (by decide) hc) (Rat.mul_pos hX hW))
    have e1 : (q + 1 / (2 * B) * (v / W) + 1 / (W * 2)) * (2 * B * (X * W)) = 2 * B * (q * X * W) + (v + B) * X := by grind
    have e2 : v / W * (2 * B * (X * W)) = 2 * B * v * X := by grind
    rw [e1, e2]; exact h2
end Go.Proofs.Ytoofbfjlgablkaa
namespace Go.Proofs.Ytoofbfjlgablkaa
open Ieee Go.RowKit
set_option linter.unusedSimpArgs false
set_option linter.unusedVariables false

theorem two_ne : (2 : Rat) ≠ 0 := by decide
theorem zp_pos (k : Int) : (0 : Rat) < 2 ^ k := Rat.zpow_pos (by decide)
theorem zp_add (a b : Int) : (2 : Rat) ^ (a + b) = 2 ^ a * 2 ^ b := Rat.zpow_add two_ne a b
theorem zp_nat (n : Nat) : (2 : Rat) ^ (n : Int) = 2 ^ n := Rat.zpow_natCast _ _

theorem near_any (m : Nat) (p : Int) : ∃ r, (∀ s, FloatKind.f64.format.nearest s m p = FloatKind.f64.format.word s (min r (infK .f64))) ∧ nearR ((m : Rat) * 2 ^ p) ((vl FloatKind.f64.format r : Rat) / 2 ^ 1074) := by
  by_cases h : FloatKind.f64.format.leastPlace ≤ p
  · obtain ⟨q, hq⟩ : ∃ q : Nat, p = FloatKind.f64.format.leastPlace - ((0 : Nat) : Int) + (q : Int) := ⟨(p - FloatKind.f64.format.leastPlace).toNat, by omega⟩
    refine ⟨rr FloatKind.f64.format (m * 2 ^ q) 0, fun s => by rw [hq, nearest_shift, nearest_rr]; rfl, near_rr _ _ _ ?_⟩
    have e : p + 1074 = (q : Int) := by rw [hq, least64]; omega
    have e2 : (2 : Rat) ^ p * 2 ^ 1074 = 2 ^ q := by
      rw [← zp_nat q, ← e, zp_add, ← zp_nat 1074]; rfl
    push_cast
    rw [Rat.pow_zero, Rat.mul_one, Rat.mul_assoc, e2]
  · obtain ⟨t, ht⟩ : ∃ t : Nat, p = FloatKind.f64.format.leastPlace - (t : Int) := ⟨(FloatKind.f64.format.leastPlace - p).toNat, by omega⟩
    refine ⟨rr FloatKind.f64.format m t, fun s => by rw [ht, nearest_rr]; rfl, near_rr _ _ _ ?_⟩
    have e : p + (t : Int) + 1074 = 0 := by rw [ht, least64]; omega
    have e2 : (2 : Rat) ^ p * 2 ^ t * 2 ^ 1074 = 1 := by
      rw [← zp_nat t, ← zp_add, ← zp_nat 1074, ← zp_add]
      rw [show p + (t : Int) + ((1074 : Nat) : Int) = 0 from e, Rat.zpow_zero]
    rw [Rat.mul_assoc, Rat.mul_assoc, ← Rat.mul_assoc (2 ^ p), e2, Rat.mul_one]

theorem read_num64 (x : Nat) (h : finK .f64 x = true) : ∃ m p, FloatKind.f64.format.read x = .number (ngK .f64 x) m (FloatKind.f64.format.leastPlace + (p : Nat)) ∧ m * 2 ^ p = mg x ∧ m < 2 ^ 53 := by
  have h : rgK .f64 x < infK .f64 := of_decide_eq_true h
  have hb := binade_pos FloatKind.f64.format
  unfold Format.read
  simp only []
  by_cases h1 : rg FloatKind.f64.format x < FloatKind.f64.format.binade
  · have h2 : x % FloatKind.f64.format.signWeight < FloatKind.f64.format.binade := h1
    rw [if_pos h2]
    refine ⟨x % FloatKind.f64.format.signWeight, 0, by rw [Int.natCast_zero, Int.add_zero]; rfl, ?_, ?_⟩
    · rw [Nat.pow_zero, Nat.mul_one]
      show _ = vl FloatKind.f64.format (rg FloatKind.f64.format x)
      unfold vl
      rw [if_pos h1]
      rfl
    · have : FloatKind.f64.format.binade = 2 ^ 52 := rfl
      rw [this] at h2
      exact Nat.lt_trans h2 (by decide)
  · have h2 : ¬ x % FloatKind.f64.format.signWeight < FloatKind.f64.format.binade := h1
    have h3 : x % FloatKind.f64.format.signWeight < FloatKind.f64.format.infRung := h
    rw [if_neg h2, if_pos h3]
    refine ⟨FloatKind.f64.format.binade + x % FloatKind.f64.format.signWeight % FloatKind.f64.format.binade, x % FloatKind.f64.format.signWeight / FloatKind.f64.format.binade - 1, rfl, ?_, ?_⟩
    · show _ = vl FloatKind.f64.format (rg FloatKind.f64.format x)
      unfold vl
      rw [if_neg h1]
      rfl
    · have h4 := Nat.mod_lt (x % FloatKind.f64.format.signWeight) hb
      have : FloatKind.f64.format.binade = 2 ^ 52 := rfl
      have h5 : (2 : Nat) ^ 53 = 2 * FloatKind.f64.format.binade := by rw [this]
      rw [h5]
      generalize FloatKind.f64.format.binade = B at *
      omega

theorem av_read {x m p : Nat} (h : m * 2 ^ p = mg x) : av x = (m : Rat) * 2 ^ (FloatKind.f64.format.leastPlace + (p : Int)) := by
  unfold av
  rw [← h]
  have e : FloatKind.f64.format.leastPlace + (p : Int) + ((1074 : Nat) : Int) = (p : Int) := by rw [least64]; omega
  have e2 : (2 : Rat) ^ (FloatKind.f64.format.leastPlace + (p : Int)) * 2 ^ 1074 = 2 ^ p := by
    rw [← zp_nat 1074, ← zp_add, e, zp_nat]
  push_cast
  rw [← e2, ← Rat.mul_assoc]
  exact Rat.mul_div_cancel (Rat.ne_of_gt (Rat.pow_pos (by decide)))

theorem mg_word (s : Bool) (r : Nat) (h : r < infK .f64) : mg (FloatKind.f64.format.word s (min r (infK .f64))) = vl FloatKind.f64.format r := by
  unfold mg
  rw [rgK_word _ _ _ (Nat.min_le_right _ _), Nat.min_eq_left (Nat.le_of_lt h)]

/-- a product, rounded -/
theorem mul_near {x y r : Nat} (hx : finK .f64 x = true) (hy : finK .f64 y = true) (h : resK .mul .f64 x y r) (hr : finK .f64 r = true) :
    nearR (av x * av y) (av r) ∧ ngK .f64 r = (ngK .f64 x ^^ ngK .f64 y) := by
  have e := res_is h (mul_spec x y hx hy)
  rw [e, fin_word] at hr
  have hr := of_decide_eq_true hr
  constructor
  · have hm : mg r = vl FloatKind.f64.format (rr FloatKind.f64.format (mg x * mg y) 1074) := by rw [e]; exact mg_word _ _ hr
    unfold av
    rw [hm]
    refine near_rr _ _ _ ?_
    have hW : (0 : Rat) < 2 ^ 1074 := Rat.pow_pos (by decide)
    push_cast
    generalize (2 : Rat) ^ 1074 = W at *
    grind
  · rw [e, ngK_word _ _ _ (Nat.min_le_right _ _)]

/-- a sum of two that are not below nought, rounded -/
theorem add_near {x y r : Nat} (hx : finK .f64 x = true) (hy : finK .f64 y = true) (nx : ngK .f64 x = false) (ny : ngK .f64 y = false) (h : resK .add .f64 x y r) (hr : finK .f64 r = true) :
    nearR (av x + av y) (av r) ∧ ngK .f64 r = false := by
  have e := res_is h (add_spec .f64 x y hx hy)
  have hs : svK .f64 x + svK .f64 y = ((mg x + mg y : Nat) : Int) := by
    unfold svK; rw [nx, ny]; simp only [Bool.false_eq_true, if_false]; unfold mg; omega
  rw [hs] at e
  have e0 : ¬ ((mg x + mg y : Nat) : Int) < 0 := by omega
  simp only [nx, Bool.false_and, e0, decide_false, ite_self, Int.natAbs_natCast] at e
  rw [e, fin_word] at hr
  have hr := of_decide_eq_true hr
  constructor
  · have hm : mg r = vl FloatKind.f64.format (rr FloatKind.f64.format (mg x + mg y) 0) := by rw [e]; exact mg_word _ _ hr
    unfold av
    rw [hm]
    refine near_rr _ _ _ ?_
    have hW : (0 : Rat) < 2 ^ 1074 := Rat.pow_pos (by decide)
    push_cast
    rw [Rat.pow_zero]
    generalize (2 : Rat) ^ 1074 = W at *
    grind
  · rw [e, ngK_word _ _ _ (Nat.min_le_right _ _)]

/-! ### The root -/
theorem rootFrom_spec (n : Nat) : ∀ (todo root : Nat), root * root ≤ n → n < (root + 2 ^ todo) * (root + 2 ^ todo) → Datum.rootFrom n todo root * Datum.rootFrom n todo root ≤ n ∧ n < (Datum.rootFrom n todo root + 1) * (Datum.rootFrom n todo root + 1)
  | 0, root, h1, h2 => ⟨h1, by simpa [Datum.rootFrom] using h2⟩
  | todo + 1, root, h1, h2 => by
    unfold Datum.rootFrom
    simp only [Nat.one_shiftLeft]
    by_cases h : (root + 2 ^ todo) * (root + 2 ^ todo) ≤ n
    · rw [if_pos h]
      refine rootFrom_spec n todo _ h ?_
      have e : root + 2 ^ todo + 2 ^ todo = root + 2 ^ (todo + 1) := by rw [Nat.pow_succ]; omega
      rw [e]; exact h2
    · rw [if_neg h]
      exact rootFrom_spec n todo root h1 (by omega)

theorem root_nat (m k : Nat) (hn : 2 ^ 108 ≤ m * 2 ^ k) : ∃ w st, st ≤ 1 ∧ Datum.rootFrom (m * 2 ^ k) ((m * 2 ^ k).log2 / 2 + 1) 0 = w ∧ (w * w != m * 2 ^ k).toNat = st ∧
    2 ^ 53 * ((2 * w + st) * (2 * w + st)) ≤ 2 ^ 53 * (4 * (m * 2 ^ k)) + 4 * (m * 2 ^ k) ∧ 2 ^ 53 * (4 * (m * 2 ^ k)) ≤ 2 ^ 53 * ((2 * w + st) * (2 * w + st)) + 4 * (m * 2 ^ k) := by
  generalize m * 2 ^ k = n at *
  have h0 : n < (0 + 2 ^ (n.log2 / 2 + 1)) * (0 + 2 ^ (n.log2 / 2 + 1)) := by
    rw [Nat.zero_add, ← Nat.pow_add]
    exact Nat.lt_of_lt_of_le (lt_log2 n) (Nat.pow_le_pow_right (by omega) (by omega))
  obtain ⟨h1, h2⟩ := rootFrom_spec n (n.log2 / 2 + 1) 0 (by omega) h0
  generalize Datum.rootFrom n (n.log2 / 2 + 1) 0 = w at *
  have hw : 2 ^ 54 ≤ w := by
    apply Decidable.byContradiction
    intro g
    have : (w + 1) * (w + 1) ≤ 2 ^ 54 * 2 ^ 54 := Nat.mul_le_mul (by omega) (by omega)
    rw [← Nat.pow_add] at this
    omega
  have hww : 2 ^ 54 * w ≤ w * w := Nat.mul_le_mul_right _ hw
  have e2 : (w + 1) * (w + 1) = w * w + 2 * w + 1 := by grind
  rw [e2] at h2
  refine ⟨w, (w * w != n).toNat, by cases (w * w != n) <;> simp, rfl, rfl, ?_⟩
  by_cases h : w * w = n
  · have : (w * w != n).toNat = 0 := by simp [h]
    rw [this]
    have e3 : (2 * w + 0) * (2 * w + 0) = 4 * (w * w) := by grind
    rw [e3, h]
    omega
  · have : (w * w != n).toNat = 1 := by simp [h]
    rw [this]
    have e3 : (2 * w + 1) * (2 * w + 1) = 4 * (w * w) + 4 * w + 1 := by grind
    rw [e3]
    generalize w * w = ww at *
    omega

theorem root_rat {A C Z E R a : Rat} (hE : 0 < E) (hz : 0 < Z) (hsq : R * R * 4 = A * Z) (hav : a * 4 = C * Z) (n1 : E * A ≤ E * C + C) (n2 : E * C ≤ E * A + C) : R * R ≤ a + 1 / E * a ∧ a ≤ R * R + 1 / E * a := by
  have n1 := Rat.mul_le_mul_of_nonneg_right n1 (Rat.le_of_lt hz)
  have n2 := Rat.mul_le_mul_of_nonneg_right n2 (Rat.le_of_lt hz)
  have hp : (0 : Rat) < 4 * E := Rat.mul_pos (by decide) hE
  constructor
  · refine Rat.le_of_mul_le_mul_right (c := 4 * E) ?_ hp
    have e1 : R * R * (4 * E) = E * (R * R * 4) := by grind
    have e2 : (a + 1 / E * a) * (4 * E) = E * (a * 4) + a * 4 := by grind
    rw [e1, e2, hsq, hav]
    grind
  · refine Rat.le_of_mul_le_mul_right (c := 4 * E) ?_ hp
    have e1 : (R * R + 1 / E * a) * (4 * E) = E * (R * R * 4) + a * 4 := by grind
    have e2 : a * (4 * E) = E * (a * 4) := by grind
    rw [e1, e2, hsq, hav]
    grind

theorem root_near {x : Nat} (hx : finK .f64 x = true) (nx : ngK .f64 x = false) (h0 : mg x ≠ 0) : ∃ (R : Rat) (r : Nat), 0 < R ∧ R * R ≤ av x + epR * av x ∧ av x ≤ R * R + epR * av x ∧
    FloatKind.f64.format.sqrt x = some (FloatKind.f64.format.word false (min r (infK .f64))) ∧ nearR R ((vl FloatKind.f64.format r : Rat) / 2 ^ 1074) := by
  obtain ⟨m, p, e, hv, hm⟩ := read_num64 x hx
  have hm0 : m ≠ 0 := fun h => h0 (by rw [← hv, h]; simp)
  have ha := av_read hv
  generalize hI : FloatKind.f64.format.leastPlace + (p : Int) = i at *
  -- how many digits more
  obtain ⟨more, hmore, hp, h108⟩ : ∃ more : Nat, 2 * (FloatKind.f64.format.fractionBits + 2) - m.log2 + ((i - ((2 * (FloatKind.f64.format.fractionBits + 2) - m.log2 : Nat) : Int)) % 2).toNat = more ∧ (∃ h : Int, i - (more : Int) = h + h) ∧ 2 ^ 108 ≤ m * 2 ^ more := by
    have hf : 2 * (FloatKind.f64.format.fractionBits + 2) = 108 := by decide
    rw [hf]
    have hl : m.log2 ≤ 52 := by
      have := (Nat.log2_lt hm0).2 hm
      omega
    refine ⟨_, rfl, ⟨(i - ((108 - m.log2 + ((i - ((108 - m.log2 : Nat) : Int)) % 2).toNat : Nat) : Int)) / 2, by omega⟩, ?_⟩
    have h1 := log2_le m hm0
    have h2 : 2 ^ m.log2 * 2 ^ (108 - m.log2) ≤ m * 2 ^ (108 - m.log2 + ((i - ((108 - m.log2 : Nat) : Int)) % 2).toNat) := Nat.mul_le_mul h1 (Nat.pow_le_pow_right (by omega) (by omega))
    rw [← Nat.pow_add, show m.log2 + (108 - m.log2) = 108 by omega] at h2
    exact h2
  obtain ⟨h, hh⟩ := hp
  obtain ⟨w, st, hst, hw, hs, n1, n2⟩ := root_nat m more h108
  obtain ⟨r, hr, hn⟩ := near_any (2 * w + st) (h - 1)
  refine ⟨((2 * w + st : Nat) : Rat) * 2 ^ (h - 1), r, ?_, ?_, ?_, ?_, hn⟩
  · refine Rat.mul_pos (Rat.natCast_pos.2 ?_) (zp_pos _)
    apply Decidable.byContradiction
    intro g
    have : w = 0 ∧ st = 0 := by omega
    rw [this.1, this.2] at n2
    omega
  all_goals
    have hsq : ((2 * w + st : Nat) : Rat) * 2 ^ (h - 1) * (((2 * w + st : Nat) : Rat) * 2 ^ (h - 1)) * 4 = (((2 * w + st) * (2 * w + st) : Nat) : Rat) * 2 ^ (h + h) := by
      have e4 : (2 : Rat) ^ (h + h) = 2 ^ (h - 1) * 2 ^ (h - 1) * 4 := by
        rw [← zp_add]
        have : h + h = (h - 1 + (h - 1)) + 2 := by omega
        rw [this, zp_add]
        rfl
      rw [e4, Rat.natCast_mul]
      generalize ((2 * w + st : Nat) : Rat) = z
      generalize (2 : Rat) ^ (h - 1) = y
      grind
    have hav : av x * 4 = ((4 * (m * 2 ^ more) : Nat) : Rat) * 2 ^ (h + h) := by
      rw [ha, ← hh]
      have e4 : (2 : Rat) ^ i = 2 ^ (i - (more : Int)) * 2 ^ more := by
        rw [← zp_nat, ← zp_add]; congr 1; omega
      rw [e4]
      push_cast
      generalize (2 : Rat) ^ (i - (more : Int)) = z
      generalize (2 : Rat) ^ more = y
      generalize (m : Rat) = v
      grind
    have hz := zp_pos (h + h)
    generalize ((2 * w + st : Nat) : Rat) * 2 ^ (h - 1) = R at *
    generalize (2 * w + st) * (2 * w + st) = A at *
    generalize 4 * (m * 2 ^ more) = C at *
    have n1 := Rat.natCast_le_natCast.2 n1
    have n2 := Rat.natCast_le_natCast.2 n2
    rw [Rat.natCast_add, Rat.natCast_mul, Rat.natCast_mul, show ((2 ^ 53 : Nat) : Rat) = 2 ^ 53 by push_cast; rfl] at n1 n2
  · exact (root_rat (Rat.pow_pos (by decide)) hz hsq hav n1 n2).1
  · exact (root_rat (Rat.pow_pos (by decide)) hz hsq hav n1 n2).2
  · unfold Format.sqrt
    rw [e]
    unfold Datum.root
    simp only [if_neg hm0, nx, Bool.false_eq_true, if_false, Option.map_some, Format.write]
    rw [hmore, Nat.shiftLeft_eq, hw, hs]
    have e5 : (i - (more : Int)) / 2 - 1 = h - 1 := by omega
    rw [e5, hr]
end Go.Proofs.Ytoofbfjlgablkaa
namespace Go.Proofs.Ytoofbfjlgablkaa
open Ieee Go.RowKit
set_option linter.unusedSimpArgs false
set_option linter.unusedVariables false

/-! ### The quotient -/
theorem quo_nat (m n : Nat) (hm : m < 2 ^ 53) (hn : n ≠ 0) (more : Nat) (hmore : 54 + n.log2 - m.log2 = more) :
    2 ^ 53 * ((2 * (m * 2 ^ more / n) + (m * 2 ^ more % n != 0).toNat) * n) ≤ 2 ^ 53 * (2 * (m * 2 ^ more)) + 2 * (m * 2 ^ more) ∧
    2 ^ 53 * (2 * (m * 2 ^ more)) ≤ 2 ^ 53 * ((2 * (m * 2 ^ more / n) + (m * 2 ^ more % n != 0).toNat) * n) + 2 * (m * 2 ^ more) := by
  by_cases hm0 : m = 0
  · subst hm0
    simp
  · have hD : 2 ^ 53 * n ≤ m * 2 ^ more := by
      have hl : m.log2 ≤ 52 := by
        have := (Nat.log2_lt hm0).2 hm
        omega
      have h1 := log2_le m hm0
      have h2 := lt_log2 n
      have h3 : 2 ^ m.log2 * 2 ^ more ≤ m * 2 ^ more := Nat.mul_le_mul_right _ h1
      rw [← Nat.pow_add, show m.log2 + more = 53 + (n.log2 + 1) by omega, Nat.pow_add] at h3
      have h4 : 2 ^ 53 * n ≤ 2 ^ 53 * 2 ^ (n.log2 + 1) := Nat.mul_le_mul_left _ (Nat.le_of_lt h2)
      omega
    generalize m * 2 ^ more = D at *
    have hd := Nat.div_add_mod D n
    have hr := Nat.mod_lt D (Nat.pos_of_ne_zero hn)
    generalize D / n = q at *
    generalize D % n = r at *
    by_cases hz : r = 0
    · have : (r != 0).toNat = 0 := by simp [hz]
      rw [this]
      have e : (2 * q + 0) * n = 2 * (n * q) := by grind
      rw [e]
      generalize n * q = nq at *
      omega
    · have : (r != 0).toNat = 1 := by simp [hz]
      rw [this]
      have e : (2 * q + 1) * n = 2 * (n * q) + n := by grind
      rw [e]
      generalize n * q = nq at *
      omega

theorem quo_rat {A C Z E Q n x : Rat} (hE : 0 < E) (hz : 0 < Z) (hq : Q * n * 2 = A * Z) (hx : x * 2 = C * Z) (n1 : E * A ≤ E * C + C) (n2 : E * C ≤ E * A + C) : Q * n ≤ x + 1 / E * x ∧ x ≤ Q * n + 1 / E * x := by
  have n1 := Rat.mul_le_mul_of_nonneg_right n1 (Rat.le_of_lt hz)
  have n2 := Rat.mul_le_mul_of_nonneg_right n2 (Rat.le_of_lt hz)
  have hp : (0 : Rat) < 2 * E := Rat.mul_pos (by decide) hE
  constructor
  · refine Rat.le_of_mul_le_mul_right (c := 2 * E) ?_ hp
    have e1 : Q * n * (2 * E) = E * (Q * n * 2) := by grind
    have e2 : (x + 1 / E * x) * (2 * E) = E * (x * 2) + x * 2 := by grind
    rw [e1, e2, hq, hx]
    grind
  · refine Rat.le_of_mul_le_mul_right (c := 2 * E) ?_ hp
    have e1 : (Q * n + 1 / E * x) * (2 * E) = E * (Q * n * 2) + x * 2 := by grind
    have e2 : x * (2 * E) = E * (x * 2) := by grind
    rw [e1, e2, hq, hx]
    grind

theorem near_any0 (p : Int) : ∀ s, FloatKind.f64.format.nearest s 0 p = FloatKind.f64.format.word s (min 0 (infK .f64)) := fun s => by
  unfold Format.nearest; simp

theorem quo_near {x y : Nat} (hx : finK .f64 x = true) (hy : finK .f64 y = true) (h0 : mg y ≠ 0) : ∃ (Q : Rat) (r : Nat), 0 ≤ Q ∧ Q * av y ≤ av x + epR * av x ∧ av x ≤ Q * av y + epR * av x ∧
    floatBits .quo .f64 x y = some (FloatKind.f64.format.word (ngK .f64 x ^^ ngK .f64 y) (min r (infK .f64))) ∧ nearR Q ((vl FloatKind.f64.format r : Rat) / 2 ^ 1074) ∧ (mg x = 0 → r = 0) := by
  obtain ⟨m, p, e, hv, hm⟩ := read_num64 x hx
  obtain ⟨n, q, e', hv', hn⟩ := read_num64 y hy
  have hn0 : n ≠ 0 := fun h => h0 (by rw [← hv', h]; simp)
  have ha := av_read hv
  have ha' := av_read hv'
  generalize hI : FloatKind.f64.format.leastPlace + (p : Int) = i at *
  generalize hJ : FloatKind.f64.format.leastPlace + (q : Int) = j at *
  obtain ⟨more, hmore⟩ : ∃ more, 54 + n.log2 - m.log2 = more := ⟨_, rfl⟩
  obtain ⟨n1, n2⟩ := quo_nat m n hm hn0 more hmore
  have hw : floatBits .quo .f64 x y = some (FloatKind.f64.format.nearest (ngK .f64 x ^^ ngK .f64 y) (2 * (m * 2 ^ more / n) + (m * 2 ^ more % n != 0).toNat) (i - j - (more : Int) - 1)) := by
    show FloatKind.f64.format.div _ _ = _
    unfold Format.div
    rw [e, e']
    simp only [Datum.quotient, if_neg hn0, Option.map_some, Format.write]
    rw [show FloatKind.f64.format.fractionBits + 2 = 54 from rfl, hmore, Nat.shiftLeft_eq]
  obtain ⟨r, hr, hnear, hzero⟩ : ∃ r, (∀ s, FloatKind.f64.format.nearest s (2 * (m * 2 ^ more / n) + (m * 2 ^ more % n != 0).toNat) (i - j - (more : Int) - 1) = FloatKind.f64.format.word s (min r (infK .f64))) ∧ nearR (((2 * (m * 2 ^ more / n) + (m * 2 ^ more % n != 0).toNat : Nat) : Rat) * 2 ^ (i - j - (more : Int) - 1)) ((vl FloatKind.f64.format r : Rat) / 2 ^ 1074) ∧ (mg x = 0 → r = 0) := by
    by_cases hx0 : m = 0
    · subst hx0
      refine ⟨0, by simpa using near_any0 _, ?_, fun _ => rfl⟩
      simp only [Nat.zero_mul, Nat.zero_div, Nat.zero_mod, vl_zero]
      unfold nearR epR etR
      simp
      decide +kernel
    · obtain ⟨r, h1, h2⟩ := near_any (2 * (m * 2 ^ more / n) + (m * 2 ^ more % n != 0).toNat) (i - j - (more : Int) - 1)
      exact ⟨r, h1, h2, fun h => absurd (by rw [← hv] at h; exact (Nat.mul_eq_zero.1 h).resolve_right (Nat.ne_of_gt (Nat.two_pow_pos _))) hx0⟩
  rw [hr] at hw
  generalize hA : 2 * (m * 2 ^ more / n) + (m * 2 ^ more % n != 0).toNat = A at *
  refine ⟨(A : Rat) * 2 ^ (i - j - (more : Int) - 1), r, Rat.mul_nonneg Rat.natCast_nonneg (Rat.le_of_lt (zp_pos _)), ?_, ?_, hw, hnear, hzero⟩
  all_goals
    have hq : (A : Rat) * 2 ^ (i - j - (more : Int) - 1) * av y * 2 = ((A * n : Nat) : Rat) * 2 ^ (i - (more : Int)) := by
      have e4 : (2 : Rat) ^ (i - (more : Int)) = 2 ^ (i - j - (more : Int) - 1) * 2 ^ j * 2 := by
        rw [← zp_add]
        have : i - (more : Int) = (i - j - (more : Int) - 1 + j) + 1 := by omega
        rw [this, zp_add, Rat.zpow_one]
      rw [e4, ha']
      push_cast
      generalize (2 : Rat) ^ (i - j - (more : Int) - 1) = z
      generalize (2 : Rat) ^ j = z'
      grind
    have hxx : av x * 2 = ((2 * (m * 2 ^ more) : Nat) : Rat) * 2 ^ (i - (more : Int)) := by
      rw [ha]
      have e4 : (2 : Rat) ^ i = 2 ^ (i - (more : Int)) * 2 ^ more := by
        rw [← zp_nat, ← zp_add]; congr 1; omega
      rw [e4]
      push_cast
      generalize (2 : Rat) ^ (i - (more : Int)) = z
      generalize (2 : Rat) ^ more = y
      grind
    have hz := zp_pos (i - (more : Int))
    generalize A * n = An at *
    generalize 2 * (m * 2 ^ more) = C at *
    have n1 := Rat.natCast_le_natCast.2 n1
    have n2 := Rat.natCast_le_natCast.2 n2
    rw [Rat.natCast_add, Rat.natCast_mul, Rat.natCast_mul, show ((2 ^ 53 : Nat) : Rat) = 2 ^ 53 by push_cast; rfl] at n1 n2
  · exact (quo_rat (Rat.pow_pos (by decide)) hz hq hxx n1 n2).1
  · exact (quo_rat (Rat.pow_pos (by decide)) hz hq hxx n1 n2).2
end Go.Proofs.Ytoofbfjlgablkaa
namespace Go.Proofs.Ytoofbfjlgablkaa
open Ieee Go.RowKit
set_option linter.unusedSimpArgs false
set_option linter.unusedVariables false

/-! ### How long a way of the length 1 is: the errors, one after another (e: the part by which a rounding may err; h: half a least place) -/
theorem rmul {a b c : Rat} (h : a ≤ b) (hc : 0 ≤ c) : c * a ≤ c * b := Rat.mul_le_mul_of_nonneg_left h hc
theorem rsq (a : Rat) : 0 ≤ a * a := by
  rcases Rat.le_total (a := 0) (b := a) with h | h
  · exact Rat.mul_nonneg h h
  · have : 0 ≤ (-a) * (-a) := Rat.mul_nonneg (by grind) (by grind)
    grind
def nr (e h q A : Rat) : Prop := q ≤ A + e * A + h ∧ A ≤ q + e * A + h

/-- two squares' sum, each rounded, and the sum -/
theorem sum_up {e h p q P Q S T : Rat} (he : 0 ≤ e) (he1 : e * 8 ≤ 1) (hS : 0 ≤ S) (hh : h ≤ e * e * S) (h0 : 0 ≤ h) (hp : nr e h p P) (hq : nr e h q Q) (hs : nr e h (P + Q) S) : p + q ≤ S + 3 * (e * S) ∧ S ≤ p + q + 3 * (e * S) := by
  obtain ⟨p1, p2⟩ := hp
  obtain ⟨q1, q2⟩ := hq
  obtain ⟨s1, s2⟩ := hs
  have z1 := Rat.mul_nonneg he hS
  have z2 := Rat.mul_nonneg (Rat.mul_nonneg he he) hS
  have z3 := Rat.mul_nonneg he h0
  have m1 := rmul s1 he
  have m2 : e * e * S * 8 ≤ e * S := by
    have := rmul he1 (Rat.mul_nonneg he hS)
    grind
  have m3 : e * h ≤ h := by
    have := rmul he1 h0
    have := Rat.mul_nonneg he h0
    grind
  constructor <;> grind

theorem len_up {e h R N : Rat} (he : 0 ≤ e) (he1 : e * 8 ≤ 1) (hR : 0 ≤ R) (hN : 0 ≤ N) (hh : h ≤ e * e * R) (hn : nr e h R N) : N ≤ R + 2 * (e * R) ∧ R ≤ N + 2 * (e * R) := by
  obtain ⟨n1, n2⟩ := hn
  have z1 := Rat.mul_nonneg he hR
  have z2 := Rat.mul_nonneg (Rat.mul_nonneg he he) hR
  have m2 : e * e * R * 8 ≤ e * R := by
    have := rmul he1 (Rat.mul_nonneg he hR)
    grind
  have u : N ≤ R + 2 * (e * R) := by
    refine Rat.le_of_mul_le_mul_right (c := 1 - e) ?_ (by grind)
    have e1 : (R + 2 * (e * R)) * (1 - e) = R + e * R - 2 * (e * e * R) := by grind
    rw [e1]
    grind
  refine ⟨u, ?_⟩
  have m1 := rmul u he
  grind

/-- a bound on a square from a bound on the number -/
theorem sq_le {a b : Rat} (ha : 0 ≤ a) (h : a ≤ b) : a * a ≤ b * b := by
  have h1 := rmul h ha
  have h2 := rmul h (Rat.le_trans ha h)
  grind
theorem sq_ge {A a b : Rat} (hA : 0 ≤ A) (ha : 0 ≤ a) (hb : 0 ≤ b) (h : a ≤ A + b) : a * a ≤ A * A + 2 * (a * b) := by
  rcases Rat.le_total (a := b) (b := a) with g | g
  · have h1 := sq_le (a := a - b) (b := A) (by grind) (by grind)
    have := rsq b
    grind
  · have h1 := rmul g ha
    have h2 := rsq A
    have h3 := Rat.mul_nonneg ha hb
    grind

theorem len_sq {e R N S : Rat} (he : 0 ≤ e) (he1 : e * 64 ≤ 1) (hR : 0 ≤ R) (hN : 0 ≤ N) (hS : 0 ≤ S) (r1 : R * R ≤ S + e * S) (r2 : S ≤ R * R + e * S) (n1 : N ≤ R + 2 * (e * R)) (n2 : R ≤ N + 2 * (e * R)) : N * N ≤ S + 8 * (e * S) ∧ S ≤ N * N + 8 * (e * S) := by
  have a1 := sq_le hN n1
  have hRR := rsq R
  have z1 := Rat.mul_nonneg he hRR
  have z2 := Rat.mul_nonneg (Rat.mul_nonneg he he) hRR
  have z3 := Rat.mul_nonneg he hS
  have z4 := Rat.mul_nonneg (Rat.mul_nonneg he he) hS
  have a2 := sq_ge hN hR (Rat.mul_nonneg (by decide) (Rat.mul_nonneg he hR)) n2
  have m1 : e * e * (R * R) * 64 ≤ e * (R * R) := by
    have := rmul he1 (Rat.mul_nonneg he hRR)
    grind
  have m2 := rmul r1 he
  have m3 : e * e * S * 64 ≤ e * S := by
    have := rmul he1 (Rat.mul_nonneg he hS)
    grind
  constructor <;> grind

/-- one part of the way of the length 1, times the length -/
theorem part_up {e h X N Q U : Rat} (he : 0 ≤ e) (he1 : e * 64 ≤ 1) (h0 : 0 ≤ h) (hX : 0 ≤ X) (hN : 0 ≤ N) (hQ : 0 ≤ Q) (hU : 0 ≤ U) (q1 : Q * N ≤ X + e * X) (q2 : X ≤ Q * N + e * X) (hu : nr e h Q U) :
    N * U ≤ X + 3 * (e * X) + 2 * (h * N) ∧ X ≤ N * U + 3 * (e * X) + 2 * (h * N) := by
  obtain ⟨u1, u2⟩ := hu
  have z2 := Rat.mul_nonneg (Rat.mul_nonneg he he) hX
  have z3 := Rat.mul_nonneg he (Rat.mul_nonneg h0 hN)
  have k1 := rmul u1 hN
  have k2 := rmul u2 hN
  have m1 : e * e * X * 64 ≤ e * X := by
    have := rmul he1 (Rat.mul_nonneg he hX)
    grind
  have hhN := Rat.mul_nonneg h0 hN
  have m4 : e * (h * N) * 64 ≤ h * N := by
    have := rmul he1 hhN
    grind
  have up : N * U ≤ X + 3 * (e * X) + 2 * (h * N) := by
    refine Rat.le_of_mul_le_mul_right (c := 1 - e) ?_ (by grind)
    have e1 : (X + 3 * (e * X) + 2 * (h * N)) * (1 - e) = X + 2 * (e * X) - 3 * (e * e * X) + 2 * (h * N) - 2 * (e * (h * N)) := by grind
    have e2 : N * U * (1 - e) = N * U - N * (e * U) := by grind
    rw [e1, e2]
    have hX' := Rat.mul_nonneg he hX
    grind
  refine ⟨up, ?_⟩
  have m2 := rmul up he
  have hX' := Rat.mul_nonneg he hX
  grind

theorem part_sq {e h X N A : Rat} (he : 0 ≤ e) (he1 : e * 64 ≤ 1) (h0 : 0 ≤ h) (h1 : h * 64 ≤ 1) (hX : 0 ≤ X) (hN : 0 ≤ N) (hA : 0 ≤ A) (a1 : A ≤ X + 3 * (e * X) + 2 * (h * N)) (a2 : X ≤ A + (3 * (e * X) + 2 * (h * N))) :
    A * A ≤ X * X + 7 * (e * (X * X)) + 8 * h * (N * N + X * X) ∧ X * X ≤ A * A + 6 * (e * (X * X)) + 2 * h * (N * N + X * X) := by
  have hXX := rsq X
  have hNN := rsq N
  have hNX : 2 * (N * X) ≤ N * N + X * X := by have := rsq (N - X); grind
  have hNX0 := Rat.mul_nonneg hN hX
  have b1 := sq_le hA a1
  have b2 := sq_ge hA hX (Rat.add_nonneg (Rat.mul_nonneg (by decide) (Rat.mul_nonneg he hX)) (Rat.mul_nonneg (by decide) (Rat.mul_nonneg h0 hN))) a2
  have m1 : e * e * (X * X) * 64 ≤ e * (X * X) := by
    have := rmul he1 (Rat.mul_nonneg he hXX)
    grind
  have m2 := rmul hNX h0
  have m3 : e * (h * (N * X)) * 64 ≤ h * (N * X) := by
    have := rmul he1 (Rat.mul_nonneg h0 hNX0)
    grind
  have m4 : h * h * (N * N) * 64 ≤ h * (N * N) := by
    have := rmul h1 (Rat.mul_nonneg h0 hNN)
    grind
  have z1 := Rat.mul_nonneg he hXX
  have z2 := Rat.mul_nonneg (Rat.mul_nonneg he he) hXX
  have z3 := Rat.mul_nonneg he (Rat.mul_nonneg h0 hNX0)
  have z4 := Rat.mul_nonneg (Rat.mul_nonneg h0 h0) hNN
  have z5 := Rat.mul_nonneg h0 hNX0
  have p1 := Rat.mul_nonneg h0 hXX
  have p2 := Rat.mul_nonneg h0 hNN
  constructor <;> grind

/-- the whole: a way of the length 1 is nearly so long -/
theorem long_rat {e h X Y P Q S R N Qx Qy Ux Uy P' Q' L : Rat} (he : 0 < e) (he1 : e * 1024 ≤ 1) (h0 : 0 ≤ h) (h1 : h * 1024 ≤ e)
    (hX : 0 ≤ X) (hY : 0 ≤ Y) (hS : 0 < S) (hR : 0 ≤ R) (hN : 0 ≤ N) (hQx : 0 ≤ Qx) (hQy : 0 ≤ Qy) (hUx : 0 ≤ Ux) (hUy : 0 ≤ Uy) (hL : 0 ≤ L)
    (hh1 : h ≤ e * e * S) (hh2 : h ≤ e * e * R)
    (a1 : nr e h (X * X) P) (a2 : nr e h (Y * Y) Q) (a3 : nr e h (P + Q) S)
    (b1 : R * R ≤ S + e * S) (b2 : S ≤ R * R + e * S) (b3 : nr e h R N)
    (c1 : Qx * N ≤ X + e * X) (c2 : X ≤ Qx * N + e * X) (c3 : nr e h Qx Ux)
    (d1 : Qy * N ≤ Y + e * Y) (d2 : Y ≤ Qy * N + e * Y) (d3 : nr e h Qy Uy)
    (f1 : nr e h (Ux * Ux) P') (f2 : nr e h (Uy * Uy) Q') (f3 : nr e h (P' + Q') L) : 1 ≤ L + 32 * e ∧ L ≤ 1 + 32 * e := by
  have he' := Rat.le_of_lt he
  have hS' := Rat.le_of_lt hS
  have he8 : e * 8 ≤ 1 := by grind
  have he64 : e * 64 ≤ 1 := by grind
  have hh64 : h * 64 ≤ 1 := by grind
  obtain ⟨t1, t2⟩ := sum_up (T := 0) he' he8 hS' hh1 h0 a1 a2 a3
  obtain ⟨n1, n2⟩ := len_up he' he8 hR hN hh2 b3
  obtain ⟨s1, s2⟩ := len_sq he' he64 hR hN hS' b1 b2 n1 n2
  obtain ⟨u1, u2⟩ := part_up he' he64 h0 hX hN hQx hUx c1 c2 c3
  obtain ⟨v1, v2⟩ := part_up he' he64 h0 hY hN hQy hUy d1 d2 d3
  obtain ⟨x1, x2⟩ := part_sq he' he64 h0 hh64 hX hN (Rat.mul_nonneg hN hUx) u1 (by grind)
  obtain ⟨y1, y2⟩ := part_sq he' he64 h0 hh64 hY hN (Rat.mul_nonneg hN hUy) v1 (by grind)
  clear a1 a2 a3 b1 b2 b3 c1 c2 c3 d1 d2 d3 u1 u2 v1 v2 n1 n2 hh1 hh2
  -- T: the sum of the squares; W: that of the parts of the way of the length 1
  have hT : 0 ≤ X * X + Y * Y := Rat.add_nonneg (rsq X) (rsq Y)
  have z1 := Rat.mul_nonneg he' hS'
  have z2 := Rat.mul_nonneg he' hT
  have z3 := Rat.mul_nonneg h0 hT
  have z4 := Rat.mul_nonneg h0 hS'
  have g1 : e * (X * X + Y * Y) ≤ e * (S + 3 * (e * S)) := rmul t1 he'
  have g2 : e * e * S * 1024 ≤ e * S := by have := rmul he1 z1; grind
  have g3 : h * (X * X + Y * Y) ≤ h * (S + 3 * (e * S)) := rmul t1 h0
  have g4 : h * S * 1024 ≤ e * S := by have := rmul h1 hS'; grind
  have g5 : h * (e * S) * 1024 ≤ h * S := by have := rmul he1 z4; grind
  have g6 : h * (N * N) ≤ h * (S + 8 * (e * S)) := rmul s1 h0
  have z5 := Rat.mul_nonneg (Rat.mul_nonneg he' he') hS'
  have z6 := Rat.mul_nonneg h0 z1
  have W1 : N * N * (Ux * Ux + Uy * Uy) ≤ S + 12 * (e * S) := by
    have : N * N * (Ux * Ux + Uy * Uy) = N * Ux * (N * Ux) + N * Uy * (N * Uy) := by grind
    rw [this]
    clear this y2 x2 f1 f2 f3
    grind
  have W2 : S ≤ N * N * (Ux * Ux + Uy * Uy) + 12 * (e * S) := by
    have : N * N * (Ux * Ux + Uy * Uy) = N * Ux * (N * Ux) + N * Uy * (N * Uy) := by grind
    rw [this]
    clear this y1 x1 f1 f2 f3
    grind
  clear x1 x2 y1 y2 t1 t2 g1 g3 g4 g5 g6 hT z2 z3 z4 z6
  have hW : 0 ≤ Ux * Ux + Uy * Uy := Rat.add_nonneg (rsq Ux) (rsq Uy)
  generalize hWW : Ux * Ux + Uy * Uy = W at *
  have zw := Rat.mul_nonneg hS' hW
  have k1 := rmul s1 hW
  have k2 := rmul s2 hW
  have V1 : W ≤ 1 + 24 * e := by
    refine Rat.le_of_mul_le_mul_left (c := S * (1 - 8 * e)) ?_ (Rat.mul_pos hS (by grind))
    grind
  have V2 : 1 ≤ W + 24 * e := by
    apply Decidable.byContradiction
    intro g
    have g : W < 1 - 24 * e := by grind
    have := Rat.mul_lt_mul_of_pos_left g (Rat.mul_pos hS (show (0 : Rat) < 1 + 8 * e by grind))
    grind
  obtain ⟨f4, f5⟩ := f1
  obtain ⟨f6, f7⟩ := f2
  obtain ⟨f8, f9⟩ := f3
  have hM1 : P' + Q' ≤ 2 := by
    refine Rat.le_of_mul_le_mul_right (c := 1 - e) ?_ (by grind)
    grind
  have hM2 := rmul hM1 he'
  have hL1 : L ≤ 3 := by
    refine Rat.le_of_mul_le_mul_right (c := 1 - e) ?_ (by grind)
    grind
  have hL2 := rmul hL1 he'
  clear k1 k2 s1 s2 W1 W2 g2 z1 z5 zw
  constructor <;> grind
end Go.Proofs.Ytoofbfjlgablkaa
namespace Go.Proofs.Ytoofbfjlgablkaa
open Ieee Go.RowKit
set_option linter.unusedSimpArgs false
set_option linter.unusedVariables false

/-! ### Quotients with a sign turned -/
theorem quo_neg_l (k : FloatKind) (x y : Nat) (hx : okK k x) : floatBits .quo k (Op.negFloat k x) y = (floatBits .quo k x y).map (Op.negFloat k) := by
  show k.format.div _ _ = (k.format.div _ _).map _
  unfold Format.div
  rw [read_neg k x hx, Option.map_map]
  have hi : k.format.infRung < k.format.signWeight := inf_lt_sign _
  have hinf : ∀ s, Op.negFloat k (k.format.write (.infinity s)) = k.format.write (.infinity (!s)) := fun s => word_neg k s _ hi
  have hnum : ∀ s m p, Op.negFloat k (k.format.write (.number s m p)) = k.format.write (.number (!s) m p) := fun s m p => by
    obtain ⟨r, hr, h⟩ := nearest_le k.format s m p
    show Op.negFloat k (k.format.nearest s m p) = k.format.nearest (!s) m p
    rw [h, h]
    exact word_neg k s r (by omega)
  cases k.format.read x <;> cases k.format.read y <;> simp only [Datum.opposite, Datum.quotient, Option.map_some, Option.map_none, Function.comp] <;> (try rfl)
  · split
    · split
      · rfl
      · simp [hinf]
    · simp [hnum]
  · simp [hnum]
  · simp [hinf]
theorem quo_neg_sm {x n r r' : Nat} (hx : okK .f64 x) (h : resK .quo .f64 x n r) (g : resK .quo .f64 (Op.negFloat .f64 x) n r') : smK .f64 r' (Op.negFloat .f64 r) = true := by
  have e1 := quo_neg_l .f64 x n hx
  rcases h.2 with k1 | ⟨k1, k2⟩
  · rw [k1] at e1
    rw [res_is g e1]
    exact smK_self _ _
  · rw [k1] at e1
    exact smK_nans (res_nan g e1) (by rw [neg_nan _ _ h.1]; exact k2)

theorem unit_neg {ax ay x y x' y' : Nat} {b b' : Bool} (h : UnitR ax ay x y b) (g : UnitR (Op.negFloat .f64 ax) (Op.negFloat .f64 ay) x' y' b') (hx : okK .f64 ax) (hy : okK .f64 ay) :
    b' = b ∧ (b = true → smK .f64 x' (Op.negFloat .f64 x) = true ∧ smK .f64 y' (Op.negFloat .f64 y) = true) := by
  obtain ⟨n, h1, h2, h3⟩ := h
  obtain ⟨n', g1, g2, g3⟩ := g
  have hn := h1.sm (length_neg hx hy g1)
  have hb : b' = b := by rw [h2, g2, ltK_sm hn, fin_sm hn]
  refine ⟨hb, fun hb1 => ?_⟩
  subst hb1; subst hb
  simp only [if_true] at h3 g3
  have ex : ∀ z, ∃ r, resK .quo .f64 z n r := fun z => by
    cases e : floatBits .quo .f64 z n with
    | some v => exact ⟨v, floatBits_ok e, .inl e⟩
    | none => exact ⟨9221120237041090561, by rw [okK64]; omega, .inr ⟨e, by decide +kernel⟩⟩
  obtain ⟨r1, k1⟩ := ex (Op.negFloat .f64 ax)
  obtain ⟨r2, k2⟩ := ex (Op.negFloat .f64 ay)
  exact ⟨smK_trans (res_congr (smK_self _ _) (smK_symm hn) g3.1 k1) (quo_neg_sm hx h3.1 k1), smK_trans (res_congr (smK_self _ _) (smK_symm hn) g3.2 k2) (quo_neg_sm hy h3.2 k2)⟩
theorem unit_left {ax ay x y x' y' : Nat} {b b' : Bool} (h : UnitR ax ay x y b) (g : UnitR (Op.negFloat .f64 ay) ax x' y' b') (hx : okK .f64 ax) (hy : okK .f64 ay) :
    b' = b ∧ (b = true → smK .f64 x' (Op.negFloat .f64 y) = true ∧ smK .f64 y' x = true) := by
  obtain ⟨n, h1, h2, h3⟩ := h
  obtain ⟨n', g1, g2, g3⟩ := g
  have hn := h1.sm (length_left hy g1)
  have hb : b' = b := by rw [h2, g2, ltK_sm hn, fin_sm hn]
  refine ⟨hb, fun hb1 => ?_⟩
  subst hb1; subst hb
  simp only [if_true] at h3 g3
  have ex : ∀ z, ∃ r, resK .quo .f64 z n r := fun z => by
    cases e : floatBits .quo .f64 z n with
    | some v => exact ⟨v, floatBits_ok e, .inl e⟩
    | none => exact ⟨9221120237041090561, by rw [okK64]; omega, .inr ⟨e, by decide +kernel⟩⟩
  obtain ⟨r1, k1⟩ := ex (Op.negFloat .f64 ay)
  exact ⟨smK_trans (res_congr (smK_self _ _) (smK_symm hn) g3.1 k1) (quo_neg_sm hy h3.2 k1), res_congr (smK_self _ _) (smK_symm hn) g3.2 h3.1⟩

/-! ### A square is not below nought; its root -/
theorem mul_self_sign {x p : Nat} (h : resK .mul .f64 x x p) (hn : nanK .f64 p = false) : ngK .f64 p = false := by
  rcases h.2 with e | ⟨_, e⟩
  · have e0 : floatBits .mul .f64 x x = ((FloatKind.f64.format.read x).product (FloatKind.f64.format.read x)).map FloatKind.f64.format.write := rfl
    rw [e0] at e
    cases d : FloatKind.f64.format.read x <;> rw [d] at e <;> simp only [Datum.product, Option.map_some, Option.map_none] at e
    · obtain ⟨r, hr, hw⟩ := nearest_le FloatKind.f64.format false _ _
      rw [← Option.some.inj e]
      simp only [Format.write, Bool.xor_self]
      rw [hw]
      exact ngK_word _ _ _ hr
    · rw [← Option.some.inj e]
      simp only [Format.write, Bool.xor_self]
      exact ngK_word .f64 _ _ (Nat.le_refl _)
    · cases e
  · rw [e] at hn; cases hn

/-- the square of a way: no number, or infinite, or finite; not below nought -/
theorem square_cases {ax ay s : Nat} (h : DotR ax ay ax ay s) : nanK .f64 s = true ∨ ngK .f64 s = false := by
  obtain ⟨p, q, h1, h2, h3⟩ := h
  cases hn : nanK .f64 s
  · refine .inr ?_
    rcases h3.2 with e | ⟨_, e⟩
    · have np : nanK .f64 p = false := by
        cases c : nanK .f64 p
        · rfl
        · rw [floatBits_nan_l _ _ _ _ c] at e; cases e
      have nq : nanK .f64 q = false := by
        cases c : nanK .f64 q
        · rfl
        · rw [floatBits_nan_r _ _ _ _ c] at e; cases e
      have sp := mul_self_sign h1 np
      have sq := mul_self_sign h2 nq
      cases fp : finK .f64 p
      · have e0 : floatBits .add .f64 p q = ((FloatKind.f64.format.read p).sum (FloatKind.f64.format.read q)).map FloatKind.f64.format.write := rfl
        rw [e0, read_inf _ (okF .f64) p (fin_inf fp np)] at e
        have sp : ng FloatKind.f64.format p = false := sp
        rw [sp] at e
        cases d : FloatKind.f64.format.read q <;> rw [d] at e <;> simp only [Datum.sum] at e
        · rw [← Option.some.inj e]; exact ngK_word .f64 _ _ (Nat.le_refl _)
        · split at e
          · rw [← Option.some.inj e]; exact ngK_word .f64 _ _ (Nat.le_refl _)
          · cases e
        · cases e
      · cases fq : finK .f64 q
        · have e0 : floatBits .add .f64 p q = ((FloatKind.f64.format.read p).sum (FloatKind.f64.format.read q)).map FloatKind.f64.format.write := rfl
          rw [e0, read_inf _ (okF .f64) q (fin_inf fq nq)] at e
          have sq : ng FloatKind.f64.format q = false := sq
          rw [sq] at e
          cases d : FloatKind.f64.format.read p <;> rw [d] at e <;> simp only [Datum.sum] at e
          · rw [← Option.some.inj e]; exact ngK_word .f64 _ _ (Nat.le_refl _)
          · split at e
            · rename_i s' hs'
              subst hs'
              rw [← Option.some.inj e]; exact ngK_word .f64 _ _ (Nat.le_refl _)
            · cases e
          · cases e
        · have e1 := add_spec .f64 p q fp fq
          have hs : svK .f64 p + svK .f64 q = ((mg p + mg q : Nat) : Int) := by
            unfold svK; rw [sp, sq]; simp only [Bool.false_eq_true, if_false]; unfold mg; omega
          rw [hs] at e1
          have e0 : ¬ ((mg p + mg q : Nat) : Int) < 0 := by omega
          simp only [sp, Bool.false_and, e0, decide_false, ite_self, Int.natAbs_natCast] at e1
          rw [res_is h3 e1]
          exact ngK_word .f64 _ _ (Nat.min_le_right _ _)
    · rw [e] at hn; cases hn
  · exact .inl rfl
end Go.Proofs.Ytoofbfjlgablkaa
namespace Go.Proofs.Ytoofbfjlgablkaa
open Ieee Go.RowKit
set_option linter.unusedSimpArgs false
set_option linter.unusedVariables false

/-! ### Small numbers are finite -/
theorem pow2_cast (n : Nat) : ((2 ^ n : Nat) : Rat) = 2 ^ n := by rw [Rat.natCast_pow]; rfl
theorem rp_add (a b : Nat) : (2 : Rat) ^ (a + b) = 2 ^ a * 2 ^ b := by rw [← zp_nat, ← zp_nat, ← zp_nat, ← zp_add]; rfl
theorem vl_inf : vl FloatKind.f64.format (infK .f64) = 2 ^ 2098 := by decide +kernel
theorem W_pos : (0 : Rat) < 2 ^ 1074 := Rat.pow_pos (by decide)
theorem rung_fin {r : Nat} (h : ((vl FloatKind.f64.format r : Nat) : Rat) / 2 ^ 1074 ≤ 2 ^ 1000) : r < infK .f64 := by
  apply Decidable.byContradiction
  intro g
  have h1 := vl_le FloatKind.f64.format (Nat.le_of_not_lt g)
  rw [vl_inf] at h1
  have h2 := Rat.natCast_le_natCast.2 h1
  have h3 : ((2 ^ 2098 : Nat) : Rat) = 2 ^ 1024 * 2 ^ 1074 := (pow2_cast 2098).trans (rp_add 1024 1074)
  rw [h3] at h2
  have h4 : (2 : Rat) ^ 1024 = 2 ^ 1000 * 2 ^ 24 := rp_add 1000 24
  have h5 : (2 : Rat) ^ 24 = 16777216 := by decide +kernel
  have h6 : (0 : Rat) < 2 ^ 1000 := Rat.pow_pos (by decide)
  have hW := W_pos
  have h7 : ((vl FloatKind.f64.format r : Nat) : Rat) ≤ 2 ^ 1000 * 2 ^ 1074 := by
    have := Rat.mul_le_mul_of_nonneg_right h (Rat.le_of_lt hW)
    rw [Rat.div_mul_cancel (Rat.ne_of_gt hW)] at this
    exact this
  rw [h4, h5] at h2
  have h8 : (0 : Rat) < 2 ^ 1000 * 2 ^ 1074 := Rat.mul_pos h6 hW
  generalize (2 : Rat) ^ 1000 = A at *
  generalize (2 : Rat) ^ 1074 = W at *
  generalize ((vl FloatKind.f64.format r : Nat) : Rat) = v at *
  grind

theorem av_word (s : Bool) (r : Nat) (h : r < infK .f64) : av (FloatKind.f64.format.word s (min r (infK .f64))) = (vl FloatKind.f64.format r : Rat) / 2 ^ 1074 := by
  unfold av; rw [mg_word s r h]
theorem fin_of (s : Bool) {r : Nat} (h : r < infK .f64) : finK .f64 (FloatKind.f64.format.word s (min r (infK .f64))) = true := by rw [fin_word]; exact decide_eq_true h

/-- a product that comes out small is finite, and near -/
theorem mul_small {x y r : Nat} (hx : finK .f64 x = true) (hy : finK .f64 y = true) (h : resK .mul .f64 x y r) (hb : av x * av y ≤ 2 ^ 100) : finK .f64 r = true := by
  have e := res_is h (mul_spec x y hx hy)
  rw [e]
  refine fin_of _ (rung_fin ?_)
  have hn : nearR (av x * av y) ((vl FloatKind.f64.format (rr FloatKind.f64.format (mg x * mg y) 1074) : Rat) / 2 ^ 1074) := by
    refine near_rr _ _ _ ?_
    have hW := W_pos
    unfold av
    push_cast
    generalize (2 : Rat) ^ 1074 = W at *
    grind
  have hn := hn.2
  have a1 : epR ≤ 1 / 4 := by decide +kernel
  have a2 : etR ≤ 1 := by decide +kernel
  have a4 : (0 : Rat) ≤ (vl FloatKind.f64.format (rr FloatKind.f64.format (mg x * mg y) 1074) : Rat) / 2 ^ 1074 := by
    rw [Rat.div_def]; exact Rat.mul_nonneg Rat.natCast_nonneg (Rat.le_of_lt (Rat.inv_pos.2 W_pos))
  have a3 : (2 : Rat) ^ 100 * 2 + 2 ≤ 2 ^ 1000 := by decide +kernel
  show (vl FloatKind.f64.format (rr FloatKind.f64.format (mg x * mg y) 1074) : Rat) / 2 ^ 1074 ≤ _
  generalize (vl FloatKind.f64.format (rr FloatKind.f64.format (mg x * mg y) 1074) : Rat) / 2 ^ 1074 = A at *
  have a5 := rmul a1 a4
  generalize av x * av y = q at *
  generalize (2 : Rat) ^ 100 = H at *
  generalize (2 : Rat) ^ 1000 = K at *
  grind

/-- a sum of two that are not below nought and small is finite -/
theorem add_small {x y r : Nat} (hx : finK .f64 x = true) (hy : finK .f64 y = true) (nx : ngK .f64 x = false) (ny : ngK .f64 y = false) (h : resK .add .f64 x y r) (hb : av x + av y ≤ 2 ^ 100) : finK .f64 r = true := by
  have e := res_is h (add_spec .f64 x y hx hy)
  have hs : svK .f64 x + svK .f64 y = ((mg x + mg y : Nat) : Int) := by
    unfold svK; rw [nx, ny]; simp only [Bool.false_eq_true, if_false]; unfold mg; omega
  rw [hs] at e
  have e0 : ¬ ((mg x + mg y : Nat) : Int) < 0 := by omega
  simp only [nx, Bool.false_and, e0, decide_false, ite_self, Int.natAbs_natCast] at e
  rw [e]
  refine fin_of _ (rung_fin ?_)
  have hn : nearR (av x + av y) ((vl FloatKind.f64.format (rr FloatKind.f64.format (mg x + mg y) 0) : Rat) / 2 ^ 1074) := by
    refine near_rr _ _ _ ?_
    have hW := W_pos
    unfold av
    push_cast
    rw [Rat.pow_zero]
    generalize (2 : Rat) ^ 1074 = W at *
    grind
  have hn := hn.2
  have a1 : epR ≤ 1 / 4 := by decide +kernel
  have a2 : etR ≤ 1 := by decide +kernel
  have a4 : (0 : Rat) ≤ (vl FloatKind.f64.format (rr FloatKind.f64.format (mg x + mg y) 0) : Rat) / 2 ^ 1074 := by
    rw [Rat.div_def]; exact Rat.mul_nonneg Rat.natCast_nonneg (Rat.le_of_lt (Rat.inv_pos.2 W_pos))
  have a3 : (2 : Rat) ^ 100 * 2 + 2 ≤ 2 ^ 1000 := by decide +kernel
  generalize (vl FloatKind.f64.format (rr FloatKind.f64.format (mg x + mg y) 0) : Rat) / 2 ^ 1074 = A at *
  have a5 := rmul a1 a4
  generalize av x + av y = q at *
  generalize (2 : Rat) ^ 100 = H at *
  generalize (2 : Rat) ^ 1000 = K at *
  grind

theorem mg_le {x : Nat} (h : finK .f64 x = true) : mg x ≤ 2 ^ 2098 := by
  have h : rgK .f64 x < infK .f64 := of_decide_eq_true h
  rw [← vl_inf]
  exact vl_le _ (Nat.le_of_lt h)
theorem av_le {x : Nat} (h : finK .f64 x = true) : av x ≤ 2 ^ 1024 := by
  have h1 := Rat.natCast_le_natCast.2 (mg_le h)
  have h3 : ((2 ^ 2098 : Nat) : Rat) = 2 ^ 1024 * 2 ^ 1074 := (pow2_cast 2098).trans (rp_add 1024 1074)
  rw [h3] at h1
  have hW := W_pos
  refine Rat.le_of_mul_le_mul_right (c := 2 ^ 1074) ?_ hW
  unfold av
  rw [Rat.div_mul_cancel (Rat.ne_of_gt hW)]
  exact h1
theorem av_ge {x : Nat} (h : mg x ≠ 0) : 1 / 2 ^ 1074 ≤ av x := by
  have h1 : ((1 : Nat) : Rat) ≤ (mg x : Rat) := Rat.natCast_le_natCast.2 (by omega)
  have hW := W_pos
  refine Rat.le_of_mul_le_mul_right (c := 2 ^ 1074) ?_ hW
  unfold av
  rw [Rat.div_mul_cancel (Rat.ne_of_gt hW), Rat.div_mul_cancel (Rat.ne_of_gt hW)]
  exact h1

/-- the root of a finite number above nought: finite, above nought, near -/
theorem root_fin {s n : Nat} (hs : finK .f64 s = true) (ns : ngK .f64 s = false) (h0 : mg s ≠ 0) (h : sqR s n) :
    finK .f64 n = true ∧ ngK .f64 n = false ∧ mg n ≠ 0 ∧ ∃ R : Rat, 0 < R ∧ R * R ≤ av s + epR * av s ∧ av s ≤ R * R + epR * av s ∧ nearR R (av n) := by
  obtain ⟨R, r, hR, r1, r2, e, hn⟩ := root_near hs ns h0
  have hsm := av_le hs
  have hsg := av_ge h0
  have hA0 : (0 : Rat) ≤ (vl FloatKind.f64.format r : Rat) / 2 ^ 1074 := by
    rw [Rat.div_def]; exact Rat.mul_nonneg Rat.natCast_nonneg (Rat.le_of_lt (Rat.inv_pos.2 W_pos))
  have a1 : epR ≤ 1 / 4 := by decide +kernel
  have a0 : 0 ≤ epR := by decide +kernel
  have a2 : etR ≤ 1 := by decide +kernel
  have hav := av_nn s
  have m1 := rmul a1 hav
  have hr : r < infK .f64 := by
    apply rung_fin
    -- R is at most 2 ^ 513
    have hRb : R ≤ 2 ^ 513 := by
      apply Decidable.byContradiction
      intro g
      have g : (2 : Rat) ^ 513 ≤ R := by grind
      have := sq_le (a := 2 ^ 513) (Rat.le_of_lt (Rat.pow_pos (by decide))) g
      have e1 : (2 : Rat) ^ 513 * 2 ^ 513 = 2 ^ 1024 * 4 := ((rp_add 513 513).symm.trans (rp_add 1024 2)).trans (by congr 1)
      have e2 : (0 : Rat) < 2 ^ 1024 := Rat.pow_pos (by decide)
      rw [e1] at this
      generalize (2 : Rat) ^ 1024 = K at *
      generalize (2 : Rat) ^ 513 = H at *
      grind
    have hn := hn.2
    have a5 := rmul a1 hA0
    have a3 : (2 : Rat) ^ 513 * 2 + 2 ≤ 2 ^ 1000 := by decide +kernel
    generalize (vl FloatKind.f64.format r : Rat) / 2 ^ 1074 = A at *
    generalize (2 : Rat) ^ 513 = H at *
    generalize (2 : Rat) ^ 1000 = K at *
    grind
  have en := sq_is h e
  have hav2 : av n = (vl FloatKind.f64.format r : Rat) / 2 ^ 1074 := by rw [en]; exact av_word _ _ hr
  refine ⟨by rw [en]; exact fin_of _ hr, by rw [en]; exact ngK_word .f64 _ _ (Nat.min_le_right _ _), ?_, R, hR, r1, r2, by rw [hav2]; exact hn⟩
  intro hz
  have hz2 : av n = 0 := by unfold av; rw [hz, Rat.div_def]; exact Rat.zero_mul _
  rw [← hav2, hz2] at hn
  have hn := hn.1
  -- R at most half a least place: too small
  have hRs : R ≤ etR := by grind
  have := sq_le (Rat.le_of_lt hR) hRs
  have e3 : etR * etR * 4 ≤ 1 / 2 ^ 1074 := by decide +kernel
  have e4 : (0 : Rat) < 1 / 2 ^ 1074 := by decide +kernel
  generalize (1 : Rat) / 2 ^ 1074 = U at *
  grind
end Go.Proofs.Ytoofbfjlgablkaa
namespace Go.Proofs.Ytoofbfjlgablkaa
open Ieee Go.RowKit
set_option linter.unusedSimpArgs false
set_option linter.unusedVariables false

theorem lt_zero (x : Nat) : ltK .f64 0 x = (!nanK .f64 x && !ngK .f64 x && decide (rgK .f64 x ≠ 0)) := by
  unfold ltK
  rw [nought_nan, nought_wo, woK_eq, Bool.eq_iff_iff]
  cases nanK .f64 x <;> cases ngK .f64 x <;> simp <;> omega
theorem zero_lt (x : Nat) : ltK .f64 x 0 = (!nanK .f64 x && ngK .f64 x && decide (rgK .f64 x ≠ 0)) := by
  unfold ltK
  rw [nought_nan, nought_wo, woK_eq, Bool.eq_iff_iff]
  cases nanK .f64 x <;> cases ngK .f64 x <;> simp <;> omega
theorem mg_zero {x : Nat} : mg x = 0 ↔ rgK .f64 x = 0 := by
  unfold mg
  constructor
  · intro h
    apply Decidable.byContradiction
    intro g
    have := vl_lt FloatKind.f64.format (Nat.pos_of_ne_zero g)
    omega
  · intro h; rw [h, vl_zero]
/-- at most the greatest float, of numbers not below nought -/
theorem le_most (x : Nat) (n : ngK .f64 x = false) (hn : nanK .f64 x = false) : leK .f64 x 9218868437227405311 = finK .f64 x := by
  have h1 : nanK .f64 9218868437227405311 = false := by decide +kernel
  have h2 : woK .f64 9218868437227405311 = 9218868437227405311 := by decide +kernel
  unfold leK finK
  rw [h1, h2, hn, woK_eq, n, inf64, Bool.eq_iff_iff]
  simp
  omega
theorem le_sm {a x y : Nat} (h : smK .f64 x y = true) : leK .f64 x a = leK .f64 y a := by
  rcases smK_cases h with rfl | ⟨h1, h2⟩
  · rfl
  · unfold leK; rw [h1, h2]; rfl

/-- where there is a way of the length 1, told by the square -/
theorem unit_ok {ax ay s x y : Nat} {b : Bool} (h : DotR ax ay ax ay s) (g : UnitR ax ay x y b) : b = (ltK .f64 0 s && leK .f64 s 9218868437227405311) := by
  obtain ⟨n, ⟨s', h1, h2⟩, g2, _⟩ := g
  have hs := h.sm h1
  rw [ltK_sm hs, le_sm hs, g2]
  clear g2 hs h
  rcases square_cases h1 with hn | hn
  · have : nanK .f64 n = true := by
      rcases h2.2 with e | ⟨_, e⟩
      · rw [sqrt_nan _ hn] at e; cases e
      · exact e
    rw [lt_zero, lt_zero, hn, this]; rfl
  · cases nn : nanK .f64 s'
    · rw [le_most s' hn nn]
      cases hf : finK .f64 s'
      · -- infinite
        have hi := fin_inf hf nn
        have e : FloatKind.f64.format.sqrt s' = some (FloatKind.f64.format.word false (infK .f64)) := by
          unfold Format.sqrt
          rw [read_inf _ (okF .f64) s' hi, show ng FloatKind.f64.format s' = false from hn]
          rfl
        rw [sq_is h2 e, inf_not_fin, Bool.and_false, Bool.and_false]
      · by_cases hz : mg s' = 0
        · -- nought
          obtain ⟨m, p, e, hv, _⟩ := read_num64 s' hf
          have hm : m = 0 := by
            rw [hz] at hv
            exact (Nat.mul_eq_zero.1 hv).resolve_right (Nat.ne_of_gt (Nat.two_pow_pos _))
          have e1 : FloatKind.f64.format.sqrt s' = some (FloatKind.f64.format.word false 0) := by
            unfold Format.sqrt
            rw [e, hn, hm]
            unfold Datum.root
            simp only [if_true, Option.map_some, Format.write]
            unfold Format.nearest
            simp
          rw [sq_is h2 e1, lt_zero s', lt_zero, rgK_word _ _ _ (Nat.zero_le _), mg_zero.1 hz]
          simp
        · obtain ⟨f1, f2, f3, _⟩ := root_fin hf hn hz h2
          rw [f1, lt_zero, lt_zero, fin_num f1, f2, nn, hn]
          have j1 : rgK .f64 n ≠ 0 := fun h => f3 (mg_zero.2 h)
          have j2 : rgK .f64 s' ≠ 0 := fun h => hz (mg_zero.2 h)
          rw [decide_eq_true j1, decide_eq_true j2]
    · have : nanK .f64 n = true := by
        rcases h2.2 with e | ⟨_, e⟩
        · rw [sqrt_nan _ nn] at e; cases e
        · exact e
      rw [lt_zero, lt_zero, nn, this]; rfl

/-- what lies behind a way of the length 1 -/
theorem unit_parts {ax ay x y : Nat} (g : UnitR ax ay x y true) : ∃ p q s n, resK .mul .f64 ax ax p ∧ resK .mul .f64 ay ay q ∧ resK .add .f64 p q s ∧ sqR s n ∧ resK .quo .f64 ax n x ∧ resK .quo .f64 ay n y ∧
    finK .f64 ax = true ∧ finK .f64 ay = true ∧ finK .f64 p = true ∧ finK .f64 q = true ∧ finK .f64 s = true ∧ ngK .f64 s = false ∧ mg s ≠ 0 ∧ finK .f64 n = true ∧ ngK .f64 n = false ∧ mg n ≠ 0 := by
  have hk := g
  obtain ⟨n, ⟨s, hd, h2⟩, g2, g3⟩ := g
  have hs := unit_ok hd hk
  simp only [if_true] at g3
  have g2 := g2.symm
  rw [Bool.and_eq_true] at g2
  have hs := hs.symm
  rw [Bool.and_eq_true] at hs
  have l1 := hs.1
  rw [lt_zero] at l1
  simp only [Bool.and_eq_true, Bool.not_eq_true', decide_eq_true_eq] at l1
  obtain ⟨⟨nn, ng⟩, rz⟩ := l1
  have hf : finK .f64 s = true := by rw [← le_most s ng nn]; exact hs.2
  have l2 := g2.1
  rw [lt_zero] at l2
  simp only [Bool.and_eq_true, Bool.not_eq_true', decide_eq_true_eq] at l2
  obtain ⟨p, q, k1, k2, k3⟩ := hd
  obtain ⟨fp, fq⟩ := add_fin k3 hf
  exact ⟨p, q, s, n, k1, k2, k3, h2, g3.1, g3.2, square_fin k1 fp, square_fin k2 fq, fp, fq, hf, ng, fun h => rz (mg_zero.1 h), g2.2, l2.1.2, fun h => l2.2 (mg_zero.1 h)⟩

/-- a part of the way of the length 1 points where the way's part points -/
theorem quo_sign {a n x : Nat} (ha : finK .f64 a = true) (hn : finK .f64 n = true) (nn : ngK .f64 n = false) (n0 : mg n ≠ 0) (h : resK .quo .f64 a n x) :
    (ltK .f64 0 x = true → leK .f64 a 0 = false) ∧ (ltK .f64 x 0 = true → leK .f64 0 a = false) := by
  obtain ⟨Q, r, _, _, _, e, _, hz⟩ := quo_near ha hn n0
  have ex := res_is h e
  rw [nn, Bool.xor_false] at ex
  have hg : ngK .f64 x = ngK .f64 a := by rw [ex]; exact ngK_word .f64 _ _ (Nat.min_le_right _ _)
  have hr : rgK .f64 x ≠ 0 → rgK .f64 a ≠ 0 := fun h1 h2 => h1 (by
    rw [ex, rgK_word .f64 _ _ (Nat.min_le_right _ _), hz (mg_zero.2 h2)]
    exact Nat.zero_min _)
  constructor
  · intro h1
    rw [lt_zero] at h1
    simp only [Bool.and_eq_true, Bool.not_eq_true', decide_eq_true_eq] at h1
    have := hr h1.2
    unfold leK
    rw [nought_wo, woK_eq, ← hg, h1.1.2]
    simp
    intro _ _
    omega
  · intro h1
    rw [zero_lt] at h1
    simp only [Bool.and_eq_true, Bool.not_eq_true', decide_eq_true_eq] at h1
    have := hr h1.2
    unfold leK
    rw [nought_wo, woK_eq, ← hg, h1.1.2]
    simp
    intro _ _
    omega
theorem unit_sign {ax ay x y : Nat} (g : UnitR ax ay x y true) :
    (ltK .f64 0 x = true → leK .f64 ax 0 = false) ∧ (ltK .f64 x 0 = true → leK .f64 0 ax = false) ∧ (ltK .f64 0 y = true → leK .f64 ay 0 = false) ∧ (ltK .f64 y 0 = true → leK .f64 0 ay = false) := by
  obtain ⟨p, q, s, n, _, _, _, _, k5, k6, fx, fy, _, _, _, _, _, fn, nn, n0⟩ := unit_parts g
  exact ⟨(quo_sign fx fn nn n0 k5).1, (quo_sign fx fn nn n0 k5).2, (quo_sign fy fn nn n0 k6).1, (quo_sign fy fn nn n0 k6).2⟩
end Go.Proofs.Ytoofbfjlgablkaa
namespace Go.Proofs.Ytoofbfjlgablkaa
open Ieee Go.RowKit
set_option linter.unusedSimpArgs false
set_option linter.unusedVariables false

theorem rlt_le {a b c : Rat} (h : a < b) (g : b ≤ c) : a < c := by grind
theorem av_le_mg {a b : Nat} (h : av a ≤ av b) : mg a ≤ mg b := by
  have hW := W_pos
  have h := Rat.mul_le_mul_of_nonneg_right h (Rat.le_of_lt hW)
  unfold av at h
  rw [Rat.div_mul_cancel (Rat.ne_of_gt hW), Rat.div_mul_cancel (Rat.ne_of_gt hW)] at h
  exact Rat.natCast_le_natCast.1 h
theorem mg_le_av {a b : Nat} (h : mg a ≤ mg b) : av a ≤ av b := by
  have hW := W_pos
  refine Rat.le_of_mul_le_mul_right (c := 2 ^ 1074) ?_ hW
  unfold av
  rw [Rat.div_mul_cancel (Rat.ne_of_gt hW), Rat.div_mul_cancel (Rat.ne_of_gt hW)]
  exact Rat.natCast_le_natCast.2 h
theorem mg_rg {a b : Nat} : mg a ≤ mg b ↔ rgK .f64 a ≤ rgK .f64 b := by
  unfold mg
  constructor
  · intro h
    apply Decidable.byContradiction
    intro g
    have := vl_lt FloatKind.f64.format (Nat.lt_of_not_le g)
    omega
  · exact fun h => vl_le _ h
theorem le_of_av {a b : Nat} (na : ngK .f64 a = false) (nb : ngK .f64 b = false) (fa : finK .f64 a = true) (fb : finK .f64 b = true) (h : av a ≤ av b) : leK .f64 a b = true := by
  have h := mg_rg.1 (av_le_mg h)
  unfold leK
  rw [fin_num fa, fin_num fb, woK_eq, woK_eq, na, nb]
  simp only [Bool.false_eq_true, if_false, Bool.not_false, Bool.and_true, Bool.true_and]
  exact decide_eq_true (Int.ofNat_le.2 h)
theorem av_of_lt {a b : Nat} (na : ngK .f64 a = false) (nb : ngK .f64 b = false) (fa : finK .f64 a = true) (fb : finK .f64 b = true) (h : ltK .f64 a b = false) : av b ≤ av a := by
  unfold ltK at h
  rw [fin_num fa, fin_num fb, woK_eq, woK_eq, na, nb] at h
  simp only [Bool.false_eq_true, if_false, Bool.not_false, Bool.and_true, Bool.true_and] at h
  have h := of_decide_eq_false h
  exact mg_le_av (mg_rg.2 (by omega))

theorem part_small {e h X Y P Q S R N Qx : Rat} (he : 0 ≤ e) (he1 : e * 1024 ≤ 1) (h0 : 0 ≤ h) (hX : 0 ≤ X) (hY : 0 ≤ Y) (hS : 0 < S) (hR : 0 ≤ R) (hN : 0 < N) (hQx : 0 ≤ Qx)
    (hh1 : h ≤ e * e * S) (hh2 : h ≤ e * e * R) (a1 : nr e h (X * X) P) (a2 : nr e h (Y * Y) Q) (a3 : nr e h (P + Q) S)
    (b1 : R * R ≤ S + e * S) (b2 : S ≤ R * R + e * S) (b3 : nr e h R N) : X ≤ 2 * N ∧ Y ≤ 2 * N := by
  have hS' := Rat.le_of_lt hS
  have hN' := Rat.le_of_lt hN
  obtain ⟨t1, t2⟩ := sum_up (T := 0) he (by grind) hS' hh1 h0 a1 a2 a3
  obtain ⟨n1, n2⟩ := len_up he (by grind) hR hN' hh2 b3
  obtain ⟨s1, s2⟩ := len_sq he (by grind) hR hN' hS' b1 b2 n1 n2
  have z1 : e * S * 1024 ≤ S := by have := rmul he1 hS'; grind
  have hXX := rsq X
  have hYY := rsq Y
  have hNN : 0 < N * N := Rat.mul_pos hN hN
  constructor
  · apply Decidable.byContradiction
    intro g
    have g : 2 * N ≤ X := by grind
    have := sq_le (Rat.mul_nonneg (by decide) hN') g
    grind
  · apply Decidable.byContradiction
    intro g
    have g : 2 * N ≤ Y := by grind
    have := sq_le (Rat.mul_nonneg (by decide) hN') g
    grind

/-- one part: it is finite, at most 5, near -/
theorem part_near {a n x : Nat} (fa : finK .f64 a = true) (fn : finK .f64 n = true) (n0 : mg n ≠ 0) (h : resK .quo .f64 a n x) (hb : av a ≤ 2 * av n) :
    finK .f64 x = true ∧ av x ≤ 5 ∧ ∃ Q : Rat, 0 ≤ Q ∧ Q * av n ≤ av a + epR * av a ∧ av a ≤ Q * av n + epR * av a ∧ nearR Q (av x) := by
  obtain ⟨Q, r, q0, q1, q2, e, hn, _⟩ := quo_near fa fn n0
  have ex := res_is h e
  have a1 : epR ≤ 1 / 4 := by decide +kernel
  have a0 : 0 ≤ epR := by decide +kernel
  have a2 : etR ≤ 1 / 4 := by decide +kernel
  have hN : 0 < av n := rlt_le (by decide +kernel) (av_ge n0)
  have hA0 : (0 : Rat) ≤ (vl FloatKind.f64.format r : Rat) / 2 ^ 1074 := by
    rw [Rat.div_def]; exact Rat.mul_nonneg Rat.natCast_nonneg (Rat.le_of_lt (Rat.inv_pos.2 W_pos))
  have hQ : Q ≤ 5 / 2 := by
    refine Rat.le_of_mul_le_mul_right (c := av n) ?_ hN
    have m1 := rmul a1 (av_nn a)
    generalize av n = N at *
    generalize av a = X at *
    grind
  have hA5 : (vl FloatKind.f64.format r : Rat) / 2 ^ 1074 ≤ 5 := by
    have hn := hn.2
    have m1 := rmul a1 hA0
    generalize (vl FloatKind.f64.format r : Rat) / 2 ^ 1074 = A at *
    grind
  have hr : r < infK .f64 := rung_fin (Rat.le_trans hA5 (by decide +kernel))
  have hav : av x = (vl FloatKind.f64.format r : Rat) / 2 ^ 1074 := by rw [ex]; exact av_word _ _ hr
  exact ⟨by rw [ex]; exact fin_of _ hr, by rw [hav]; exact hA5, Q, q0, q1, q2, by rw [hav]; exact hn⟩

/-- **a way of the length 1 is nearly so long** -/
theorem unit_long {ax ay x y s L : Nat} (g : UnitR ax ay x y true) (hd : DotR ax ay ax ay s) (h9 : ltK .f64 s 553942754166571008 = false) (hl : DotR x y x y L) :
    leK .f64 4607182418800017376 L = true ∧ leK .f64 L 4607182418800017424 = true := by
  obtain ⟨p, q, s', n, k1, k2, k3, k4, k5, k6, fx, fy, fp, fq, fs, ns, s0, fn, nn, n0⟩ := unit_parts g
  have hs : s = s' := by
    rcases smK_cases (hd.sm ⟨p, q, k1, k2, k3⟩) with h | ⟨_, h⟩
    · exact h
    · rw [fin_num fs] at h; cases h
  subst hs
  have S9 := av_of_lt ns (by decide +kernel) fs (by decide +kernel) h9
  have e0 : 0 < epR := by decide +kernel
  have e1 : epR * 1024 ≤ 1 := by decide +kernel
  have h0 : 0 ≤ etR := by decide +kernel
  have h1 : etR * 1024 ≤ epR := by decide +kernel
  have c9 : (1 : Rat) / 2 ^ 900 ≤ av 553942754166571008 := by decide +kernel
  have S9 := Rat.le_trans c9 S9
  have hS : 0 < av s := rlt_le (by decide +kernel) S9
  have hh1 : etR ≤ epR * epR * av s := by
    have k : etR ≤ epR * epR * (1 / 2 ^ 900) := by decide +kernel
    exact Rat.le_trans k (rmul S9 (Rat.mul_nonneg (Rat.le_of_lt e0) (Rat.le_of_lt e0)))
  obtain ⟨a1, sp⟩ := mul_near fx fx k1 fp
  obtain ⟨a2, sq⟩ := mul_near fy fy k2 fq
  rw [Bool.xor_self] at sp sq
  obtain ⟨a3, _⟩ := add_near fp fq sp sq k3 fs
  obtain ⟨_, _, _, R, hR, b1, b2, b3⟩ := root_fin fs ns s0 k4
  have hh2 : etR ≤ epR * epR * R := by
    apply Decidable.byContradiction
    intro c
    have hRs : R ≤ 1 / 2 ^ 900 := by
      have k : etR ≤ epR * epR * (1 / 2 ^ 900) := by decide +kernel
      apply Decidable.byContradiction
      intro d
      have d : (1 : Rat) / 2 ^ 900 ≤ R := by grind
      exact c (Rat.le_trans k (rmul d (Rat.mul_nonneg (Rat.le_of_lt e0) (Rat.le_of_lt e0))))
    have h2 := sq_le (Rat.le_of_lt hR) hRs
    have h3 : (1 : Rat) / 2 ^ 900 * (1 / 2 ^ 900) * 4 ≤ 1 / 2 ^ 900 := by decide +kernel
    have h4 := rmul (show epR ≤ 1 / 4 by decide +kernel) (Rat.le_of_lt hS)
    have h5 : (0 : Rat) < 1 / 2 ^ 900 := by decide +kernel
    generalize (1 : Rat) / 2 ^ 900 = U at *
    generalize av s = S at *
    generalize epR = e at *
    grind
  have hN : 0 < av n := rlt_le (by decide +kernel) (av_ge n0)
  obtain ⟨x2, y2⟩ := part_small (Rat.le_of_lt e0) e1 h0 (av_nn ax) (av_nn ay) hS (Rat.le_of_lt hR) hN (Qx := 0) (by decide) hh1 hh2 a1 a2 a3 b1 b2 b3
  obtain ⟨ux, x5, Qx, qx0, c1, c2, c3⟩ := part_near fx fn n0 k5 x2
  obtain ⟨uy, y5, Qy, qy0, d1, d2, d3⟩ := part_near fy fn n0 k6 y2
  obtain ⟨p', q', l1, l2, l3⟩ := hl
  have xx : av x * av x ≤ 25 := by have := sq_le (av_nn x) x5; grind
  have yy : av y * av y ≤ 25 := by have := sq_le (av_nn y) y5; grind
  have b25 : (25 : Rat) ≤ 2 ^ 100 := by decide +kernel
  have fp' := mul_small ux ux l1 (Rat.le_trans xx b25)
  have fq' := mul_small uy uy l2 (Rat.le_trans yy b25)
  obtain ⟨f1, sp'⟩ := mul_near ux ux l1 fp'
  obtain ⟨f2, sq'⟩ := mul_near uy uy l2 fq'
  rw [Bool.xor_self] at sp' sq'
  have hsum : av p' + av q' ≤ 2 ^ 100 := by
    have m0 : (120 : Rat) ≤ 2 ^ 100 := by decide +kernel
    have m1 := rmul (show epR ≤ 1 / 4 by decide +kernel) (av_nn p')
    have m2 := rmul (show epR ≤ 1 / 4 by decide +kernel) (av_nn q')
    have m3 : etR ≤ 1 := by decide +kernel
    have g1 := f1.2
    have g2 := f2.2
    generalize av p' = P at *
    generalize av q' = Q at *
    generalize av x * av x = XX at *
    generalize av y * av y = YY at *
    generalize (2 : Rat) ^ 100 = K at *
    grind
  have fL := add_small fp' fq' sp' sq' l3 hsum
  obtain ⟨f3, nL⟩ := add_near fp' fq' sp' sq' l3 fL
  obtain ⟨z1, z2⟩ := long_rat e0 e1 h0 h1 (av_nn ax) (av_nn ay) hS (Rat.le_of_lt hR) (Rat.le_of_lt hN) qx0 qy0 (av_nn x) (av_nn y) (av_nn L) hh1 hh2 a1 a2 a3 b1 b2 b3 c1 c2 c3 d1 d2 d3 f1 f2 f3
  constructor
  · refine le_of_av (by decide +kernel) nL (by decide +kernel) fL ?_
    have e3 : av 4607182418800017376 = 1 - 32 * epR := by decide +kernel
    rw [e3]
    grind
  · refine le_of_av nL (by decide +kernel) fL (by decide +kernel) ?_
    have e3 : av 4607182418800017424 = 1 + 32 * epR := by decide +kernel
    rw [e3]
    exact z2

theorem unit_zero {ax ay x y : Nat} (g : UnitR ax ay x y false) : x = 0 ∧ y = 0 := by
  obtain ⟨n, _, _, h⟩ := g
  simpa using h
theorem sign_three {a x : Nat} (h : (ltK .f64 0 x = true → leK .f64 a 0 = false) ∧ (ltK .f64 x 0 = true → leK .f64 0 a = false)) :
    (ltK .f64 0 x = true ∧ ltK .f64 x 0 = false ∧ leK .f64 a 0 = false) ∨ (ltK .f64 0 x = false ∧ ltK .f64 x 0 = true ∧ leK .f64 0 a = false) ∨ (ltK .f64 0 x = false ∧ ltK .f64 x 0 = false) := by
  have e1 := lt_zero x
  have e2 := zero_lt x
  cases h1 : ltK .f64 0 x
  · cases h2 : ltK .f64 x 0
    · exact .inr (.inr ⟨rfl, rfl⟩)
    · exact .inr (.inl ⟨rfl, rfl, h.2 h2⟩)
  · refine .inl ⟨rfl, ?_, h.1 h1⟩
    rw [h1] at e1
    rw [e2]
    cases hg : ngK .f64 x
    · simp
    · rw [hg] at e1; simp at e1
end Go.Proofs.Ytoofbfjlgablkaa
namespace Go.Proofs.Ytoofbfjlgablkaa
open Ieee Go.RowKit
set_option linter.unusedSimpArgs false
set_option linter.unusedVariables false

/-! ### Powers of two: numbers so many times as great -/
abbrev DF : Format := FloatKind.f64.format
theorem fb52 : DF.fractionBits = 52 := rfl
theorem vl_shift {r : Nat} (h : DF.binade ≤ r) (q : Nat) : vl DF (r + q * DF.binade) = vl DF r * 2 ^ q := by
  have hB := binade_pos DF
  obtain ⟨e, he⟩ : ∃ e, r / DF.binade = e + 1 := ⟨r / DF.binade - 1, by have := (Nat.one_le_div_iff hB).2 h; omega⟩
  have hd := Nat.div_add_mod r DF.binade
  have hm := Nat.mod_lt r hB
  rw [he, Nat.mul_add, Nat.mul_one, Nat.mul_comm DF.binade e] at hd
  generalize r % DF.binade = K at *
  have e1 := vl_mk2 DF e (DF.binade + K) (by omega) (fun _ => by omega)
  have e2 := vl_mk2 DF (e + q) (DF.binade + K) (by omega) (fun _ => by omega)
  rw [show e * DF.binade + (DF.binade + K) = r by omega] at e1
  rw [show (e + q) * DF.binade + (DF.binade + K) = r + q * DF.binade by rw [Nat.add_mul]; omega] at e2
  rw [e1, e2, Nat.pow_add, Nat.mul_assoc]
theorem vl_pow (n : Nat) : vl DF ((n + 1) * DF.binade) = 2 ^ (n + 52) := by
  have := vl_mk2 DF n DF.binade (by omega) (fun _ => Nat.le_refl _)
  rw [Nat.add_mul, Nat.one_mul, this, show DF.binade = 2 ^ 52 from rfl, ← Nat.pow_add, Nat.add_comm]
theorem ne_of_pow {m t : Nat} (h : 2 ^ t ≤ m) : m ≠ 0 := by have := Nat.two_pow_pos t; omega
theorem log_of_pow {m t : Nat} (h : 2 ^ t ≤ m) : t ≤ m.log2 := (Nat.le_log2 (ne_of_pow h)).2 h
theorem rr_scale {m t : Nat} (h : 2 ^ (t + 52) ≤ m) (q : Nat) : rr DF (m * 2 ^ q) t = rr DF m t + q * DF.binade := by
  have hm := ne_of_pow h
  have hl := log_of_pow h
  unfold rr
  rw [log2_mul_pow m q hm, fb52, show m.log2 + q - (t + 52) = m.log2 - (t + 52) + q by omega, ← Nat.add_assoc, cut_scale _ _ _ _ hm, Nat.add_mul]
  omega
theorem rr_lo {m t a : Nat} (ha : 52 ≤ a) (h : 2 ^ (t + a) ≤ m) : 2 ^ a ≤ vl DF (rr DF m t) := by
  obtain ⟨n, rfl⟩ : ∃ n, a = n + 52 := ⟨a - 52, by omega⟩
  have h1 := rr_mono DF fb1 t h
  have h2 := rr_exact DF fb1 ((n + 1) * DF.binade) t
  rw [vl_pow, ← Nat.pow_add, Nat.add_comm (n + 52) t] at h2
  rw [h2] at h1
  have := vl_le DF h1
  rwa [vl_pow] at this
theorem rr_hi {m t b : Nat} (hb : 52 ≤ b) (h : m ≤ 2 ^ (t + b)) : vl DF (rr DF m t) ≤ 2 ^ b := by
  obtain ⟨n, rfl⟩ : ∃ n, b = n + 52 := ⟨b - 52, by omega⟩
  have h1 := rr_mono DF fb1 t h
  have h2 := rr_exact DF fb1 ((n + 1) * DF.binade) t
  rw [vl_pow, ← Nat.pow_add, Nat.add_comm (n + 52) t] at h2
  rw [h2] at h1
  have := vl_le DF h1
  rwa [vl_pow] at this
theorem rr_bin {m t : Nat} (h : 2 ^ (t + 52) ≤ m) : DF.binade ≤ rr DF m t := by
  have h1 := rr_mono DF fb1 t h
  have h2 := rr_exact DF fb1 ((0 + 1) * DF.binade) t
  rw [vl_pow, ← Nat.pow_add, Nat.zero_add, Nat.one_mul, Nat.add_comm 52 t] at h2
  rwa [h2] at h1
theorem round_scale {m m' t i j : Nat} (h : m' * 2 ^ i = m * 2 ^ j) (h0 : m = 0 ∨ (2 ^ (t + 52) ≤ m ∧ 2 ^ (t + 52) ≤ m')) : vl DF (rr DF m' t) * 2 ^ i = vl DF (rr DF m t) * 2 ^ j := by
  rcases h0 with h0 | ⟨h1, h2⟩
  · subst h0
    have : m' = 0 := by
      rw [Nat.zero_mul] at h
      exact (Nat.mul_eq_zero.1 h).resolve_right (Nat.ne_of_gt (Nat.two_pow_pos _))
    subst this
    rw [rr_zero, vl_zero]; simp
  · rw [← vl_shift (rr_bin h2), ← rr_scale h2, h, rr_scale h1, vl_shift (rr_bin h1)]
theorem pow_tr {n k m : Nat} (h : n ≤ k) (g : 2 ^ k ≤ m) : 2 ^ n ≤ m := Nat.le_trans (Nat.pow_le_pow_right (by decide) h) g
theorem pow_no {b c : Nat} (h : b < c) : ¬ 2 ^ c ≤ 2 ^ b := Nat.not_le.2 (Nat.pow_lt_pow_right (by decide) h)
theorem round_scale2 {m m' t i j a a' : Nat} (h : m' * 2 ^ i = m * 2 ^ j) (h0 : m = 0 ∨ (2 ^ a ≤ m ∧ 2 ^ a' ≤ m')) (ha : t + 52 ≤ a) (ha' : t + 52 ≤ a') : vl DF (rr DF m' t) * 2 ^ i = vl DF (rr DF m t) * 2 ^ j :=
  round_scale h (h0.imp_right fun ⟨x, y⟩ => ⟨pow_tr ha x, pow_tr ha' y⟩)
theorem small_fin {r b : Nat} (hb : b ≤ 2097) (h : vl DF r ≤ 2 ^ b) : r < infK .f64 := by
  apply Decidable.byContradiction
  intro g
  have h1 := vl_le DF (Nat.le_of_not_lt g)
  rw [vl_inf] at h1
  exact pow_no (by omega) (Nat.le_trans h1 h)

/-- x' is x times 2 ^ (j - i) -/
def Sc (i j x x' : Nat) : Prop := finK .f64 x = true ∧ finK .f64 x' = true ∧ okK .f64 x ∧ okK .f64 x' ∧ ngK .f64 x' = ngK .f64 x ∧ mg x' * 2 ^ i = mg x * 2 ^ j
/-- nought, or of a size -/
def Rg (a b x : Nat) : Prop := mg x = 0 ∨ (2 ^ a ≤ mg x ∧ mg x ≤ 2 ^ b)
theorem Sc.refl {x : Nat} (h : finK .f64 x = true) (o : okK .f64 x) : Sc 0 0 x x := ⟨h, h, o, o, rfl, rfl⟩
theorem Sc.unique {i j x y z : Nat} (h : Sc i j x y) (g : Sc i j x z) : y = z := by
  obtain ⟨_, _, _, o1, n1, m1⟩ := h
  obtain ⟨_, _, _, o2, n2, m2⟩ := g
  rw [same_iff .f64 y z o1 o2]
  refine ⟨n1.trans n2.symm, vl_inj DF ?_⟩
  exact Nat.eq_of_mul_eq_mul_right (Nat.two_pow_pos i) (m1.trans m2.symm)

theorem mul_sc {i j k l x x' y y' z z' a b c d a' b' c' d' : Nat} (h : Sc i j x x') (g : Sc k l y y') (hz : resK .mul .f64 x y z) (hz' : resK .mul .f64 x' y' z')
    (r1 : Rg a b x) (r2 : Rg c d y) (r3 : Rg a' b' x') (r4 : Rg c' d' y') (u1 : 1126 ≤ a + c) (u2 : 1126 ≤ a' + c') (u3 : b + d ≤ 3171) (u4 : b' + d' ≤ 3171) :
    Sc (i + k) (j + l) z z' ∧ Rg (a + c - 1074) (b + d - 1074) z ∧ Rg (a' + c' - 1074) (b' + d' - 1074) z' := by
  obtain ⟨fx, fx', ox, ox', nx, mx⟩ := h
  obtain ⟨fy, fy', oy, oy', ny, my⟩ := g
  have e := res_is hz (mul_spec x y fx fy)
  have e' := res_is hz' (mul_spec x' y' fx' fy')
  have hp : mg x' * mg y' * 2 ^ (i + k) = mg x * mg y * 2 ^ (j + l) := by
    rw [Nat.pow_add, Nat.pow_add]
    have : mg x' * mg y' * (2 ^ i * 2 ^ k) = mg x' * 2 ^ i * (mg y' * 2 ^ k) := by grind
    rw [this, mx, my]; grind
  -- the sizes
  have size : ∀ {u v a b c d : Nat}, Rg a b u → Rg c d v → mg u * mg v = 0 ∨ (2 ^ (a + c) ≤ mg u * mg v ∧ mg u * mg v ≤ 2 ^ (b + d)) := by
    intro u v a b c d h1 h2
    rcases h1 with h1 | h1
    · exact .inl (by rw [h1]; simp)
    · rcases h2 with h2 | h2
      · exact .inl (by rw [h2]; simp)
      · exact .inr ⟨by rw [Nat.pow_add]; exact Nat.mul_le_mul h1.1 h2.1, by rw [Nat.pow_add]; exact Nat.mul_le_mul h1.2 h2.2⟩
  have fin : ∀ {u v a b c d : Nat}, Rg a b u → Rg c d v → 1126 ≤ a + c → b + d ≤ 3171 → rr DF (mg u * mg v) 1074 < infK .f64 ∧ (vl DF (rr DF (mg u * mg v) 1074) = 0 ∨ (2 ^ (a + c - 1074) ≤ vl DF (rr DF (mg u * mg v) 1074) ∧ vl DF (rr DF (mg u * mg v) 1074) ≤ 2 ^ (b + d - 1074))) := by
    intro u v a b c d h1 h2 k1 k2
    rcases size h1 h2 with h | ⟨h3, h4⟩
    · rw [h, rr_zero, vl_zero]; exact ⟨infK_pos _, .inl rfl⟩
    · have hbd : 1126 ≤ b + d := by
        apply Decidable.byContradiction
        intro g
        have : (2 : Nat) ^ (b + d) < 2 ^ (a + c) := Nat.pow_lt_pow_right (by omega) (by omega)
        omega
      have lo := rr_lo (m := mg u * mg v) (t := 1074) (a := a + c - 1074) (by omega) (by rw [show 1074 + (a + c - 1074) = a + c by omega]; exact h3)
      have hi := rr_hi (m := mg u * mg v) (t := 1074) (b := b + d - 1074) (by omega) (by rw [show 1074 + (b + d - 1074) = b + d by omega]; exact h4)
      exact ⟨small_fin (by omega) hi, .inr ⟨lo, hi⟩⟩
  obtain ⟨f1, g1⟩ := fin r1 r2 u1 u3
  obtain ⟨f2, g2⟩ := fin r3 r4 u2 u4
  have m1 : mg z = vl DF (rr DF (mg x * mg y) 1074) := by rw [e]; exact mg_word _ _ f1
  have m2 : mg z' = vl DF (rr DF (mg x' * mg y') 1074) := by rw [e']; exact mg_word _ _ f2
  refine ⟨⟨by rw [e]; exact fin_of _ f1, by rw [e']; exact fin_of _ f2, hz.1, hz'.1, ?_, ?_⟩, by unfold Rg; rw [m1]; exact g1, by unfold Rg; rw [m2]; exact g2⟩
  · rw [e, e', ngK_word _ _ _ (Nat.min_le_right _ _), ngK_word _ _ _ (Nat.min_le_right _ _), nx, ny]
  · rw [m1, m2]
    refine round_scale2 (a := a + c) (a' := a' + c') hp ?_ (by omega) (by omega)
    rcases size r1 r2 with h | ⟨h3, _⟩
    · exact .inl h
    · rcases size r3 r4 with h | ⟨h5, _⟩
      · rw [h, Nat.zero_mul] at hp
        exact .inl ((Nat.mul_eq_zero.1 hp.symm).resolve_right (Nat.ne_of_gt (Nat.two_pow_pos _)))
      · exact .inr ⟨h3, h5⟩

/-- a number that great is a multiple -/
theorem dvd_of_size {x a : Nat} (h : 2 ^ a ≤ mg x) (ha : 52 ≤ a) : 2 ^ (a - 52) ∣ mg x := by
  unfold mg at *
  generalize rgK .f64 x = r at *
  by_cases h1 : r < DF.binade
  · exfalso
    have e1 := vl_mk2 DF 0 r (by omega) (by omega)
    simp only [Nat.zero_mul, Nat.zero_add, Nat.pow_zero, Nat.mul_one] at e1
    rw [e1] at h
    have h2 : r < 2 ^ 52 := h1
    have h3 : (2 : Nat) ^ 52 ≤ 2 ^ a := Nat.pow_le_pow_right (by omega) ha
    omega
  · have hB := binade_pos DF
    obtain ⟨e, he⟩ : ∃ e, r / DF.binade = e + 1 := ⟨r / DF.binade - 1, by have := (Nat.one_le_div_iff hB).2 (Nat.le_of_not_lt h1); omega⟩
    have hd := Nat.div_add_mod r DF.binade
    have hm := Nat.mod_lt r hB
    rw [he, Nat.mul_add, Nat.mul_one, Nat.mul_comm DF.binade e] at hd
    generalize r % DF.binade = K at *
    have e1 := vl_mk2 DF e (DF.binade + K) (by omega) (fun _ => by omega)
    rw [show e * DF.binade + (DF.binade + K) = r by omega] at e1
    rw [e1] at h ⊢
    have hae : a - 52 ≤ e := by
      apply Decidable.byContradiction
      intro g
      have h2 : (DF.binade + K) * 2 ^ e < 2 * DF.binade * 2 ^ e := Nat.mul_lt_mul_of_pos_right (by omega) (Nat.two_pow_pos e)
      have h3 : 2 * DF.binade * 2 ^ e = 2 ^ (53 + e) := by rw [show 2 * DF.binade = 2 ^ 53 from rfl, ← Nat.pow_add]
      have h4 : (2 : Nat) ^ (53 + e) ≤ 2 ^ a := Nat.pow_le_pow_right (by omega) (by omega)
      omega
    exact Nat.dvd_trans (Nat.pow_dvd_pow 2 hae) (Nat.dvd_mul_left _ _)
theorem rg_dvd {x a b : Nat} (h : Rg a b x) (ha : 52 ≤ a) : 2 ^ (a - 52) ∣ mg x := by
  rcases h with h | h
  · rw [h]; exact Nat.dvd_zero _
  · exact dvd_of_size h.1 ha
theorem rg_le {x a b : Nat} (h : Rg a b x) : mg x ≤ 2 ^ b := by
  rcases h with h | h
  · rw [h]; exact Nat.zero_le _
  · exact h.2

theorem add_sc {i j x x' y y' z z' a b a' b' : Nat} (h : Sc i j x x') (g : Sc i j y y') (hz : resK .add .f64 x y z) (hz' : resK .add .f64 x' y' z')
    (r1 : Rg a b x) (r2 : Rg a b y) (r3 : Rg a' b' x') (r4 : Rg a' b' y') (u1 : 104 ≤ a) (u2 : 104 ≤ a') (u3 : b ≤ 2096) (u4 : b' ≤ 2096) (v1 : 52 ≤ b) (v2 : 52 ≤ b') :
    Sc i j z z' ∧ Rg (a - 52) (b + 1) z ∧ Rg (a' - 52) (b' + 1) z' := by
  obtain ⟨fx, fx', ox, ox', nx, mx⟩ := h
  obtain ⟨fy, fy', oy, oy', ny, my⟩ := g
  have e := res_is hz (add_spec .f64 x y fx fy)
  have e' := res_is hz' (add_spec .f64 x' y' fx' fy')
  have sx : svK .f64 x' * (2 ^ i : Nat) = svK .f64 x * (2 ^ j : Nat) := by
    unfold svK
    rw [nx]
    have : (vl DF (rgK .f64 x') : Int) * (2 ^ i : Nat) = (vl DF (rgK .f64 x) : Int) * (2 ^ j : Nat) := by
      rw [← Int.natCast_mul, ← Int.natCast_mul]; exact congrArg _ mx
    cases ngK .f64 x <;> simp only [Bool.false_eq_true, if_false, if_true]
    · exact this
    · rw [Int.neg_mul, Int.neg_mul, this]
  have sy : svK .f64 y' * (2 ^ i : Nat) = svK .f64 y * (2 ^ j : Nat) := by
    unfold svK
    rw [ny]
    have : (vl DF (rgK .f64 y') : Int) * (2 ^ i : Nat) = (vl DF (rgK .f64 y) : Int) * (2 ^ j : Nat) := by
      rw [← Int.natCast_mul, ← Int.natCast_mul]; exact congrArg _ my
    cases ngK .f64 y <;> simp only [Bool.false_eq_true, if_false, if_true]
    · exact this
    · rw [Int.neg_mul, Int.neg_mul, this]
  have hT : (svK .f64 x' + svK .f64 y') * (2 ^ i : Nat) = (svK .f64 x + svK .f64 y) * (2 ^ j : Nat) := by
    rw [Int.add_mul, Int.add_mul, sx, sy]
  have abs_sv : ∀ u, (svK .f64 u).natAbs = mg u := fun u => by
    unfold svK mg; split <;> simp
  have size : ∀ {u v a b : Nat}, Rg a b u → Rg a b v → 104 ≤ a → (svK .f64 u + svK .f64 v).natAbs = 0 ∨ (2 ^ (a - 52) ≤ (svK .f64 u + svK .f64 v).natAbs ∧ (svK .f64 u + svK .f64 v).natAbs ≤ 2 ^ (b + 1)) := by
    intro u v a b h1 h2 ha
    have d1 : ((2 ^ (a - 52) : Nat) : Int) ∣ svK .f64 u := Int.natAbs_dvd_natAbs.1 (by rw [Int.natAbs_natCast, abs_sv]; exact rg_dvd h1 (by omega))
    have d2 : ((2 ^ (a - 52) : Nat) : Int) ∣ svK .f64 v := Int.natAbs_dvd_natAbs.1 (by rw [Int.natAbs_natCast, abs_sv]; exact rg_dvd h2 (by omega))
    have d3 := Int.natAbs_dvd_natAbs.2 (Int.dvd_add d1 d2)
    rw [Int.natAbs_natCast] at d3
    by_cases hz : (svK .f64 u + svK .f64 v).natAbs = 0
    · exact .inl hz
    · refine .inr ⟨Nat.le_of_dvd (Nat.pos_of_ne_zero hz) d3, ?_⟩
      have := Int.natAbs_add_le (svK .f64 u) (svK .f64 v)
      rw [abs_sv, abs_sv] at this
      have k1 := rg_le h1
      have k2 := rg_le h2
      rw [Nat.pow_succ]
      omega
  have fin : ∀ {u v a b : Nat}, Rg a b u → Rg a b v → 104 ≤ a → b ≤ 2096 → 52 ≤ b → rr DF (svK .f64 u + svK .f64 v).natAbs 0 < infK .f64 ∧ (vl DF (rr DF (svK .f64 u + svK .f64 v).natAbs 0) = 0 ∨ (2 ^ (a - 52) ≤ vl DF (rr DF (svK .f64 u + svK .f64 v).natAbs 0) ∧ vl DF (rr DF (svK .f64 u + svK .f64 v).natAbs 0) ≤ 2 ^ (b + 1))) := by
    intro u v a b h1 h2 k1 k2 k3
    rcases size h1 h2 k1 with h | ⟨h3, h4⟩
    · rw [h, rr_zero, vl_zero]; exact ⟨infK_pos _, .inl rfl⟩
    · have lo := rr_lo (t := 0) (a := a - 52) (by omega) (by rw [Nat.zero_add]; exact h3)
      have hi := rr_hi (t := 0) (b := b + 1) (by omega) (by rw [Nat.zero_add]; exact h4)
      exact ⟨small_fin (by omega) hi, .inr ⟨lo, hi⟩⟩
  obtain ⟨f1, g1⟩ := fin r1 r2 u1 u3 v1
  obtain ⟨f2, g2⟩ := fin r3 r4 u2 u4 v2
  have m1 : mg z = vl DF (rr DF (svK .f64 x + svK .f64 y).natAbs 0) := by rw [e]; exact mg_word _ _ f1
  have m2 : mg z' = vl DF (rr DF (svK .f64 x' + svK .f64 y').natAbs 0) := by rw [e']; exact mg_word _ _ f2
  have pi : (0 : Int) < ((2 ^ i : Nat) : Int) := Int.natCast_pos.2 (Nat.two_pow_pos i)
  have pj : (0 : Int) < ((2 ^ j : Nat) : Int) := Int.natCast_pos.2 (Nat.two_pow_pos j)
  refine ⟨⟨by rw [e]; exact fin_of _ f1, by rw [e']; exact fin_of _ f2, hz.1, hz'.1, ?_, ?_⟩, by unfold Rg; rw [m1]; exact g1, by unfold Rg; rw [m2]; exact g2⟩
  · rw [e, e', ngK_word _ _ _ (Nat.min_le_right _ _), ngK_word _ _ _ (Nat.min_le_right _ _)]
    generalize svK .f64 x' + svK .f64 y' = T' at *
    generalize svK .f64 x + svK .f64 y = T at *
    generalize ((2 ^ i : Nat) : Int) = I at *
    generalize ((2 ^ j : Nat) : Int) = J at *
    have z : T' = 0 ↔ T = 0 := by
      constructor
      · intro h; rw [h, Int.zero_mul] at hT; exact (Int.mul_eq_zero.1 hT.symm).resolve_right (by omega)
      · intro h; rw [h, Int.zero_mul] at hT; exact (Int.mul_eq_zero.1 hT).resolve_right (by omega)
    have l : T' < 0 ↔ T < 0 := by
      constructor
      · intro h
        apply Decidable.byContradiction
        intro g
        have a1 := Int.mul_neg_of_neg_of_pos h pi
        have a2 := Int.mul_nonneg (show 0 ≤ T by omega) (Int.le_of_lt pj)
        omega
      · intro h
        apply Decidable.byContradiction
        intro g
        have a1 := Int.mul_neg_of_neg_of_pos h pj
        have a2 := Int.mul_nonneg (show 0 ≤ T' by omega) (Int.le_of_lt pi)
        omega
    rw [nx, ny]
    by_cases hz : T = 0
    · rw [if_pos hz, if_pos (z.2 hz)]
    · rw [if_neg hz, if_neg (fun h => hz (z.1 h))]
      rw [decide_eq_decide]; exact l
  · rw [m1, m2]
    have hN : (svK .f64 x' + svK .f64 y').natAbs * 2 ^ i = (svK .f64 x + svK .f64 y).natAbs * 2 ^ j := by
      have := congrArg Int.natAbs hT
      rwa [Int.natAbs_mul, Int.natAbs_mul, Int.natAbs_natCast, Int.natAbs_natCast] at this
    refine round_scale hN ?_
    rcases size r1 r2 u1 with h | ⟨h3, _⟩
    · exact .inl h
    · rcases size r3 r4 u2 with h | ⟨h5, _⟩
      · rw [h, Nat.zero_mul] at hN
        exact .inl ((Nat.mul_eq_zero.1 hN.symm).resolve_right (Nat.ne_of_gt (Nat.two_pow_pos _)))
      · rw [Nat.zero_add]
        exact .inr ⟨pow_tr (by omega) h3, pow_tr (by omega) h5⟩
end Go.Proofs.Ytoofbfjlgablkaa
namespace Go.Proofs.Ytoofbfjlgablkaa
open Ieee Go.RowKit
set_option linter.unusedSimpArgs false
set_option linter.unusedVariables false

/-! ### A product with a power of two; a half; roots and quotients of what is so many times as great -/
def oneB : Nat := 4607182418800017408
theorem one_mg : mg oneB = 2 ^ 1074 := by decide +kernel
theorem one_fin : finK .f64 oneB = true := by decide +kernel
theorem one_ng : ngK .f64 oneB = false := by decide +kernel
theorem one_okK : okK .f64 oneB := by rw [okK64]; decide
theorem mul_one (x : Nat) (h : finK .f64 x = true) (o : okK .f64 x) : floatBits .mul .f64 x oneB = some x := by
  rw [mul_spec x oneB h one_fin, one_ng, Bool.xor_false]
  have e : vl FloatKind.f64.format (rgK .f64 x) * vl FloatKind.f64.format (rgK .f64 oneB) = vl FloatKind.f64.format (rgK .f64 x) * 2 ^ 1074 := congrArg _ one_mg
  have e2 := (congrArg (fun m => rr FloatKind.f64.format m 1074) e).trans (rr_exact FloatKind.f64.format fb1 (rgK .f64 x) 1074)
  rw [show rr FloatKind.f64.format (vl FloatKind.f64.format (rgK .f64 x) * vl FloatKind.f64.format (rgK .f64 oneB)) 1074 = rgK .f64 x from e2]
  have h : rgK .f64 x < infK .f64 := of_decide_eq_true h
  rw [Nat.min_eq_left (Nat.le_of_lt h)]
  exact congrArg some (word_eq _ x o).symm
theorem one_mul (x : Nat) (h : finK .f64 x = true) (o : okK .f64 x) : floatBits .mul .f64 oneB x = some x := by
  rw [mul_comm_bits]; exact mul_one x h o

/-- times a power of two -/
theorem scale_sc {i j z s t a b a' b' : Nat} (fz : finK .f64 z = true) (oz : okK .f64 z) (hs : Sc i j oneB s) (ht : resK .mul .f64 z s t) (r : Rg a b z) (r' : Rg a' b' s) (u1 : 52 ≤ a) (u2 : 1126 ≤ a + a') (u3 : b ≤ 2097) (u4 : b + b' ≤ 3171) :
    Sc i j z t ∧ Rg (a + a' - 1074) (b + b' - 1074) t := by
  have ho : resK .mul .f64 z oneB z := ⟨oz, .inl (mul_one z fz oz)⟩
  have r1 : Rg 1074 1074 oneB := .inr ⟨by rw [one_mg]; exact Nat.le_refl _, by rw [one_mg]; exact Nat.le_refl _⟩
  have := mul_sc (Sc.refl fz oz) hs ho ht r r1 r r' (by omega) u2 (by omega) u4
  rw [Nat.zero_add, Nat.zero_add] at this
  exact ⟨this.1, this.2.2⟩

def twoB : Nat := 4611686018427387904
theorem two_read : DF.read twoB = .number false (2 ^ 52) (-51) := by decide +kernel
/-- half of a number that is not too small -/
theorem half_sc {z h a b : Nat} (fz : finK .f64 z = true) (oz : okK .f64 z) (hz : resK .quo .f64 z twoB h) (r : Rg a b z) (u1 : 53 ≤ a) (u2 : b ≤ 2097) : Sc 1 0 z h ∧ Rg (a - 1) (b - 1) h := by
  obtain ⟨m, p, e, hv, hm⟩ := read_num64 z fz
  -- what is written
  have key : floatBits .quo .f64 z twoB = some (DF.nearest (ngK .f64 z) m (DF.leastPlace + (p : Int) - 1)) := by
    show DF.div _ _ = _
    unfold Format.div
    rw [e, two_read]
    have h52 : (2 : Nat) ^ 52 ≠ 0 := by decide
    have hl : (2 ^ 52 : Nat).log2 = 52 := by decide +kernel
    simp only [Datum.quotient, if_neg h52, Option.map_some, Format.write, Bool.xor_false, hl, fb52]
    congr 1
    by_cases hm0 : m = 0
    · subst hm0
      simp only [Nat.zero_shiftLeft, Nat.zero_div, Nat.zero_mod]
      unfold Format.nearest
      simp
    · have hlm : m.log2 ≤ 52 := by
        have := (Nat.log2_lt hm0).2 hm
        omega
      obtain ⟨more, hmore, h54⟩ : ∃ more, 52 + 2 + 52 - m.log2 = more ∧ 54 ≤ more := ⟨_, rfl, by omega⟩
      rw [hmore, Nat.shiftLeft_eq]
      have e1 : m * 2 ^ more = m * 2 ^ (more - 52) * 2 ^ 52 := by rw [Nat.mul_assoc, ← Nat.pow_add]; congr 2; omega
      rw [e1, Nat.mul_div_cancel _ (Nat.two_pow_pos 52), Nat.mul_mod_left]
      have e2 : 2 * (m * 2 ^ (more - 52)) + ((0 : Nat) != 0).toNat = m * 2 ^ (more - 51) := by
        have : more - 51 = more - 52 + 1 := by omega
        rw [this, Nat.pow_succ]
        have : ((0 : Nat) != 0).toNat = 0 := rfl
        rw [this]
        grind
      rw [e2, ← nearest_shift]
      congr 1
      have hDF : DF.leastPlace = FloatKind.f64.format.leastPlace := rfl
      omega
  have eh := res_is hz key
  rcases r with hz0 | ⟨lo, hi⟩
  · -- nought
    have hm0 : m = 0 := by
      rw [hz0] at hv
      exact (Nat.mul_eq_zero.1 hv).resolve_right (Nat.ne_of_gt (Nat.two_pow_pos _))
    subst hm0
    have eh : h = DF.word (ngK .f64 z) (min 0 (infK .f64)) := eh.trans (near_any0 _ _)
    have mh : mg h = 0 := by rw [eh, mg_word _ _ (infK_pos _), vl_zero]
    refine ⟨⟨fz, by rw [eh]; exact fin_of _ (infK_pos _), oz, hz.1, by rw [eh]; exact ngK_word .f64 _ _ (Nat.min_le_right _ _), ?_⟩, .inl mh⟩
    rw [mh, hz0]
  · have hp : 1 ≤ p := by
      apply Decidable.byContradiction
      intro g
      have : p = 0 := by omega
      subst this
      rw [Nat.pow_zero, Nat.mul_one] at hv
      have : (2 : Nat) ^ 53 ≤ 2 ^ a := Nat.pow_le_pow_right (by decide) u1
      omega
    obtain ⟨q, rfl⟩ : ∃ q, p = q + 1 := ⟨p - 1, by omega⟩
    have e3 : DF.leastPlace + ((q + 1 : Nat) : Int) - 1 = DF.leastPlace - ((0 : Nat) : Int) + (q : Int) := by omega
    rw [e3, nearest_shift, nearest_rr] at eh
    have hr : m * 2 ^ q * 2 = mg z := by rw [← hv, Nat.pow_succ, Nat.mul_assoc]
    -- it is a rung's own number
    have hb : 2 * DF.binade ≤ rgK .f64 z := by
      have h1 : vl DF ((1 + 1) * DF.binade) = 2 ^ 53 := vl_pow 1
      have h2 : 2 ^ 53 ≤ mg z := pow_tr u1 lo
      apply Decidable.byContradiction
      intro g
      have := vl_lt DF (show rgK .f64 z < (1 + 1) * DF.binade by omega)
      rw [h1] at this
      have h3 : mg z = vl DF (rgK .f64 z) := rfl
      omega
    have e4 : m * 2 ^ q = vl DF (rgK .f64 z - DF.binade) := by
      have h1 := vl_shift (r := rgK .f64 z - DF.binade) (by omega) 1
      rw [Nat.one_mul, show rgK .f64 z - DF.binade + DF.binade = rgK .f64 z by have := binade_pos DF; omega, Nat.pow_one] at h1
      have h3 : mg z = vl DF (rgK .f64 z) := rfl
      omega
    have e5 : rr DF (m * 2 ^ q) 0 = rgK .f64 z - DF.binade := by
      have := rr_exact DF fb1 (rgK .f64 z - DF.binade) 0
      rwa [Nat.pow_zero, Nat.mul_one, ← e4] at this
    have hf : rr DF (m * 2 ^ q) 0 < infK .f64 := by
      rw [e5]
      exact Nat.lt_of_le_of_lt (Nat.sub_le _ _) (of_decide_eq_true fz)
    have mh : mg h = m * 2 ^ q := by
      rw [eh]
      rw [show DF.infRung = infK .f64 from rfl, mg_word _ _ hf, e5, ← e4]
    refine ⟨⟨fz, by rw [eh]; exact fin_of _ hf, oz, hz.1, by rw [eh]; exact ngK_word .f64 _ _ (Nat.min_le_right _ _), ?_⟩, .inr ?_⟩
    · rw [mh, Nat.pow_one, Nat.pow_zero, Nat.mul_one]; exact hr
    · rw [mh]
      obtain ⟨c, rfl⟩ : ∃ c, a = c + 1 := ⟨a - 1, by omega⟩
      have hb0 : c + 1 ≤ b := by
        apply Decidable.byContradiction
        intro g
        exact pow_no (show b < c + 1 by omega) (Nat.le_trans lo hi)
      obtain ⟨d, rfl⟩ : ∃ d, b = d + 1 := ⟨b - 1, by omega⟩
      rw [Nat.pow_succ] at lo hi
      simp only [Nat.add_sub_cancel]
      omega

/-- the digits of a number are told by the number -/
theorem norm_unique {m m' a b : Nat} (h1 : 2 ^ 52 ≤ m) (h2 : m < 2 ^ 53) (h3 : 2 ^ 52 ≤ m') (h4 : m' < 2 ^ 53) (h : m' * 2 ^ a = m * 2 ^ b) : a = b ∧ m' = m := by
  have l1 : m.log2 = 52 := (Nat.log2_eq_iff (ne_of_pow h1)).2 ⟨h1, h2⟩
  have l2 : m'.log2 = 52 := (Nat.log2_eq_iff (ne_of_pow h3)).2 ⟨h3, h4⟩
  have e := congrArg Nat.log2 h
  rw [log2_mul_pow _ _ (ne_of_pow h1), log2_mul_pow _ _ (ne_of_pow h3), l1, l2] at e
  have : a = b := by omega
  subst this
  exact ⟨rfl, Nat.eq_of_mul_eq_mul_right (Nat.two_pow_pos a) h⟩
theorem read_big {x : Nat} (h : finK .f64 x = true) (hb : 2 ^ 52 ≤ mg x) : ∃ m p, DF.read x = .number (ngK .f64 x) m (DF.leastPlace + (p : Nat)) ∧ m * 2 ^ p = mg x ∧ 2 ^ 52 ≤ m ∧ m < 2 ^ 53 := by
  have hr : DF.binade ≤ rgK .f64 x := by
    apply Decidable.byContradiction
    intro g
    have e1 := vl_mk2 DF 0 (rgK .f64 x) (by omega) (by omega)
    simp only [Nat.zero_mul, Nat.zero_add, Nat.pow_zero, Nat.mul_one] at e1
    have h3 : mg x = vl DF (rgK .f64 x) := rfl
    have h4 : DF.binade = 2 ^ 52 := rfl
    omega
  have h1 : ¬ x % DF.signWeight < DF.binade := Nat.not_lt.2 hr
  have h2 : x % DF.signWeight < DF.infRung := of_decide_eq_true h
  have hB := binade_pos DF
  have h4 := Nat.mod_lt (x % DF.signWeight) hB
  refine ⟨DF.binade + x % DF.signWeight % DF.binade, x % DF.signWeight / DF.binade - 1, ?_, ?_, ?_, ?_⟩
  · unfold Format.read
    simp only []
    rw [if_neg h1, if_pos h2]
    rfl
  · show _ = vl DF (rg DF x)
    unfold vl
    have h1' : ¬ rg DF x < DF.binade := h1
    rw [if_neg h1']
    rfl
  · have : DF.binade = 2 ^ 52 := rfl
    omega
  · have : DF.binade = 2 ^ 52 := rfl
    have h5 : (2 : Nat) ^ 53 = 2 * 2 ^ 52 := rfl
    omega

theorem quo_zero {k : Nat} (hk : k ≠ 0) {d : Nat} {s t : Bool} {i j : Int} : (Datum.quotient d (.number s 0 i) (.number t k j)).map DF.write = some (DF.word (s ^^ t) (min 0 (infK .f64))) := by
  simp only [Datum.quotient, if_neg hk, Option.map_some, Format.write]
  rw [Nat.zero_shiftLeft, Nat.zero_div, Nat.zero_mod]
  exact congrArg some (near_any0 _ _)
/-- the quotient of two that are both so many times as great is the same -/
theorem quo_same {i j x x' n n' a b : Nat} (h : Sc i j x x') (g : Sc i j n n') (hx : mg x = 0 ∨ (2 ^ 52 ≤ mg x ∧ 2 ^ 52 ≤ mg x')) (hn : 2 ^ 52 ≤ mg n) (hn' : 2 ^ 52 ≤ mg n') : floatBits .quo .f64 x' n' = floatBits .quo .f64 x n := by
  obtain ⟨fx, fx', ox, ox', nx, mx⟩ := h
  obtain ⟨fn, fn', on, on', nn, mn⟩ := g
  obtain ⟨k, q, e1, v1, b1, c1⟩ := read_big fn hn
  obtain ⟨k', q', e2, v2, b2, c2⟩ := read_big fn' hn'
  have un : q' + i = q + j ∧ k' = k := by
    refine norm_unique b1 c1 b2 c2 ?_
    rw [Nat.pow_add, Nat.pow_add, ← Nat.mul_assoc, ← Nat.mul_assoc, v1, v2, mn]
  obtain ⟨un, rfl⟩ := un
  have hk : k' ≠ 0 := ne_of_pow b2
  show DF.div _ _ = DF.div _ _
  unfold Format.div
  rw [e1, e2]
  rcases hx with hx | ⟨hx, hx'⟩
  · have hx' : mg x' = 0 := by
      rw [hx, Nat.zero_mul] at mx
      exact (Nat.mul_eq_zero.1 mx).resolve_right (Nat.ne_of_gt (Nat.two_pow_pos _))
    obtain ⟨m, p, e3, v3, _⟩ := read_num64 x fx
    obtain ⟨m', p', e4, v4, _⟩ := read_num64 x' fx'
    have z : ∀ {m p v : Nat}, m * 2 ^ p = v → v = 0 → m = 0 := fun h h0 => by
      rw [h0] at h; exact (Nat.mul_eq_zero.1 h).resolve_right (Nat.ne_of_gt (Nat.two_pow_pos _))
    have m0 := z v3 hx
    have m0' := z v4 hx'
    subst m0; subst m0'
    rw [e3, e4, quo_zero hk, quo_zero hk, nx, nn]
  · obtain ⟨m, p, e3, v3, b3, c3⟩ := read_big fx hx
    obtain ⟨m', p', e4, v4, b4, c4⟩ := read_big fx' hx'
    have ux : p' + i = p + j ∧ m' = m := by
      refine norm_unique b3 c3 b4 c4 ?_
      rw [Nat.pow_add, Nat.pow_add, ← Nat.mul_assoc, ← Nat.mul_assoc, v3, v4, mx]
    obtain ⟨ux, rfl⟩ := ux
    rw [e3, e4]
    simp only [Datum.quotient, if_neg hk, Option.map_some, Format.write, nx, nn]
    congr 2
    omega
end Go.Proofs.Ytoofbfjlgablkaa
namespace Go.Proofs.Ytoofbfjlgablkaa
open Ieee Go.RowKit
set_option linter.unusedSimpArgs false
set_option linter.unusedVariables false

theorem Rg.wide {a b c d x : Nat} (h : Rg a b x) (h1 : c ≤ a) (h2 : b ≤ d) : Rg c d x := by
  rcases h with h | h
  · exact .inl h
  · exact .inr ⟨pow_tr h1 h.1, Nat.le_trans h.2 (Nat.pow_le_pow_right (by decide) h2)⟩
theorem root_form (m c : Nat) (h1 : 2 ^ 52 ≤ m) (h2 : m < 2 ^ 53) (hc : c ≤ 1) : ∃ M, 2 ^ 55 ≤ M ∧ M ≤ 2 ^ 57 ∧ ∀ (x p : Nat) (h : Int), DF.read x = .number false m (DF.leastPlace + (p : Int)) → DF.leastPlace + (p : Int) - ((56 + c : Nat) : Int) = h + h → DF.sqrt x = some (DF.nearest false M (h - 1)) := by
  have hm0 := ne_of_pow h1
  have hl : m.log2 = 52 := (Nat.log2_eq_iff hm0).2 ⟨h1, h2⟩
  have hn1 : 2 ^ 108 ≤ m * 2 ^ (56 + c) := by
    have : 2 ^ 52 * 2 ^ (56 + c) ≤ m * 2 ^ (56 + c) := Nat.mul_le_mul_right _ h1
    rw [← Nat.pow_add] at this
    exact pow_tr (by omega) this
  have hn2 : m * 2 ^ (56 + c) < 2 ^ 110 := by
    have h3 : m * 2 ^ (56 + c) < 2 ^ 53 * 2 ^ (56 + c) := Nat.mul_lt_mul_of_pos_right h2 (Nat.two_pow_pos _)
    rw [← Nat.pow_add] at h3
    exact Nat.lt_of_lt_of_le h3 (Nat.pow_le_pow_right (by decide) (by omega))
  generalize hN : m * 2 ^ (56 + c) = n at *
  have h0 : n < (0 + 2 ^ (n.log2 / 2 + 1)) * (0 + 2 ^ (n.log2 / 2 + 1)) := by
    rw [Nat.zero_add, ← Nat.pow_add]
    exact Nat.lt_of_lt_of_le (lt_log2 n) (Nat.pow_le_pow_right (by omega) (by omega))
  obtain ⟨k1, k2⟩ := rootFrom_spec n (n.log2 / 2 + 1) 0 (by omega) h0
  generalize hw : Datum.rootFrom n (n.log2 / 2 + 1) 0 = w at *
  have lo : 2 ^ 54 ≤ w := by
    apply Decidable.byContradiction
    intro g
    have : (w + 1) * (w + 1) ≤ 2 ^ 54 * 2 ^ 54 := Nat.mul_le_mul (by omega) (by omega)
    rw [← Nat.pow_add] at this
    omega
  have hi : w < 2 ^ 55 := by
    apply Decidable.byContradiction
    intro g
    have : 2 ^ 55 * 2 ^ 55 ≤ w * w := Nat.mul_le_mul (by omega) (by omega)
    rw [← Nat.pow_add] at this
    omega
  have st : (w * w != n).toNat ≤ 1 := by cases (w * w != n) <;> simp
  refine ⟨2 * w + (w * w != n).toNat, by omega, by omega, ?_⟩
  intro x p h e hh
  unfold Format.sqrt
  rw [e]
  unfold Datum.root
  simp only [if_neg hm0, Bool.false_eq_true, if_false, Option.map_some, Format.write]
  have hmore : 2 * (DF.fractionBits + 2) - m.log2 + ((DF.leastPlace + (p : Int) - ((2 * (DF.fractionBits + 2) - m.log2 : Nat) : Int)) % 2).toNat = 56 + c := by
    rw [hl, show 2 * (DF.fractionBits + 2) - 52 = 56 from rfl]
    omega
  rw [hmore, Nat.shiftLeft_eq, hN, hw]
  congr 2
  omega

theorem root_sc {i j s s' n n' : Nat} (h : Sc (2 * i) (2 * j) s s') (ns : ngK .f64 s = false) (hs : 2 ^ 52 ≤ mg s) (hs' : 2 ^ 52 ≤ mg s') (hn : sqR s n) (hn' : sqR s' n') :
    Sc i j n n' ∧ Rg 500 1700 n ∧ Rg 500 1700 n' := by
  obtain ⟨fs, fs', os, os', nn, ms⟩ := h
  obtain ⟨m, p, e1, v1, b1, c1⟩ := read_big fs hs
  obtain ⟨m', p', e2, v2, b2, c2⟩ := read_big fs' hs'
  have un : p' + 2 * i = p + 2 * j ∧ m' = m := by
    refine norm_unique b1 c1 b2 c2 ?_
    rw [Nat.pow_add, Nat.pow_add, ← Nat.mul_assoc, ← Nat.mul_assoc, v1, v2, ms]
  obtain ⟨un, rfl⟩ := un
  rw [nn, ns] at e2
  rw [ns] at e1
  obtain ⟨M, l1, l2, hM⟩ := root_form m' (p % 2) b2 c2 (by omega)
  -- places
  have pb : ∀ {x p : Nat}, finK .f64 x = true → m' * 2 ^ p = mg x → p ≤ 2046 := by
    intro x p hf hv
    apply Decidable.byContradiction
    intro g
    have h1 := mg_le hf
    have h2 : 2 ^ 52 * 2 ^ p ≤ m' * 2 ^ p := Nat.mul_le_mul_right _ b2
    rw [← Nat.pow_add, hv] at h2
    exact pow_no (show 2098 < 52 + p by omega) (Nat.le_trans h2 h1)
  have p1 := pb fs v1
  have p2 := pb fs' v2
  have hL : DF.leastPlace = -1074 := least64
  obtain ⟨q, hq, hq0⟩ : ∃ q : Nat, DF.leastPlace + (p : Int) - ((56 + p % 2 : Nat) : Int) = (DF.leastPlace + 1 + (q : Int)) + (DF.leastPlace + 1 + (q : Int)) ∧ 500 ≤ q ∧ q ≤ 1600 := ⟨(p + 1074 - 58 - p % 2) / 2, by omega, by omega⟩
  obtain ⟨q', hq', hq0'⟩ : ∃ q' : Nat, DF.leastPlace + (p' : Int) - ((56 + p % 2 : Nat) : Int) = (DF.leastPlace + 1 + (q' : Int)) + (DF.leastPlace + 1 + (q' : Int)) ∧ 500 ≤ q' ∧ q' ≤ 1600 := ⟨(p' + 1074 - 58 - p % 2) / 2, by omega, by omega⟩
  have w1 := sq_is hn (hM s p _ e1 hq)
  have w2 := sq_is hn' (hM s' p' _ e2 hq')
  have place : ∀ q : Nat, DF.leastPlace + 1 + (q : Int) - 1 = DF.leastPlace - ((0 : Nat) : Int) + (q : Int) := fun q => by omega
  rw [place, nearest_shift, nearest_rr] at w1 w2
  have sz : ∀ q : Nat, 500 ≤ q → q ≤ 1600 → rr DF (M * 2 ^ q) 0 < infK .f64 ∧ 2 ^ (55 + q) ≤ vl DF (rr DF (M * 2 ^ q) 0) ∧ vl DF (rr DF (M * 2 ^ q) 0) ≤ 2 ^ (57 + q) := by
    intro q a1 a2
    have lo := rr_lo (m := M * 2 ^ q) (t := 0) (a := 55 + q) (by omega) (by rw [Nat.zero_add, Nat.pow_add]; exact Nat.mul_le_mul_right _ l1)
    have hi := rr_hi (m := M * 2 ^ q) (t := 0) (b := 57 + q) (by omega) (by rw [Nat.zero_add, Nat.pow_add]; exact Nat.mul_le_mul_right _ l2)
    exact ⟨small_fin (by omega) hi, lo, hi⟩
  obtain ⟨f1, lo1, hi1⟩ := sz q hq0.1 hq0.2
  obtain ⟨f2, lo2, hi2⟩ := sz q' hq0'.1 hq0'.2
  rw [show DF.infRung = infK .f64 from rfl] at w1 w2
  have m1 : mg n = vl DF (rr DF (M * 2 ^ q) 0) := by rw [w1]; exact mg_word _ _ f1
  have m2 : mg n' = vl DF (rr DF (M * 2 ^ q') 0) := by rw [w2]; exact mg_word _ _ f2
  refine ⟨⟨by rw [w1]; exact fin_of _ f1, by rw [w2]; exact fin_of _ f2, hn.1, hn'.1, ?_, ?_⟩, Rg.wide (a := 55 + q) (b := 57 + q) (.inr ?_) (by omega) (by omega), Rg.wide (a := 55 + q') (b := 57 + q') (.inr ?_) (by omega) (by omega)⟩
  · rw [w1, w2, ngK_word _ _ _ (Nat.min_le_right _ _), ngK_word _ _ _ (Nat.min_le_right _ _)]
  · rw [m1, m2]
    refine round_scale2 (a := 55 + q) (a' := 55 + q') ?_ (.inr ⟨by rw [Nat.pow_add]; exact Nat.mul_le_mul_right _ l1, by rw [Nat.pow_add]; exact Nat.mul_le_mul_right _ l1⟩) (by omega) (by omega)
    rw [Nat.mul_assoc, Nat.mul_assoc, ← Nat.pow_add, ← Nat.pow_add]
    congr 2
    omega
  · rw [m1]; exact ⟨lo1, hi1⟩
  · rw [m2]; exact ⟨lo2, hi2⟩

theorem Sc.zero {i j x x' : Nat} (h : Sc i j x x') : mg x' = 0 ↔ mg x = 0 := by
  obtain ⟨_, _, _, _, _, m⟩ := h
  constructor
  · intro h; rw [h, Nat.zero_mul] at m; exact (Nat.mul_eq_zero.1 m.symm).resolve_right (Nat.ne_of_gt (Nat.two_pow_pos _))
  · intro h; rw [h, Nat.zero_mul] at m; exact (Nat.mul_eq_zero.1 m).resolve_right (Nat.ne_of_gt (Nat.two_pow_pos _))
theorem Sc.neg {i j x x' : Nat} (h : Sc i j x x') : Sc i j (Op.negFloat .f64 x) (Op.negFloat .f64 x') := by
  obtain ⟨f1, f2, o1, o2, n, m⟩ := h
  have g1 := neg_facts .f64 x o1
  have g2 := neg_facts .f64 x' o2
  refine ⟨by rw [fin_neg _ o1]; exact f1, by rw [fin_neg _ o2]; exact f2, g1.2.2, g2.2.2, by rw [g1.2.1, g2.2.1, n], ?_⟩
  unfold mg
  rw [g1.1, g2.1]
  exact m
theorem Rg.neg {a b x : Nat} (h : Rg a b x) (o : okK .f64 x) : Rg a b (Op.negFloat .f64 x) := by
  unfold Rg mg at *
  rw [(neg_facts .f64 x o).1]
  exact h
theorem sub_sc {i j x x' y y' z z' a b a' b' : Nat} (h : Sc i j x x') (g : Sc i j y y') (hz : resK .sub .f64 x y z) (hz' : resK .sub .f64 x' y' z')
    (r1 : Rg a b x) (r2 : Rg a b y) (r3 : Rg a' b' x') (r4 : Rg a' b' y') (u1 : 104 ≤ a) (u2 : 104 ≤ a') (u3 : b ≤ 2096) (u4 : b' ≤ 2096) (v1 : 52 ≤ b) (v2 : 52 ≤ b') :
    Sc i j z z' ∧ Rg (a - 52) (b + 1) z ∧ Rg (a' - 52) (b' + 1) z' := by
  have oy := g.2.2.1
  have oy' := g.2.2.2.1
  have e : resK .add .f64 x (Op.negFloat .f64 y) z := by unfold resK at *; rwa [sub_is_add .f64 x y oy] at hz
  have e' : resK .add .f64 x' (Op.negFloat .f64 y') z' := by unfold resK at *; rwa [sub_is_add .f64 x' y' oy'] at hz'
  exact add_sc h g.neg e e' r1 (r2.neg oy) r3 (r4.neg oy') u1 u2 u3 u4 v1 v2
end Go.Proofs.Ytoofbfjlgablkaa
namespace Go.Proofs.Ytoofbfjlgablkaa
open Ieee Go.RowKit
set_option linter.unusedSimpArgs false
set_option linter.unusedVariables false

/-! ### Answers of operations on finite floats, as a function -/
def Dv (op : BinOp) (x y : Nat) : Nat := (floatBits op .f64 x y).getD 0
theorem dv_some {op : BinOp} {x y v : Nat} (h : floatBits op .f64 x y = some v) : Dv op x y = v := by unfold Dv; rw [h]; rfl
theorem res_dv {op : BinOp} {x y r : Nat} (h : resK op .f64 x y r) (g : (floatBits op .f64 x y).isSome = true) : r = Dv op x y := by
  obtain ⟨v, hv⟩ := Option.isSome_iff_exists.1 g
  rw [dv_some hv]; exact res_is h hv
theorem dv_res {op : BinOp} {x y : Nat} (g : (floatBits op .f64 x y).isSome = true) : resK op .f64 x y (Dv op x y) := by
  obtain ⟨v, hv⟩ := Option.isSome_iff_exists.1 g
  rw [dv_some hv]; exact ⟨floatBits_ok hv, .inl hv⟩
theorem some_mul {x y : Nat} (hx : finK .f64 x = true) (hy : finK .f64 y = true) : (floatBits .mul .f64 x y).isSome = true := by rw [mul_spec x y hx hy]; rfl
theorem some_add {x y : Nat} (hx : finK .f64 x = true) (hy : finK .f64 y = true) : (floatBits .add .f64 x y).isSome = true := by rw [add_spec .f64 x y hx hy]; rfl
theorem some_sub {x y : Nat} (hx : finK .f64 x = true) (hy : finK .f64 y = true) (oy : okK .f64 y) : (floatBits .sub .f64 x y).isSome = true := by
  rw [sub_is_add .f64 x y oy]; exact some_add hx (by rw [fin_neg _ oy]; exact hy)
theorem some_two {x : Nat} (hx : finK .f64 x = true) : (floatBits .quo .f64 x twoB).isSome = true := by
  obtain ⟨_, _, _, _, _, e, _⟩ := quo_near hx (show finK .f64 twoB = true by decide +kernel) (show mg twoB ≠ 0 by decide +kernel)
  rw [e]; rfl
theorem run_mul_dv (P : Program) (t : TypeId) (x y : Nat) (w : World) (hx : finK .f64 x = true) (hy : finK .f64 y = true) : (binOp .mul t (.float .f64 x) (.float .f64 y)).run P w = .ok (.float .f64 (Dv .mul x y)) w := by
  obtain ⟨v, hv⟩ := Option.isSome_iff_exists.1 (some_mul hx hy)
  rw [run_mul, dv_some hv]
  unfold fv fd
  rw [hv]
  rfl

/-! ### Parts that are plain: nought, or from 2 ^ -200 to 2 ^ 200 -/
def plB (x : Nat) : Bool := decide (rgK .f64 x = 0) || (leK .f64 3706462493325918208 (rgK .f64 x) && leK .f64 (rgK .f64 x) 5507902344274116608)
theorem lo_mg : mg 3706462493325918208 = 2 ^ 874 := by decide +kernel
theorem hi_mg : mg 5507902344274116608 = 2 ^ 1274 := by decide +kernel
theorem plain_rg {x : Nat} (o : okK .f64 x) (h : plB x = true) : finK .f64 x = true ∧ Rg 874 1274 x := by
  unfold plB at h
  have r1 : rgK .f64 (rgK .f64 x) = rgK .f64 x := by rw [rg64, rg64]; omega
  have r2 : ngK .f64 (rgK .f64 x) = false := by rw [ng64, rg64, beq_eq_false_iff_ne]; omega
  rw [Bool.or_eq_true, Bool.and_eq_true] at h
  rcases h with h | ⟨h1, h2⟩
  · have h := of_decide_eq_true h
    exact ⟨decide_eq_true (by rw [h]; exact infK_pos _), .inl (mg_zero.2 h)⟩
  · unfold leK at h1 h2
    rw [woK_eq _ (rgK .f64 x), r1, r2, show woK .f64 3706462493325918208 = 3706462493325918208 by decide +kernel] at h1
    rw [woK_eq _ (rgK .f64 x), r1, r2, show woK .f64 5507902344274116608 = 5507902344274116608 by decide +kernel] at h2
    simp only [Bool.and_eq_true, decide_eq_true_eq, Bool.false_eq_true, if_false] at h1 h2
    have a1 : rgK .f64 3706462493325918208 ≤ rgK .f64 x := by rw [show rgK .f64 3706462493325918208 = 3706462493325918208 by decide +kernel]; omega
    have a2 : rgK .f64 x ≤ rgK .f64 5507902344274116608 := by rw [show rgK .f64 5507902344274116608 = 5507902344274116608 by decide +kernel]; omega
    refine ⟨decide_eq_true ?_, .inr ⟨?_, ?_⟩⟩
    · rw [inf64]; omega
    · rw [← lo_mg]; exact mg_rg.2 a1
    · rw [← hi_mg]; exact mg_rg.2 a2

theorem pow_mul_eq {a b c d : Nat} (h : a + b = c + d) : 2 ^ a * 2 ^ b = 2 ^ c * 2 ^ d := by rw [← Nat.pow_add, ← Nat.pow_add, h]
theorem sc_pow {m o n T d : Nat} (hm : m = 2 ^ n) (h1 : o = 2 ^ T) (h : n + 100 = T + d) : m * 2 ^ 100 = o * 2 ^ d := by rw [hm, h1]; exact pow_mul_eq h
/-- the power of two that math.Ldexp gives -/
def pw (e : Int) : Nat := ((e + 1023) * 4503599627370496).toNat
theorem pw_sc {e : Int} (h1 : -100 ≤ e) (h2 : e ≤ 100) : ∃ j, Sc 100 j oneB (pw e) ∧ Rg 974 1174 (pw e) ∧ finK .f64 (pw e) = true ∧ okK .f64 (pw e) := by
  obtain ⟨n, hn⟩ : ∃ n : Nat, e + 1022 = (n : Int) := ⟨(e + 1022).toNat, by omega⟩
  have hp : pw e = (n + 1) * 4503599627370496 := by unfold pw; omega
  have hb : DF.binade = 4503599627370496 := rfl
  have ho : okK .f64 (pw e) := by rw [okK64, hp]; omega
  have hr : rgK .f64 (pw e) = (n + 1) * DF.binade := by rw [rg64, hp, hb]; omega
  have hg : ngK .f64 (pw e) = false := by rw [ng64, hp, beq_eq_false_iff_ne]; omega
  have hf : finK .f64 (pw e) = true := decide_eq_true (by rw [hr, inf64, hb]; omega)
  have hm : mg (pw e) = 2 ^ (n + 52) := by unfold mg; rw [hr]; exact vl_pow n
  refine ⟨(e + 100).toNat, ⟨one_fin, hf, one_okK, ho, by rw [hg, one_ng], ?_⟩, Rg.wide (a := n + 52) (b := n + 52) (.inr ⟨by rw [hm]; exact Nat.le_refl _, by rw [hm]; exact Nat.le_refl _⟩) (by omega) (by omega), hf, ho⟩
  exact sc_pow (T := 1074) hm one_mg (by omega)

def threeB : Nat := 4613937818241073152
theorem three_mg : Rg 1075 1076 threeB := .inr (by decide +kernel)
theorem three_fin : finK .f64 threeB = true := by decide +kernel
theorem three_ok : okK .f64 threeB := by rw [okK64]; decide

/-- one coordinate: of two parts and of both so many times as great -/
structure Part (s x y : Nat) : Prop where
  fx : finK .f64 x = true
  fy : finK .f64 y = true
  fc : finK .f64 (Dv .mul x s) = true
  fd : finK .f64 (Dv .mul y s) = true
  fa : finK .f64 (Dv .add x y) = true
  fs : finK .f64 (Dv .sub x y) = true
  fh : finK .f64 (Dv .quo (Dv .add x y) twoB) = true
  ft : finK .f64 (Dv .mul threeB y) = true
  fu : finK .f64 (Dv .mul threeB (Dv .mul y s)) = true
  fm : finK .f64 (Dv .add x (Dv .mul threeB y)) = true
  fac : finK .f64 (Dv .add (Dv .mul x s) (Dv .mul y s)) = true
  add : Dv .add (Dv .mul x s) (Dv .mul y s) = Dv .mul (Dv .add x y) s
  sub : Dv .sub (Dv .mul x s) (Dv .mul y s) = Dv .mul (Dv .sub x y) s
  half : Dv .quo (Dv .add (Dv .mul x s) (Dv .mul y s)) twoB = Dv .mul (Dv .quo (Dv .add x y) twoB) s
  more : Dv .add (Dv .mul x s) (Dv .mul threeB (Dv .mul y s)) = Dv .mul (Dv .add x (Dv .mul threeB y)) s
  left : Dv .mul (Op.negFloat .f64 x) s = Op.negFloat .f64 (Dv .mul x s)
  ok : okK .f64 (Dv .mul x s) ∧ okK .f64 (Dv .mul y s)

theorem part_of {s x y j : Nat} (ox : okK .f64 x) (oy : okK .f64 y) (os : okK .f64 s) (fs : finK .f64 s = true) (hs : Sc 100 j oneB s) (rs : Rg 974 1174 s) (fx : finK .f64 x = true) (rx : Rg 874 1274 x) (fy : finK .f64 y = true) (ry : Rg 874 1274 y) : Part s x y := by
  have mx := dv_res (some_mul fx fs)
  have my := dv_res (some_mul fy fs)
  obtain ⟨cx, rcx⟩ := scale_sc fx ox hs mx rx rs (by omega) (by omega) (by omega) (by omega)
  obtain ⟨cy, rcy⟩ := scale_sc fy oy hs my ry rs (by omega) (by omega) (by omega) (by omega)
  have fcx := cx.2.1
  have fcy := cy.2.1
  have ocx := cx.2.2.2.1
  have ocy := cy.2.2.2.1
  -- sums
  have ra := dv_res (some_add fx fy)
  have ra' := dv_res (some_add fcx fcy)
  obtain ⟨sa, ga, ga'⟩ := add_sc cx cy ra ra' rx ry rcx rcy (by omega) (by omega) (by omega) (by omega) (by omega) (by omega)
  obtain ⟨ta, _⟩ := scale_sc sa.1 sa.2.2.1 hs (dv_res (some_mul sa.1 fs)) ga rs (by omega) (by omega) (by omega) (by omega)
  have rb := dv_res (some_sub fx fy oy)
  have rb' := dv_res (some_sub fcx fcy ocy)
  obtain ⟨sb, gb, gb'⟩ := sub_sc cx cy rb rb' rx ry rcx rcy (by omega) (by omega) (by omega) (by omega) (by omega) (by omega)
  obtain ⟨tb, _⟩ := scale_sc sb.1 sb.2.2.1 hs (dv_res (some_mul sb.1 fs)) gb rs (by omega) (by omega) (by omega) (by omega)
  -- halves
  have rh := dv_res (some_two sa.1)
  have rh' := dv_res (some_two sa.2.1)
  obtain ⟨h1, gh⟩ := half_sc sa.1 sa.2.2.1 rh ga (by omega) (by omega)
  obtain ⟨h2, gh'⟩ := half_sc sa.2.1 sa.2.2.2.1 rh' ga' (by omega) (by omega)
  have hh : Sc 100 j (Dv .quo (Dv .add x y) twoB) (Dv .quo (Dv .add (Dv .mul x s) (Dv .mul y s)) twoB) := by
    refine ⟨h1.2.1, h2.2.1, h1.2.2.2.1, h2.2.2.2.1, by rw [h1.2.2.2.2.1, h2.2.2.2.2.1, sa.2.2.2.2.1], ?_⟩
    have e1 := h1.2.2.2.2.2
    have e2 := h2.2.2.2.2.2
    have e3 := sa.2.2.2.2.2
    rw [Nat.pow_one, Nat.pow_zero, Nat.mul_one] at e1 e2
    rw [← e1, ← e2] at e3
    generalize 2 ^ 100 = A at *
    generalize 2 ^ j = B at *
    generalize mg (Dv .quo (Dv .add x y) twoB) = m at *
    generalize mg (Dv .quo (Dv .add (Dv .mul x s) (Dv .mul y s)) twoB) = m' at *
    have : m' * A * 2 = m * B * 2 := by grind
    omega
  obtain ⟨th, _⟩ := scale_sc h1.2.1 h1.2.2.2.1 hs (dv_res (some_mul h1.2.1 fs)) gh rs (by omega) (by omega) (by omega) (by omega)
  -- three times
  have r3 := dv_res (some_mul three_fin fy)
  have r3' := dv_res (some_mul three_fin fcy)
  obtain ⟨s3, g3, g3'⟩ := mul_sc (Sc.refl three_fin three_ok) cy r3 r3' three_mg ry three_mg rcy (by omega) (by omega) (by omega) (by omega)
  rw [Nat.zero_add, Nat.zero_add] at s3
  have rm := dv_res (some_add fx s3.1)
  have rm' := dv_res (some_add fcx s3.2.1)
  obtain ⟨sm, gm, gm'⟩ := add_sc cx s3 rm rm' (Rg.wide rx (c := 874) (d := 1276) (by omega) (by omega)) (Rg.wide g3 (by omega) (by omega)) (Rg.wide rcx (c := 774) (d := 1376) (by omega) (by omega)) (Rg.wide g3' (by omega) (by omega)) (by omega) (by omega) (by omega) (by omega) (by omega) (by omega)
  obtain ⟨tm, _⟩ := scale_sc sm.1 sm.2.2.1 hs (dv_res (some_mul sm.1 fs)) gm rs (by omega) (by omega) (by omega) (by omega)
  -- the sign turned
  have rl := dv_res (some_mul (show finK .f64 (Op.negFloat .f64 x) = true by rw [fin_neg _ ox]; exact fx) fs)
  obtain ⟨tl, _⟩ := scale_sc (show finK .f64 (Op.negFloat .f64 x) = true by rw [fin_neg _ ox]; exact fx) (neg_ok ox) hs rl (rx.neg ox) rs (by omega) (by omega) (by omega) (by omega)
  exact ⟨fx, fy, fcx, fcy, sa.1, sb.1, h1.2.1, s3.1, s3.2.1, sm.1, sa.2.1, sa.unique ta, sb.unique tb, hh.unique th, sm.unique tm, tl.unique cx.neg, ocx, ocy⟩
end Go.Proofs.Ytoofbfjlgablkaa
namespace Go.Proofs.Ytoofbfjlgablkaa
open Ieee Go.RowKit
set_option linter.unusedSimpArgs false
set_option linter.unusedVariables false

theorem Sc.two {j r t u : Nat} (h : Sc 100 j r t) (g : Sc 100 j t u) : Sc (100 + 100) (j + j) r u := by
  obtain ⟨f1, f2, o1, o2, n1, m1⟩ := h
  obtain ⟨_, f3, _, o3, n2, m2⟩ := g
  refine ⟨f1, f3, o1, o3, n2.trans n1, ?_⟩
  rw [Nat.pow_add, Nat.pow_add]
  generalize 2 ^ 100 = A at *
  generalize 2 ^ j = B at *
  have : mg u * (A * A) = mg u * A * A := by grind
  rw [this, m2]
  have : mg t * B * A = mg t * A * B := by grind
  rw [this, m1]; grind

/-- a product of two parts, and of both so many times as great -/
theorem prod_of {j x y c d : Nat} (h : Sc 100 j x c) (g : Sc 100 j y d) (rx : Rg 874 1274 x) (ry : Rg 874 1274 y) (rc : Rg 774 1374 c) (rd : Rg 774 1374 d) :
    Sc (100 + 100) (j + j) (Dv .mul x y) (Dv .mul c d) ∧ Rg 674 1474 (Dv .mul x y) ∧ Rg 474 1674 (Dv .mul c d) := by
  obtain ⟨k1, k2, k3⟩ := mul_sc h g (dv_res (some_mul h.1 g.1)) (dv_res (some_mul h.2.1 g.2.1)) rx ry rc rd (by omega) (by omega) (by omega) (by omega)
  exact ⟨k1, Rg.wide k2 (by omega) (by omega), Rg.wide k3 (by omega) (by omega)⟩

/-- what the walk asks of a sum or difference of two products -/
structure Two (op : BinOp) (s p q p' q' : Nat) : Prop where
  f1 : finK .f64 p = true
  f2 : finK .f64 q = true
  f3 : finK .f64 p' = true
  f4 : finK .f64 q' = true
  fr : finK .f64 (Dv op p q) = true
  ft : finK .f64 (Dv .mul (Dv op p q) s) = true
  eq : Dv op p' q' = Dv .mul (Dv .mul (Dv op p q) s) s
  o1 : okK .f64 q
  o2 : okK .f64 q'

theorem two_add {s j p q p' q' : Nat} (os : okK .f64 s) (fs : finK .f64 s = true) (hs : Sc 100 j oneB s) (rs : Rg 974 1174 s)
    (h : Sc (100 + 100) (j + j) p p') (g : Sc (100 + 100) (j + j) q q') (rp : Rg 674 1474 p) (rq : Rg 674 1474 q) (rp' : Rg 474 1674 p') (rq' : Rg 474 1674 q') :
    Two .add s p q p' q' ∧ Sc (100 + 100) (j + j) (Dv .add p q) (Dv .add p' q') ∧ Rg 622 1475 (Dv .add p q) ∧ Rg 422 1675 (Dv .add p' q') := by
  obtain ⟨sr, gr, gr'⟩ := add_sc h g (dv_res (some_add h.1 g.1)) (dv_res (some_add h.2.1 g.2.1)) rp rq rp' rq' (by omega) (by omega) (by omega) (by omega) (by omega) (by omega)
  obtain ⟨t1, k1⟩ := scale_sc sr.1 sr.2.2.1 hs (dv_res (some_mul sr.1 fs)) gr rs (by omega) (by omega) (by omega) (by omega)
  obtain ⟨t2, _⟩ := scale_sc t1.2.1 t1.2.2.2.1 hs (dv_res (some_mul t1.2.1 fs)) k1 rs (by omega) (by omega) (by omega) (by omega)
  exact ⟨⟨h.1, g.1, h.2.1, g.2.1, sr.1, t1.2.1, sr.unique (t1.two t2), g.2.2.1, g.2.2.2.1⟩, sr, Rg.wide gr (by omega) (by omega), Rg.wide gr' (by omega) (by omega)⟩
theorem two_sub {s j p q p' q' : Nat} (os : okK .f64 s) (fs : finK .f64 s = true) (hs : Sc 100 j oneB s) (rs : Rg 974 1174 s)
    (h : Sc (100 + 100) (j + j) p p') (g : Sc (100 + 100) (j + j) q q') (rp : Rg 674 1474 p) (rq : Rg 674 1474 q) (rp' : Rg 474 1674 p') (rq' : Rg 474 1674 q') : Two .sub s p q p' q' := by
  obtain ⟨sr, gr, gr'⟩ := sub_sc h g (dv_res (some_sub h.1 g.1 g.2.2.1)) (dv_res (some_sub h.2.1 g.2.1 g.2.2.2.1)) rp rq rp' rq' (by omega) (by omega) (by omega) (by omega) (by omega) (by omega)
  obtain ⟨t1, k1⟩ := scale_sc sr.1 sr.2.2.1 hs (dv_res (some_mul sr.1 fs)) gr rs (by omega) (by omega) (by omega) (by omega)
  obtain ⟨t2, _⟩ := scale_sc t1.2.1 t1.2.2.2.1 hs (dv_res (some_mul t1.2.1 fs)) k1 rs (by omega) (by omega) (by omega) (by omega)
  exact ⟨h.1, g.1, h.2.1, g.2.1, sr.1, t1.2.1, sr.unique (t1.two t2), g.2.2.1, g.2.2.2.1⟩

/-- the root as a function -/
def Sq (x : Nat) : Nat := (FloatKind.f64.format.sqrt x).getD 0
theorem sqr_zero {r n : Nat} (hf : finK .f64 r = true) (hn : ngK .f64 r = false) (hz : mg r = 0) (h : sqR r n) : n = 0 := by
  obtain ⟨m, p, e, hv, _⟩ := read_num64 r hf
  have hm : m = 0 := by
    rw [hz] at hv
    exact (Nat.mul_eq_zero.1 hv).resolve_right (Nat.ne_of_gt (Nat.two_pow_pos _))
  have e1 : FloatKind.f64.format.sqrt r = some (FloatKind.f64.format.word false 0) := by
    unfold Format.sqrt
    rw [e, hn, hm]
    unfold Datum.root
    simp only [if_true, Option.map_some, Format.write]
    unfold Format.nearest
    simp
  rw [sq_is h e1]
  rfl
theorem sqr_some {r : Nat} (hf : finK .f64 r = true) (hn : ngK .f64 r = false) : (FloatKind.f64.format.sqrt r).isSome = true := by
  by_cases hz : mg r = 0
  · obtain ⟨m, p, e, hv, _⟩ := read_num64 r hf
    have hm : m = 0 := by
      rw [hz] at hv
      exact (Nat.mul_eq_zero.1 hv).resolve_right (Nat.ne_of_gt (Nat.two_pow_pos _))
    unfold Format.sqrt
    rw [e, hn, hm]
    unfold Datum.root
    simp
  · obtain ⟨_, _, _, _, _, e, _⟩ := root_near hf hn hz
    rw [e]; rfl
theorem sq_res {r : Nat} (g : (FloatKind.f64.format.sqrt r).isSome = true) : sqR r (Sq r) := by
  obtain ⟨v, hv⟩ := Option.isSome_iff_exists.1 g
  unfold Sq
  rw [hv]
  exact ⟨sqrt_ok hv, .inl hv⟩
theorem sqR_is {r n : Nat} (h : sqR r n) (g : (FloatKind.f64.format.sqrt r).isSome = true) : n = Sq r := by
  obtain ⟨v, hv⟩ := Option.isSome_iff_exists.1 g
  unfold Sq
  rw [hv]
  exact sq_is h hv

/-- lengths: of a way and of one so many times as long -/
theorem len_of {s j r r' : Nat} (os : okK .f64 s) (fs : finK .f64 s = true) (hs : Sc 100 j oneB s) (rs : Rg 974 1174 s) (h : Sc (100 + 100) (j + j) r r') (nr : ngK .f64 r = false) (g : Rg 622 1475 r) (g' : Rg 422 1675 r') :
    (mg r = 0 ∧ mg r' = 0 ∧ Sq r = 0 ∧ Sq r' = 0 ∧ Dv .mul 0 s = 0) ∨ (2 ^ 52 ≤ mg (Sq r) ∧ 2 ^ 52 ≤ mg (Sq r') ∧ Sc 100 j (Sq r) (Sq r') ∧ Sq r' = Dv .mul (Sq r) s ∧ ngK .f64 (Sq r) = false) := by
  have nr' : ngK .f64 r' = false := h.2.2.2.2.1.trans nr
  have q1 := sq_res (sqr_some h.1 nr)
  have q2 := sq_res (sqr_some h.2.1 nr')
  rcases g with g | g
  · have z' := (h.zero).2 g
    refine .inl ⟨g, z', sqr_zero h.1 nr g q1, sqr_zero h.2.1 nr' z' q2, ?_⟩
    have f0 : finK .f64 0 = true := by decide +kernel
    rw [dv_some (mul_spec 0 s f0 fs)]
    have m0 : vl FloatKind.f64.format (rgK .f64 0) = 0 := by rw [nought_rg, vl_zero]
    rw [m0, Nat.zero_mul, rr_zero, Nat.zero_min]
    have : ngK .f64 s = false := by rw [hs.2.2.2.2.1, one_ng]
    rw [this, nought_ng]
    rfl
  · have g' := g'.resolve_left (fun z => by
      have := (h.zero).1 z
      have := ne_of_pow g.1
      omega)
    have h2 : Sc (2 * 100) (2 * j) r r' := by
      have e : j + j = 2 * j := by omega
      rw [← e]; exact h
    obtain ⟨sn, gn, gn'⟩ := root_sc h2 nr (pow_tr (by omega) g.1) (pow_tr (by omega) g'.1) q1 q2
    obtain ⟨tn, _⟩ := scale_sc sn.1 sn.2.2.1 hs (dv_res (some_mul sn.1 fs)) gn rs (by omega) (by omega) (by omega) (by omega)
    have f0 := root_fin h.1 nr (ne_of_pow g.1) q1
    have f0' := root_fin h.2.1 nr' (ne_of_pow g'.1) q2
    have l1 : 2 ^ 52 ≤ mg (Sq r) := pow_tr (show 52 ≤ 500 by omega) (gn.resolve_left f0.2.2.1).1
    have l2 : 2 ^ 52 ≤ mg (Sq r') := pow_tr (show 52 ≤ 500 by omega) (gn'.resolve_left f0'.2.2.1).1
    exact .inr ⟨l1, l2, sn, sn.unique tn, f0.2.1⟩
end Go.Proofs.Ytoofbfjlgablkaa
