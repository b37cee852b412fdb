/-
  Plain facts on floats, more: rounding to the nearest rung, sums and products of finite floats, signs turned. No program is named here.
-/
import Derived.Test.YtbphmjfgpkjecabRnd
namespace Go.Proofs.Ytbphmjfgpkjecab
open Ieee Go.RowKit
set_option linter.unusedSimpArgs false
set_option linter.unusedVariables false

/-! ### How far a rounded number is from the number -/
theorem gap_le (f : Format) (r : Nat) : f.binade * vl f (r + 1) ≤ f.binade * vl f r + vl f r + f.binade := by
  have hB := binade_pos f
  by_cases h : r < f.binade
  · have e1 := vl_mk2 f 0 r (by omega) (by omega)
    have e2 := vl_mk2 f 0 (r + 1) (by omega) (by omega)
    simp only [Nat.zero_mul, Nat.zero_add, Nat.pow_zero, Nat.mul_one] at e1 e2
    rw [e1, e2, Nat.mul_add]; omega
  · obtain ⟨e, he⟩ : ∃ e, r / f.binade = e + 1 := ⟨r / f.binade - 1, by have := (Nat.one_le_div_iff hB).2 (by omega : f.binade ≤ r); omega⟩
    have hd := Nat.div_add_mod r f.binade
    have hm := Nat.mod_lt r hB
    rw [he, Nat.mul_add, Nat.mul_one, Nat.mul_comm f.binade e] at hd
    generalize hK : r % f.binade = K at *
    have e1 := vl_mk2 f e (f.binade + K) (by omega) (fun _ => by omega)
    have e2 := vl_mk2 f e (f.binade + K + 1) (by omega) (fun _ => by omega)
    rw [show e * f.binade + (f.binade + K) = r by omega] at e1
    rw [show e * f.binade + (f.binade + K + 1) = r + 1 by omega] at e2
    rw [e1, e2]
    generalize 2 ^ e = Y
    generalize f.binade = B at *
    have : B * ((B + K + 1) * Y) = B * ((B + K) * Y) + B * Y := by grind
    have h2 : B * Y ≤ (B + K) * Y := Nat.mul_le_mul_right _ (by omega)
    omega

theorem rr_err (f : Format) (hf : 1 ≤ f.fractionBits) (m t : Nat) :
    2 * f.binade * m ≤ (2 * f.binade * vl f (rr f m t) + vl f (rr f m t) + f.binade) * 2 ^ t ∧
    2 * f.binade * vl f (rr f m t) * 2 ^ t ≤ 2 * f.binade * m + (vl f (rr f m t) + f.binade) * 2 ^ t := by
  obtain ⟨h1, h2, _⟩ := rr_spec f hf m t
  generalize rr f m t = r at *
  have g1 := gap_le f r
  generalize 2 ^ t = X at *
  constructor
  · have h3 : f.binade * (2 * m) ≤ f.binade * ((vl f r + vl f (r + 1)) * X) := Nat.mul_le_mul_left _ h2
    have h4 : f.binade * vl f (r + 1) * X ≤ (f.binade * vl f r + vl f r + f.binade) * X := Nat.mul_le_mul_right _ g1
    have e1 : f.binade * ((vl f r + vl f (r + 1)) * X) = f.binade * vl f r * X + f.binade * vl f (r + 1) * X := by grind
    have e2 : (2 * f.binade * vl f r + vl f r + f.binade) * X = f.binade * vl f r * X + (f.binade * vl f r + vl f r + f.binade) * X := by grind
    have e3 : 2 * f.binade * m = f.binade * (2 * m) := by grind
    omega
  · by_cases hr : r = 0
    · subst hr; rw [vl_zero]; simp
    · have h1 := h1.resolve_left hr
      obtain ⟨q, rfl⟩ : ∃ q, r = q + 1 := ⟨r - 1, by omega⟩
      rw [Nat.add_sub_cancel] at h1
      have g2 := gap_le f q
      have g3 := Nat.le_of_lt (vl_succ f q)
      have h3 : f.binade * ((vl f q + vl f (q + 1)) * X) ≤ f.binade * (2 * m) := Nat.mul_le_mul_left _ h1
      have h4 : f.binade * vl f (q + 1) * X ≤ (f.binade * vl f q + vl f (q + 1) + f.binade) * X := Nat.mul_le_mul_right _ (by omega)
      have e1 : f.binade * ((vl f q + vl f (q + 1)) * X) = f.binade * vl f q * X + f.binade * vl f (q + 1) * X := by grind
      have e2 : (f.binade * vl f q + vl f (q + 1) + f.binade) * X = f.binade * vl f q * X + (vl f (q + 1) + f.binade) * X := by grind
      have e3 : 2 * f.binade * vl f (q + 1) * X = f.binade * vl f (q + 1) * X + f.binade * vl f (q + 1) * X := by grind
      have e4 : 2 * f.binade * m = f.binade * (2 * m) := by grind
      omega

/-- the number of a float without its sign, in units of the least place -/
def mg (x : Nat) : Nat := vl FloatKind.f64.format (rgK .f64 x)
/-- .. as a number -/
def av (x : Nat) : Rat := (mg x : Rat) / 2 ^ 1074
def epR : Rat := 1 / 2 ^ 53
def etR : Rat := 1 / 2 ^ 1075
theorem av_nn (x : Nat) : 0 ≤ av x := by
  unfold av
  rw [Rat.div_def]
  exact Rat.mul_nonneg Rat.natCast_nonneg (Rat.le_of_lt (Rat.inv_pos.2 (Rat.pow_pos (by decide))))

theorem bin64 : FloatKind.f64.format.binade = 2 ^ 52 := rfl

/-- near q e A: A is q rounded: within e of A's part and half a least place -/
def nearR (q A : Rat) : Prop := q ≤ A + epR * A + etR ∧ A ≤ q + epR * A + etR

/-- m / 2 ^ t least places, rounded -/
theorem near_rr (m t : Nat) (q : Rat) (hq : q * 2 ^ t * 2 ^ 1074 = m) : nearR q ((vl FloatKind.f64.format (rr FloatKind.f64.format m t) : Rat) / 2 ^ 1074) := by
  obtain ⟨h1, h2⟩ := rr_err FloatKind.f64.format fb1 m t
  generalize vl FloatKind.f64.format (rr FloatKind.f64.format m t) = V at *
  have hbin : (FloatKind.f64.format.binade : Rat) = 2 ^ 52 := by rw [bin64]; push_cast; rfl
  generalize FloatKind.f64.format.binade = b at *
  have h1 := Rat.natCast_le_natCast.2 h1
  have h2 := Rat.natCast_le_natCast.2 h2
  have hX : (0 : Rat) < 2 ^ t := Rat.pow_pos (by decide)
  have hW : (0 : Rat) < 2 ^ 1074 := Rat.pow_pos (by decide)
  push_cast at h1 h2
  rw [hbin] at h1 h2
  clear hbin
  unfold nearR epR etR
  have hW2 : (2 : Rat) ^ 1075 = 2 ^ 1074 * 2 := Rat.pow_succ _ _
  rw [hW2]
  have h53 : (2 : Rat) ^ 53 = 2 * 2 ^ 52 := by rw [Rat.pow_succ]; grind
  rw [h53]
  generalize (2 : Rat) ^ 1074 = W at *
  generalize (2 : Rat) ^ t = X at *
  have hc : (0 : Rat) < 2 ^ 52 := by decide
  generalize (2 : Rat) ^ 52 = B at *
  rw [← hq] at h1 h2
  generalize (V : Rat) = v at *
  constructor
  · refine Rat.le_of_mul_le_mul_right (c := 2 * B * (X * W)) ?_ (Rat.mul_pos (Rat.mul_pos (by decide) hc) (Rat.mul_pos hX hW))
    have e1 : (v / W + 1 / (2 * B) * (v / W) + 1 / (W * 2)) * (2 * B * (X * W)) = (2 * B * v + v + B) * X := by grind
    have e2 : q * (2 * B * (X * W)) = 2 * B * (q * X * W) := by grind
    rw [e1, e2]; exact h1
  · refine Rat.le_of_mul_le_mul_right (c := 2 * B * (X * W)) ?_ (Rat.mul_pos (Rat.mul_pos (by decide) hc) (Rat.mul_pos hX hW))
    have e1 : (q + 1 / (2 * B) * (v / W) + 1 / (W * 2)) * (2 * B * (X * W)) = 2 * B * (q * X * W) + (v + B) * X := by grind
    have e2 : v / W * (2 * B * (X * W)) = 2 * B * v * X := by grind
    rw [e1, e2]; exact h2
end Go.Proofs.Ytbphmjfgpkjecab
namespace Go.Proofs.Ytbphmjfgpkjecab
open Ieee Go.RowKit
set_option linter.unusedSimpArgs false
set_option linter.unusedVariables false

theorem two_ne : (2 : Rat) ≠ 0 := by decide
theorem zp_pos (k : Int) : (0 : Rat) < 2 ^ k := Rat.zpow_pos (by decide)
theorem zp_add (a b : Int) : (2 : Rat) ^ (a + b) = 2 ^ a * 2 ^ b := Rat.zpow_add two_ne a b
theorem zp_nat (n : Nat) : (2 : Rat) ^ (n : Int) = 2 ^ n := Rat.zpow_natCast _ _

theorem near_any (m : Nat) (p : Int) : ∃ r, (∀ s, FloatKind.f64.format.nearest s m p = FloatKind.f64.format.word s (min r (infK .f64))) ∧ nearR ((m : Rat) * 2 ^ p) ((vl FloatKind.f64.format r : Rat) / 2 ^ 1074) := by
  by_cases h : FloatKind.f64.format.leastPlace ≤ p
  · obtain ⟨q, hq⟩ : ∃ q : Nat, p = FloatKind.f64.format.leastPlace - ((0 : Nat) : Int) + (q : Int) := ⟨(p - FloatKind.f64.format.leastPlace).toNat, by omega⟩
    refine ⟨rr FloatKind.f64.format (m * 2 ^ q) 0, fun s => by rw [hq, nearest_shift, nearest_rr]; rfl, near_rr _ _ _ ?_⟩
    have e : p + 1074 = (q : Int) := by rw [hq, least64]; omega
    have e2 : (2 : Rat) ^ p * 2 ^ 1074 = 2 ^ q := by
      rw [← zp_nat q, ← e, zp_add, ← zp_nat 1074]; rfl
    push_cast
    rw [Rat.pow_zero, Rat.mul_one, Rat.mul_assoc, e2]
  · obtain ⟨t, ht⟩ : ∃ t : Nat, p = FloatKind.f64.format.leastPlace - (t : Int) := ⟨(FloatKind.f64.format.leastPlace - p).toNat, by omega⟩
    refine ⟨rr FloatKind.f64.format m t, fun s => by rw [ht, nearest_rr]; rfl, near_rr _ _ _ ?_⟩
    have e : p + (t : Int) + 1074 = 0 := by rw [ht, least64]; omega
    have e2 : (2 : Rat) ^ p * 2 ^ t * 2 ^ 1074 = 1 := by
      rw [← zp_nat t, ← zp_add, ← zp_nat 1074, ← zp_add]
      rw [show p + (t : Int) + ((1074 : Nat) : Int) = 0 from e, Rat.zpow_zero]
    rw [Rat.mul_assoc, Rat.mul_assoc, ← Rat.mul_assoc (2 ^ p), e2, Rat.mul_one]

theorem read_num64 (x : Nat) (h : finK .f64 x = true) : ∃ m p, FloatKind.f64.format.read x = .number (ngK .f64 x) m (FloatKind.f64.format.leastPlace + (p : Nat)) ∧ m * 2 ^ p = mg x ∧ m < 2 ^ 53 := by
  have h : rgK .f64 x < infK .f64 := of_decide_eq_true h
  have hb := binade_pos FloatKind.f64.format
  unfold Format.read
  simp only []
  by_cases h1 : rg FloatKind.f64.format x < FloatKind.f64.format.binade
  · have h2 : x % FloatKind.f64.format.signWeight < FloatKind.f64.format.binade := h1
    rw [if_pos h2]
    refine ⟨x % FloatKind.f64.format.signWeight, 0, by rw [Int.natCast_zero, Int.add_zero]; rfl, ?_, ?_⟩
    · rw [Nat.pow_zero, Nat.mul_one]
      show _ = vl FloatKind.f64.format (rg FloatKind.f64.format x)
      unfold vl
      rw [if_pos h1]
      rfl
    · have : FloatKind.f64.format.binade = 2 ^ 52 := rfl
      rw [this] at h2
      exact Nat.lt_trans h2 (by decide)
  · have h2 : ¬ x % FloatKind.f64.format.signWeight < FloatKind.f64.format.binade := h1
    have h3 : x % FloatKind.f64.format.signWeight < FloatKind.f64.format.infRung := h
    rw [if_neg h2, if_pos h3]
    refine ⟨FloatKind.f64.format.binade + x % FloatKind.f64.format.signWeight % FloatKind.f64.format.binade, x % FloatKind.f64.format.signWeight / FloatKind.f64.format.binade - 1, rfl, ?_, ?_⟩
    · show _ = vl FloatKind.f64.format (rg FloatKind.f64.format x)
      unfold vl
      rw [if_neg h1]
      rfl
    · have h4 := Nat.mod_lt (x % FloatKind.f64.format.signWeight) hb
      have : FloatKind.f64.format.binade = 2 ^ 52 := rfl
      have h5 : (2 : Nat) ^ 53 = 2 * FloatKind.f64.format.binade := by rw [this]
      rw [h5]
      generalize FloatKind.f64.format.binade = B at *
      omega

theorem av_read {x m p : Nat} (h : m * 2 ^ p = mg x) : av x = (m : Rat) * 2 ^ (FloatKind.f64.format.leastPlace + (p : Int)) := by
  unfold av
  rw [← h]
  have e : FloatKind.f64.format.leastPlace + (p : Int) + ((1074 : Nat) : Int) = (p : Int) := by rw [least64]; omega
  have e2 : (2 : Rat) ^ (FloatKind.f64.format.leastPlace + (p : Int)) * 2 ^ 1074 = 2 ^ p := by
    rw [← zp_nat 1074, ← zp_add, e, zp_nat]
  push_cast
  rw [← e2, ← Rat.mul_assoc]
  exact Rat.mul_div_cancel (Rat.ne_of_gt (Rat.pow_pos (by decide)))

theorem mg_word (s : Bool) (r : Nat) (h : r < infK .f64) : mg (FloatKind.f64.format.word s (min r (infK .f64))) = vl FloatKind.f64.format r := by
  unfold mg
  rw [rgK_word _ _ _ (Nat.min_le_right _ _), Nat.min_eq_left (Nat.le_of_lt h)]

/-- a product, rounded -/
theorem mul_near {x y r : Nat} (hx : finK .f64 x = true) (hy : finK .f64 y = true) (h : resK .mul .f64 x y r) (hr : finK .f64 r = true) :
    nearR (av x * av y) (av r) ∧ ngK .f64 r = (ngK .f64 x ^^ ngK .f64 y) := by
  have e := res_is h (mul_spec x y hx hy)
  rw [e, fin_word] at hr
  have hr := of_decide_eq_true hr
  constructor
  · have hm : mg r = vl FloatKind.f64.format (rr FloatKind.f64.format (mg x * mg y) 1074) := by rw [e]; exact mg_word _ _ hr
    unfold av
    rw [hm]
    refine near_rr _ _ _ ?_
    have hW : (0 : Rat) < 2 ^ 1074 := Rat.pow_pos (by decide)
    push_cast
    generalize (2 : Rat) ^ 1074 = W at *
    grind
  · rw [e, ngK_word _ _ _ (Nat.min_le_right _ _)]

/-- a sum of two that are not below nought, rounded -/
theorem add_near {x y r : Nat} (hx : finK .f64 x = true) (hy : finK .f64 y = true) (nx : ngK .f64 x = false) (ny : ngK .f64 y = false) (h : resK .add .f64 x y r) (hr : finK .f64 r = true) :
    nearR (av x + av y) (av r) ∧ ngK .f64 r = false := by
  have e := res_is h (add_spec .f64 x y hx hy)
  have hs : svK .f64 x + svK .f64 y = ((mg x + mg y : Nat) : Int) := by
    unfold svK; rw [nx, ny]; simp only [Bool.false_eq_true, if_false]; unfold mg; omega
  rw [hs] at e
  have e0 : ¬ ((mg x + mg y : Nat) : Int) < 0 := by omega
  simp only [nx, Bool.false_and, e0, decide_false, ite_self, Int.natAbs_natCast] at e
  rw [e, fin_word] at hr
  have hr := of_decide_eq_true hr
  constructor
  · have hm : mg r = vl FloatKind.f64.format (rr FloatKind.f64.format (mg x + mg y) 0) := by rw [e]; exact mg_word _ _ hr
    unfold av
    rw [hm]
    refine near_rr _ _ _ ?_
    have hW : (0 : Rat) < 2 ^ 1074 := Rat.pow_pos (by decide)
    push_cast
    rw [Rat.pow_zero]
    generalize (2 : Rat) ^ 1074 = W at *
    grind
  · rw [e, ngK_word _ _ _ (Nat.min_le_right _ _)]

/-! ### The root -/
theorem rootFrom_spec (n : Nat) : ∀ (todo root : Nat), root * root ≤ n → n < (root + 2 ^ todo) * (root + 2 ^ todo) → Datum.rootFrom n todo root * Datum.rootFrom n todo root ≤ n ∧ n < (Datum.rootFrom n todo root + 1) * (Datum.rootFrom n todo root + 1)
  | 0, root, h1, h2 => ⟨h1, by simpa [Datum.rootFrom] using h2⟩
  | todo + 1, root, h1, h2 => by
    unfold Datum.rootFrom
    simp only [Nat.one_shiftLeft]
    by_cases h : (root + 2 ^ todo) * (root + 2 ^ todo) ≤ n
    · rw [if_pos h]
      refine rootFrom_spec n todo _ h ?_
      have e : root + 2 ^ todo + 2 ^ todo = root + 2 ^ (todo + 1) := by rw [Nat.pow_succ]; omega
      rw [e]; exact h2
    · rw [if_neg h]
      exact rootFrom_spec n todo root h1 (by omega)

theorem root_nat (m k : Nat) (hn : 2 ^ 108 ≤ m * 2 ^ k) : ∃ w st, st ≤ 1 ∧ Datum.rootFrom (m * 2 ^ k) ((m * 2 ^ k).log2 / 2 + 1) 0 = w ∧ (w * w != m * 2 ^ k).toNat = st ∧
    2 ^ 53 * ((2 * w + st) * (2 * w + st)) ≤ 2 ^ 53 * (4 * (m * 2 ^ k)) + 4 * (m * 2 ^ k) ∧ 2 ^ 53 * (4 * (m * 2 ^ k)) ≤ 2 ^ 53 * ((2 * w + st) * (2 * w + st)) + 4 * (m * 2 ^ k) := by
  generalize m * 2 ^ k = n at *
  have h0 : n < (0 + 2 ^ (n.log2 / 2 + 1)) * (0 + 2 ^ (n.log2 / 2 + 1)) := by
    rw [Nat.zero_add, ← Nat.pow_add]
    exact Nat.lt_of_lt_of_le (lt_log2 n) (Nat.pow_le_pow_right (by omega) (by omega))
  obtain ⟨h1, h2⟩ := rootFrom_spec n (n.log2 / 2 + 1) 0 (by omega) h0
  generalize Datum.rootFrom n (n.log2 / 2 + 1) 0 = w at *
  have hw : 2 ^ 54 ≤ w := by
    apply Decidable.byContradiction
    intro g
    have : (w + 1) * (w + 1) ≤ 2 ^ 54 * 2 ^ 54 := Nat.mul_le_mul (by omega) (by omega)
    rw [← Nat.pow_add] at this
    omega
  have hww : 2 ^ 54 * w ≤ w * w := Nat.mul_le_mul_right _ hw
  have e2 : (w + 1) * (w + 1) = w * w + 2 * w + 1 := by grind
  rw [e2] at h2
  refine ⟨w, (w * w != n).toNat, by cases (w * w != n) <;> simp, rfl, rfl, ?_⟩
  by_cases h : w * w = n
  · have : (w * w != n).toNat = 0 := by simp [h]
    rw [this]
    have e3 : (2 * w + 0) * (2 * w + 0) = 4 * (w * w) := by grind
    rw [e3, h]
    omega
  · have : (w * w != n).toNat = 1 := by simp [h]
    rw [this]
    have e3 : (2 * w + 1) * (2 * w + 1) = 4 * (w * w) + 4 * w + 1 := by grind
    rw [e3]
    generalize w * w = ww at *
    omega

theorem root_rat {A C Z E R a : Rat} (hE : 0 < E) (hz : 0 < Z) (hsq : R * R * 4 = A * Z) (hav : a * 4 = C * Z) (n1 : E * A ≤ E * C + C) (n2 : E * C ≤ E * A + C) : R * R ≤ a + 1 / E * a ∧ a ≤ R * R + 1 / E * a := by
  have n1 := Rat.mul_le_mul_of_nonneg_right n1 (Rat.le_of_lt hz)
  have n2 := Rat.mul_le_mul_of_nonneg_right n2 (Rat.le_of_lt hz)
  have hp : (0 : Rat) < 4 * E := Rat.mul_pos (by decide) hE
  constructor
  · refine Rat.le_of_mul_le_mul_right (c := 4 * E) ?_ hp
    have e1 : R * R * (4 * E) = E * (R * R * 4) := by grind
    have e2 : (a + 1 / E * a) * (4 * E) = E * (a * 4) + a * 4 := by grind
    rw [e1, e2, hsq, hav]
    grind
  · refine Rat.le_of_mul_le_mul_right (c := 4 * E) ?_ hp
    have e1 : (R * R + 1 / E * a) * (4 * E) = E * (R * R * 4) + a * 4 := by grind
    have e2 : a * (4 * E) = E * (a * 4) := by grind
    rw [e1, e2, hsq, hav]
    grind

theorem root_near {x : Nat} (hx : finK .f64 x = true) (nx : ngK .f64 x = false) (h0 : mg x ≠ 0) : ∃ (R : Rat) (r : Nat), 0 < R ∧ R * R ≤ av x + epR * av x ∧ av x ≤ R * R + epR * av x ∧
    FloatKind.f64.format.sqrt x = some (FloatKind.f64.format.word false (min r (infK .f64))) ∧ nearR R ((vl FloatKind.f64.format r : Rat) / 2 ^ 1074) := by
  obtain ⟨m, p, e, hv, hm⟩ := read_num64 x hx
  have hm0 : m ≠ 0 := fun h => h0 (by rw [← hv, h]; simp)
  have ha := av_read hv
  generalize hI : FloatKind.f64.format.leastPlace + (p : Int) = i at *
  -- how many digits more
  obtain ⟨more, hmore, hp, h108⟩ : ∃ more : Nat, 2 * (FloatKind.f64.format.fractionBits + 2) - m.log2 + ((i - ((2 * (FloatKind.f64.format.fractionBits + 2) - m.log2 : Nat) : Int)) % 2).toNat = more ∧ (∃ h : Int, i - (more : Int) = h + h) ∧ 2 ^ 108 ≤ m * 2 ^ more := by
    have hf : 2 * (FloatKind.f64.format.fractionBits + 2) = 108 := by decide
    rw [hf]
    have hl : m.log2 ≤ 52 := by
      have := (Nat.log2_lt hm0).2 hm
      omega
    refine ⟨_, rfl, ⟨(i - ((108 - m.log2 + ((i - ((108 - m.log2 : Nat) : Int)) % 2).toNat : Nat) : Int)) / 2, by omega⟩, ?_⟩
    have h1 := log2_le m hm0
    have h2 : 2 ^ m.log2 * 2 ^ (108 - m.log2) ≤ m * 2 ^ (108 - m.log2 + ((i - ((108 - m.log2 : Nat) : Int)) % 2).toNat) := Nat.mul_le_mul h1 (Nat.pow_le_pow_right (by omega) (by omega))
    rw [← Nat.pow_add, show m.log2 + (108 - m.log2) = 108 by omega] at h2
    exact h2
  obtain ⟨h, hh⟩ := hp
  obtain ⟨w, st, hst, hw, hs, n1, n2⟩ := root_nat m more h108
  obtain ⟨r, hr, hn⟩ := near_any (2 * w + st) (h - 1)
  refine ⟨((2 * w + st : Nat) : Rat) * 2 ^ (h - 1), r, ?_, ?_, ?_, ?_, hn⟩
  · refine Rat.mul_pos (Rat.natCast_pos.2 ?_) (zp_pos _)
    apply Decidable.byContradiction
    intro g
    have : w = 0 ∧ st = 0 := by omega
    rw [this.1, this.2] at n2
    omega
  all_goals
    have hsq : ((2 * w + st : Nat) : Rat) * 2 ^ (h - 1) * (((2 * w + st : Nat) : Rat) * 2 ^ (h - 1)) * 4 = (((2 * w + st) * (2 * w + st) : Nat) : Rat) * 2 ^ (h + h) := by
      have e4 : (2 : Rat) ^ (h + h) = 2 ^ (h - 1) * 2 ^ (h - 1) * 4 := by
        rw [← zp_add]
        have : h + h = (h - 1 + (h - 1)) + 2 := by omega
        rw [this, zp_add]
        rfl
      rw [e4, Rat.natCast_mul]
      generalize ((2 * w + st : Nat) : Rat) = z
      generalize (2 : Rat) ^ (h - 1) = y
      grind
    have hav : av x * 4 = ((4 * (m * 2 ^ more) : Nat) : Rat) * 2 ^ (h + h) := by
      rw [ha, ← hh]
      have e4 : (2 : Rat) ^ i = 2 ^ (i - (more : Int)) * 2 ^ more := by
        rw [← zp_nat, ← zp_add]; congr 1; omega
      rw [e4]
      push_cast
      generalize (2 : Rat) ^ (i - (more : Int)) = z
      generalize (2 : Rat) ^ more = y
      generalize (m : Rat) = v
      grind
    have hz := zp_pos (h + h)
    generalize ((2 * w + st : Nat) : Rat) * 2 ^ (h - 1) = R at *
    generalize (2 * w + st) * (2 * w + st) = A at *
    generalize 4 * (m * 2 ^ more) = C at *
    have n1 := Rat.natCast_le_natCast.2 n1
    have n2 := Rat.natCast_le_natCast.2 n2
    rw [Rat.natCast_add, Rat.natCast_mul, Rat.natCast_mul, show ((2 ^ 53 : Nat) : Rat) = 2 ^ 53 by push_cast; rfl] at n1 n2
  · exact (root_rat (Rat.pow_pos (by decide)) hz hsq hav n1 n2).1
  · exact (root_rat (Rat.pow_pos (by decide)) hz hsq hav n1 n2).2
  · unfold Format.sqrt
    rw [e]
    unfold Datum.root
    simp only [if_neg hm0, nx, Bool.false_eq_true, if_false, Option.map_some, Format.write]
    rw [hmore, Nat.shiftLeft_eq, hw, hs]
    have e5 : (i - (more : Int)) / 2 - 1 = h - 1 := by omega
    rw [e5, hr]
end Go.Proofs.Ytbphmjfgpkjecab
namespace Go.Proofs.Ytbphmjfgpkjecab
open Ieee Go.RowKit
set_option linter.unusedSimpArgs false
set_option linter.unusedVariables false

/-! ### The quotient -/
theorem quo_nat (m n : Nat) (hm : m < 2 ^ 53) (hn : n ≠ 0) (more : Nat) (hmore : 54 + n.log2 - m.log2 = more) :
    2 ^ 53 * ((2 * (m * 2 ^ more / n) + (m * 2 ^ more % n != 0).toNat) * n) ≤ 2 ^ 53 * (2 * (m * 2 ^ more)) + 2 * (m * 2 ^ more) ∧
    2 ^ 53 * (2 * (m * 2 ^ more)) ≤ 2 ^ 53 * ((2 * (m * 2 ^ more / n) + (m * 2 ^ more % n != 0).toNat) * n) + 2 * (m * 2 ^ more) := by
  by_cases hm0 : m = 0
  · subst hm0
    simp
  · have hD : 2 ^ 53 * n ≤ m * 2 ^ more := by
      have hl : m.log2 ≤ 52 := by
        have := (Nat.log2_lt hm0).2 hm
        omega
      have h1 := log2_le m hm0
      have h2 := lt_log2 n
      have h3 : 2 ^ m.log2 * 2 ^ more ≤ m * 2 ^ more := Nat.mul_le_mul_right _ h1
      rw [← Nat.pow_add, show m.log2 + more = 53 + (n.log2 + 1) by omega, Nat.pow_add] at h3
      have h4 : 2 ^ 53 * n ≤ 2 ^ 53 * 2 ^ (n.log2 + 1) := Nat.mul_le_mul_left _ (Nat.le_of_lt h2)
      omega
    generalize m * 2 ^ more = D at *
    have hd := Nat.div_add_mod D n
    have hr := Nat.mod_lt D (Nat.pos_of_ne_zero hn)
    generalize D / n = q at *
    generalize D % n = r at *
    by_cases hz : r = 0
    · have : (r != 0).toNat = 0 := by simp [hz]
      rw [this]
      have e : (2 * q + 0) * n = 2 * (n * q) := by grind
      rw [e]
      generalize n * q = nq at *
      omega
    · have : (r != 0).toNat = 1 := by simp [hz]
      rw [this]
      have e : (2 * q + 1) * n = 2 * (n * q) + n := by grind
      rw [e]
      generalize n * q = nq at *
      omega

theorem quo_rat {A C Z E Q n x : Rat} (hE : 0 < E) (hz : 0 < Z) (hq : Q * n * 2 = A * Z) (hx : x * 2 = C * Z) (n1 : E * A ≤ E * C + C) (n2 : E * C ≤ E * A + C) : Q * n ≤ x + 1 / E * x ∧ x ≤ Q * n + 1 / E * x := by
  have n1 := Rat.mul_le_mul_of_nonneg_right n1 (Rat.le_of_lt hz)
  have n2 := Rat.mul_le_mul_of_nonneg_right n2 (Rat.le_of_lt hz)
  have hp : (0 : Rat) < 2 * E := Rat.mul_pos (by decide) hE
  constructor
  · refine Rat.le_of_mul_le_mul_right (c := 2 * E) ?_ hp
    have e1 : Q * n * (2 * E) = E * (Q * n * 2) := by grind
    have e2 : (x + 1 / E * x) * (2 * E) = E * (x * 2) + x * 2 := by grind
    rw [e1, e2, hq, hx]
    grind
  · refine Rat.le_of_mul_le_mul_right (c := 2 * E) ?_ hp
    have e1 : (Q * n + 1 / E * x) * (2 * E) = E * (Q * n * 2) + x * 2 := by grind
    have e2 : x * (2 * E) = E * (x * 2) := by grind
    rw [e1, e2, hq, hx]
    grind

theorem near_any0 (p : Int) : ∀ s, FloatKind.f64.format.nearest s 0 p = FloatKind.f64.format.word s (min 0 (infK .f64)) := fun s => by
  unfold Format.nearest; simp

theorem quo_near {x y : Nat} (hx : finK .f64 x = true) (hy : finK .f64 y = true) (h0 : mg y ≠ 0) : ∃ (Q : Rat) (r : Nat), 0 ≤ Q ∧ Q * av y ≤ av x + epR * av x ∧ av x ≤ Q * av y + epR * av x ∧
    floatBits .quo .f64 x y = some (FloatKind.f64.format.word (ngK .f64 x ^^ ngK .f64 y) (min r (infK .f64))) ∧ nearR Q ((vl FloatKind.f64.format r : Rat) / 2 ^ 1074) ∧ (mg x = 0 → r = 0) := by
  obtain ⟨m, p, e, hv, hm⟩ := read_num64 x hx
  obtain ⟨n, q, e', hv', hn⟩ := read_num64 y hy
  have hn0 : n ≠ 0 := fun h => h0 (by rw [← hv', h]; simp)
  have ha := av_read hv
  have ha' := av_read hv'
  generalize hI : FloatKind.f64.format.leastPlace + (p : Int) = i at *
  generalize hJ : FloatKind.f64.format.leastPlace + (q : Int) = j at *
  obtain ⟨more, hmore⟩ : ∃ more, 54 + n.log2 - m.log2 = more := ⟨_, rfl⟩
  obtain ⟨n1, n2⟩ := quo_nat m n hm hn0 more hmore
  have hw : floatBits .quo .f64 x y = some (FloatKind.f64.format.nearest (ngK .f64 x ^^ ngK .f64 y) (2 * (m * 2 ^ more / n) + (m * 2 ^ more % n != 0).toNat) (i - j - (more : Int) - 1)) := by
    show FloatKind.f64.format.div _ _ = _
    unfold Format.div
    rw [e, e']
    simp only [Datum.quotient, if_neg hn0, Option.map_some, Format.write]
    rw [show FloatKind.f64.format.fractionBits + 2 = 54 from rfl, hmore, Nat.shiftLeft_eq]
  obtain ⟨r, hr, hnear, hzero⟩ : ∃ r, (∀ s, FloatKind.f64.format.nearest s (2 * (m * 2 ^ more / n) + (m * 2 ^ more % n != 0).toNat) (i - j - (more : Int) - 1) = FloatKind.f64.format.word s (min r (infK .f64))) ∧ nearR (((2 * (m * 2 ^ more / n) + (m * 2 ^ more % n != 0).toNat : Nat) : Rat) * 2 ^ (i - j - (more : Int) - 1)) ((vl FloatKind.f64.format r : Rat) / 2 ^ 1074) ∧ (mg x = 0 → r = 0) := by
    by_cases hx0 : m = 0
    · subst hx0
      refine ⟨0, by simpa using near_any0 _, ?_, fun _ => rfl⟩
      simp only [Nat.zero_mul, Nat.zero_div, Nat.zero_mod, vl_zero]
      unfold nearR epR etR
      simp
      decide +kernel
    · obtain ⟨r, h1, h2⟩ := near_any (2 * (m * 2 ^ more / n) + (m * 2 ^ more % n != 0).toNat) (i - j - (more : Int) - 1)
      exact ⟨r, h1, h2, fun h => absurd (by rw [← hv] at h; exact (Nat.mul_eq_zero.1 h).resolve_right (Nat.ne_of_gt (Nat.two_pow_pos _))) hx0⟩
  rw [hr] at hw
  generalize hA : 2 * (m * 2 ^ more / n) + (m * 2 ^ more % n != 0).toNat = A at *
  refine ⟨(A : Rat) * 2 ^ (i - j - (more : Int) - 1), r, Rat.mul_nonneg Rat.natCast_nonneg (Rat.le_of_lt (zp_pos _)), ?_, ?_, hw, hnear, hzero⟩
  all_goals
    have hq : (A : Rat) * 2 ^ (i - j - (more : Int) - 1) * av y * 2 = ((A * n : Nat) : Rat) * 2 ^ (i - (more : Int)) := by
      have e4 : (2 : Rat) ^ (i - (more : Int)) = 2 ^ (i - j - (more : Int) - 1) * 2 ^ j * 2 := by
        rw [← zp_add]
        have : i - (more : Int) = (i - j - (more : Int) - 1 + j) + 1 := by omega
        rw [this, zp_add, Rat.zpow_one]
      rw [e4, ha']
      push_cast
      generalize (2 : Rat) ^ (i - j - (more : Int) - 1) = z
      generalize (2 : Rat) ^ j = z'
      grind
    have hxx : av x * 2 = ((2 * (m * 2 ^ more) : Nat) : Rat) * 2 ^ (i - (more : Int)) := by
      rw [ha]
      have e4 : (2 : Rat) ^ i = 2 ^ (i - (more : Int)) * 2 ^ more := by
        rw [← zp_nat, ← zp_add]; congr 1; omega
      rw [e4]
      push_cast
      generalize (2 : Rat) ^ (i - (more : Int)) = z
      generalize (2 : Rat) ^ more = y
      grind
    have hz := zp_pos (i - (more : Int))
    generalize A * n = An at *
    generalize 2 * (m * 2 ^ more) = C at *
    have n1 := Rat.natCast_le_natCast.2 n1
    have n2 := Rat.natCast_le_natCast.2 n2
    rw [Rat.natCast_add, Rat.natCast_mul, Rat.natCast_mul, show ((2 ^ 53 : Nat) : Rat) = 2 ^ 53 by push_cast; rfl] at n1 n2
  · exact (quo_rat (Rat.pow_pos (by decide)) hz hq hxx n1 n2).1
  · exact (quo_rat (Rat.pow_pos (by decide)) hz hq hxx n1 n2).2
end Go.Proofs.Ytbphmjfgpkjecab
namespace Go.Proofs.Ytbphmjfgpkjecab
open Ieee Go.RowKit
set_option linter.unusedSimpArgs false
set_option linter.unusedVariables false

/-! ### How long a way of the length 1 is: the errors, one after another (e: the part by which a rounding may err; h: half a least place) -/
theorem rmul {a b c : Rat} (h : a ≤ b) (hc : 0 ≤ c) : c * a ≤ c * b := Rat.mul_le_mul_of_nonneg_left h hc
theorem rsq (a : Rat) : 0 ≤ a * a := by
  rcases Rat.le_total (a := 0) (b := a) with h | h
  · exact Rat.mul_nonneg h h
  · have : 0 ≤ (-a) * (-a) := Rat.mul_nonneg (by grind) (by grind)
    grind
def nr (e h q A : Rat) : Prop := q ≤ A + e * A + h ∧ A ≤ q + e * A + h

/-- two squares' sum, each rounded, and the sum -/
theorem sum_up {e h p q P Q S T : Rat} (he : 0 ≤ e) (he1 : e * 8 ≤ 1) (hS : 0 ≤ S) (hh : h ≤ e * e * S) (h0 : 0 ≤ h) (hp : nr e h p P) (hq : nr e h q Q) (hs : nr e h (P + Q) S) : p + q ≤ S + 3 * (e * S) ∧ S ≤ p + q + 3 * (e * S) := by
  obtain ⟨p1, p2⟩ := hp
  obtain ⟨q1, q2⟩ := hq
  obtain ⟨s1, s2⟩ := hs
  have z1 := Rat.mul_nonneg he hS
  have z2 := Rat.mul_nonneg (Rat.mul_nonneg he he) hS
  have z3 := Rat.mul_nonneg he h0
  have m1 := rmul s1 he
  have m2 : e * e * S * 8 ≤ e * S := by
    have := rmul he1 (Rat.mul_nonneg he hS)
    grind
  have m3 : e * h ≤ h := by
    have := rmul he1 h0
    have := Rat.mul_nonneg he h0
    grind
  constructor <;> grind

theorem len_up {e h R N : Rat} (he : 0 ≤ e) (he1 : e * 8 ≤ 1) (hR : 0 ≤ R) (hN : 0 ≤ N) (hh : h ≤ e * e * R) (hn : nr e h R N) : N ≤ R + 2 * (e * R) ∧ R ≤ N + 2 * (e * R) := by
  obtain ⟨n1, n2⟩ := hn
  have z1 := Rat.mul_nonneg he hR
  have z2 := Rat.mul_nonneg (Rat.mul_nonneg he he) hR
  have m2 : e * e * R * 8 ≤ e * R := by
    have := rmul he1 (Rat.mul_nonneg he hR)
    grind
  have u : N ≤ R + 2 * (e * R) := by
    refine Rat.le_of_mul_le_mul_right (c := 1 - e) ?_ (by grind)
    have e1 : (R + 2 * (e * R)) * (1 - e) = R + e * R - 2 * (e * e * R) := by grind
    rw [e1]
    grind
  refine ⟨u, ?_⟩
  have m1 := rmul u he
  grind

/-- a bound on a square from a bound on the number -/
theorem sq_le {a b : Rat} (ha : 0 ≤ a) (h : a ≤ b) : a * a ≤ b * b := by
  have h1 := rmul h ha
  have h2 := rmul h (Rat.le_trans ha h)
  grind
theorem sq_ge {A a b : Rat} (hA : 0 ≤ A) (ha : 0 ≤ a) (hb : 0 ≤ b) (h : a ≤ A + b) : a * a ≤ A * A + 2 * (a * b) := by
  rcases Rat.le_total (a := b) (b := a) with g | g
  · have h1 := sq_le (a := a - b) (b := A) (by grind) (by grind)
    have := rsq b
    grind
  · have h1 := rmul g ha
    have h2 := rsq A
    have h3 := Rat.mul_nonneg ha hb
    grind

theorem len_sq {e R N S : Rat} (he : 0 ≤ e) (he1 : e * 64 ≤ 1) (hR : 0 ≤ R) (hN : 0 ≤ N) (hS : 0 ≤ S) (r1 : R * R ≤ S + e * S) (r2 : S ≤ R * R + e * S) (n1 : N ≤ R + 2 * (e * R)) (n2 : R ≤ N + 2 * (e * R)) : N * N ≤ S + 8 * (e * S) ∧ S ≤ N * N + 8 * (e * S) := by
  have a1 := sq_le hN n1
  have hRR := rsq R
  have z1 := Rat.mul_nonneg he hRR
  have z2 := Rat.mul_nonneg (Rat.mul_nonneg he he) hRR
  have z3 := Rat.mul_nonneg he hS
  have z4 := Rat.mul_nonneg (Rat.mul_nonneg he he) hS
  have a2 := sq_ge hN hR (Rat.mul_nonneg (by decide) (Rat.mul_nonneg he hR)) n2
  have m1 : e * e * (R * R) * 64 ≤ e * (R * R) := by
    have := rmul he1 (Rat.mul_nonneg he hRR)
    grind
  have m2 := rmul r1 he
  have m3 : e * e * S * 64 ≤ e * S := by
    have := rmul he1 (Rat.mul_nonneg he hS)
    grind
  constructor <;> grind

/-- one part of the way of the length 1, times the length -/
theorem part_up {e h X N Q U : Rat} (he : 0 ≤ e) (he1 : e * 64 ≤ 1) (h0 : 0 ≤ h) (hX : 0 ≤ X) (hN : 0 ≤ N) (hQ : 0 ≤ Q) (hU : 0 ≤ U) (q1 : Q * N ≤ X + e * X) (q2 : X ≤ Q * N + e * X) (hu : nr e h Q U) :
    N * U ≤ X + 3 * (e * X) + 2 * (h * N) ∧ X ≤ N * U + 3 * (e * X) + 2 * (h * N) := by
  obtain ⟨u1, u2⟩ := hu
  have z2 := Rat.mul_nonneg (Rat.mul_nonneg he he) hX
  have z3 := Rat.mul_nonneg he (Rat.mul_nonneg h0 hN)
  have k1 := rmul u1 hN
  have k2 := rmul u2 hN
  have m1 : e * e * X * 64 ≤ e * X := by
    have := rmul he1 (Rat.mul_nonneg he hX)
    grind
  have hhN := Rat.mul_nonneg h0 hN
  have m4 : e * (h * N) * 64 ≤ h * N := by
    have := rmul he1 hhN
    grind
  have up : N * U ≤ X + 3 * (e * X) + 2 * (h * N) := by
    refine Rat.le_of_mul_le_mul_right (c := 1 - e) ?_ (by grind)
    have e1 : (X + 3 * (e * X) + 2 * (h * N)) * (1 - e) = X + 2 * (e * X) - 3 * (e * e * X) + 2 * (h * N) - 2 * (e * (h * N)) := by grind
    have e2 : N * U * (1 - e) = N * U - N * (e * U) := by grind
    rw [e1, e2]
    have hX' := Rat.mul_nonneg he hX
    grind
  refine ⟨up, ?_⟩
  have m2 := rmul up he
  have hX' := Rat.mul_nonneg he hX
  grind

theorem part_sq {e h X N A : Rat} (he : 0 ≤ e) (he1 : e * 64 ≤ 1) (h0 : 0 ≤ h) (h1 : h * 64 ≤ 1) (hX : 0 ≤ X) (hN : 0 ≤ N) (hA : 0 ≤ A) (a1 : A ≤ X + 3 * (e * X) + 2 * (h * N)) (a2 : X ≤ A + (3 * (e * X) + 2 * (h * N))) :
    A * A ≤ X * X + 7 * (e * (X * X)) + 8 * h * (N * N + X * X) ∧ X * X ≤ A * A + 6 * (e * (X * X)) + 2 * h * (N * N + X * X) := by
  have hXX := rsq X
  have hNN := rsq N
  have hNX : 2 * (N * X) ≤ N * N + X * X := by have := rsq (N - X); grind
  have hNX0 := Rat.mul_nonneg hN hX
  have b1 := sq_le hA a1
  have b2 := sq_ge hA hX (Rat.add_nonneg (Rat.mul_nonneg (by decide) (Rat.mul_nonneg he hX)) (Rat.mul_nonneg (by decide) (Rat.mul_nonneg h0 hN))) a2
  have m1 : e * e * (X * X) * 64 ≤ e * (X * X) := by
    have := rmul he1 (Rat.mul_nonneg he hXX)
    grind
  have m2 := rmul hNX h0
  have m3 : e * (h * (N * X)) * 64 ≤ h * (N * X) := by
    have := rmul he1 (Rat.mul_nonneg h0 hNX0)
    grind
  have m4 : h * h * (N * N) * 64 ≤ h * (N * N) := by
    have := rmul h1 (Rat.mul_nonneg h0 hNN)
    grind
  have z1 := Rat.mul_nonneg he hXX
  have z2 := Rat.mul_nonneg (Rat.mul_nonneg he he) hXX
  have z3 := Rat.mul_nonneg he (Rat.mul_nonneg h0 hNX0)
  have z4 := Rat.mul_nonneg (Rat.mul_nonneg h0 h0) hNN
  have z5 := Rat.mul_nonneg h0 hNX0
  have p1 := Rat.mul_nonneg h0 hXX
  have p2 := Rat.mul_nonneg h0 hNN
  constructor <;> grind

/-- the whole: a way of the length 1 is nearly so long -/
theorem long_rat {e h X Y P Q S R N Qx Qy Ux Uy P' Q' L : Rat} (he : 0 < e) (he1 : e * 1024 ≤ 1) (h0 : 0 ≤ h) (h1 : h * 1024 ≤ e)
    (hX : 0 ≤ X) (hY : 0 ≤ Y) (hS : 0 < S) (hR : 0 ≤ R) (hN : 0 ≤ N) (hQx : 0 ≤ Qx) (hQy : 0 ≤ Qy) (hUx : 0 ≤ Ux) (hUy : 0 ≤ Uy) (hL : 0 ≤ L)
    (hh1 : h ≤ e * e * S) (hh2 : h ≤ e * e * R)
    (a1 : nr e h (X * X) P) (a2 : nr e h (Y * Y) Q) (a3 : nr e h (P + Q) S)
    (b1 : R * R ≤ S + e * S) (b2 : S ≤ R * R + e * S) (b3 : nr e h R N)
    (c1 : Qx * N ≤ X + e * X) (c2 : X ≤ Qx * N + e * X) (c3 : nr e h Qx Ux)
    (d1 : Qy * N ≤ Y + e * Y) (d2 : Y ≤ Qy * N + e * Y) (d3 : nr e h Qy Uy)
    (f1 : nr e h (Ux * Ux) P') (f2 : nr e h (Uy * Uy) Q') (f3 : nr e h (P' + Q') L) : 1 ≤ L + 32 * e ∧ L ≤ 1 + 32 * e := by
  have he' := Rat.le_of_lt he
  have hS' := Rat.le_of_lt hS
  have he8 : e * 8 ≤ 1 := by grind
  have he64 : e * 64 ≤ 1 := by grind
  have hh64 : h * 64 ≤ 1 := by grind
  obtain ⟨t1, t2⟩ := sum_up (T := 0) he' he8 hS' hh1 h0 a1 a2 a3
  obtain ⟨n1, n2⟩ := len_up he' he8 hR hN hh2 b3
  obtain ⟨s1, s2⟩ := len_sq he' he64 hR hN hS' b1 b2 n1 n2
  obtain ⟨u1, u2⟩ := part_up he' he64 h0 hX hN hQx hUx c1 c2 c3
  obtain ⟨v1, v2⟩ := part_up he' he64 h0 hY hN hQy hUy d1 d2 d3
  obtain ⟨x1, x2⟩ := part_sq he' he64 h0 hh64 hX hN (Rat.mul_nonneg hN hUx) u1 (by grind)
  obtain ⟨y1, y2⟩ := part_sq he' he64 h0 hh64 hY hN (Rat.mul_nonneg hN hUy) v1 (by grind)
  clear a1 a2 a3 b1 b2 b3 c1 c2 c3 d1 d2 d3 u1 u2 v1 v2 n1 n2 hh1 hh2
  -- T: the sum of the squares; W: that of the parts of the way of the length 1
  have hT : 0 ≤ X * X + Y * Y := Rat.add_nonneg (rsq X) (rsq Y)
  have z1 := Rat.mul_nonneg he' hS'
  have z2 := Rat.mul_nonneg he' hT
  have z3 := Rat.mul_nonneg h0 hT
  have z4 := Rat.mul_nonneg h0 hS'
  have g1 : e * (X * X + Y * Y) ≤ e * (S + 3 * (e * S)) := rmul t1 he'
  have g2 : e * e * S * 1024 ≤ e * S := by have := rmul he1 z1; grind
  have g3 : h * (X * X + Y * Y) ≤ h * (S + 3 * (e * S)) := rmul t1 h0
  have g4 : h * S * 1024 ≤ e * S := by have := rmul h1 hS'; grind
  have g5 : h * (e * S) * 1024 ≤ h * S := by have := rmul he1 z4; grind
  have g6 : h * (N * N) ≤ h * (S + 8 * (e * S)) := rmul s1 h0
  have z5 := Rat.mul_nonneg (Rat.mul_nonneg he' he') hS'
  have z6 := Rat.mul_nonneg h0 z1
  have W1 : N * N * (Ux * Ux + Uy * Uy) ≤ S + 12 * (e * S) := by
    have : N * N * (Ux * Ux + Uy * Uy) = N * Ux * (N * Ux) + N * Uy * (N * Uy) := by grind
    rw [this]
    clear this y2 x2 f1 f2 f3
    grind
  have W2 : S ≤ N * N * (Ux * Ux + Uy * Uy) + 12 * (e * S) := by
    have : N * N * (Ux * Ux + Uy * Uy) = N * Ux * (N * Ux) + N * Uy * (N * Uy) := by grind
    rw [this]
    clear this y1 x1 f1 f2 f3
    grind
  clear x1 x2 y1 y2 t1 t2 g1 g3 g4 g5 g6 hT z2 z3 z4 z6
  have hW : 0 ≤ Ux * Ux + Uy * Uy := Rat.add_nonneg (rsq Ux) (rsq Uy)
  generalize hWW : Ux * Ux + Uy * Uy = W at *
  have zw := Rat.mul_nonneg hS' hW
  have k1 := rmul s1 hW
  have k2 := rmul s2 hW
  have V1 : W ≤ 1 + 24 * e := by
    refine Rat.le_of_mul_le_mul_left (c := S * (1 - 8 * e)) ?_ (Rat.mul_pos hS (by grind))
    grind
  have V2 : 1 ≤ W + 24 * e := by
    apply Decidable.byContradiction
    intro g
    have g : W < 1 - 24 * e := by grind
    have := Rat.mul_lt_mul_of_pos_left g (Rat.mul_pos hS (show (0 : Rat) < 1 + 8 * e by grind))
    grind
  obtain ⟨f4, f5⟩ := f1
  obtain ⟨f6, f7⟩ := f2
  obtain ⟨f8, f9⟩ := f3
  have hM1 : P' + Q' ≤ 2 := by
    refine Rat.le_of_mul_le_mul_right (c := 1 - e) ?_ (by grind)
    grind
  have hM2 := rmul hM1 he'
  have hL1 : L ≤ 3 := by
    refine Rat.le_of_mul_le_mul_right (c := 1 - e) ?_ (by grind)
    grind
  have hL2 := rmul hL1 he'
  clear k1 k2 s1 s2 W1 W2 g2 z1 z5 zw
  constructor <;> grind
end Go.Proofs.Ytbphmjfgpkjecab
namespace Go.Proofs.Ytbphmjfgpkjecab
open Ieee Go.RowKit
set_option linter.unusedSimpArgs false
set_option linter.unusedVariables false

/-! ### Quotients with a sign turned -/
theorem quo_neg_l (k : FloatKind) (x y : Nat) (hx : okK k x) : floatBits .quo k (Op.negFloat k x) y = (floatBits .quo k x y).map (Op.negFloat k) := by
  show k.format.div _ _ = (k.format.div _ _).map _
  unfold Format.div
  rw [read_neg k x hx, Option.map_map]
  have hi : k.format.infRung < k.format.signWeight := inf_lt_sign _
  have hinf : ∀ s, Op.negFloat k (k.format.write (.infinity s)) = k.format.write (.infinity (!s)) := fun s => word_neg k s _ hi
  have hnum : ∀ s m p, Op.negFloat k (k.format.write (.number s m p)) = k.format.write (.number (!s) m p) := fun s m p => by
    obtain ⟨r, hr, h⟩ := nearest_le k.format s m p
    show Op.negFloat k (k.format.nearest s m p) = k.format.nearest (!s) m p
    rw [h, h]
    exact word_neg k s r (by omega)
  cases k.format.read x <;> cases k.format.read y <;> simp only [Datum.opposite, Datum.quotient, Option.map_some, Option.map_none, Function.comp] <;> (try rfl)
  · split
    · split
      · rfl
      · simp [hinf]
    · simp [hnum]
  · simp [hnum]
  · simp [hinf]
theorem quo_neg_sm {x n r r' : Nat} (hx : okK .f64 x) (h : resK .quo .f64 x n r) (g : resK .quo .f64 (Op.negFloat .f64 x) n r') : smK .f64 r' (Op.negFloat .f64 r) = true := by
  have e1 := quo_neg_l .f64 x n hx
  rcases h.2 with k1 | ⟨k1, k2⟩
  · rw [k1] at e1
    rw [res_is g e1]
    exact smK_self _ _
  · rw [k1] at e1
    exact smK_nans (res_nan g e1) (by rw [neg_nan _ _ h.1]; exact k2)

theorem unit_neg {ax ay x y x' y' : Nat} {b b' : Bool} (h : UnitR ax ay x y b) (g : UnitR (Op.negFloat .f64 ax) (Op.negFloat .f64 ay) x' y' b') (hx : okK .f64 ax) (hy : okK .f64 ay) :
    b' = b ∧ (b = true → smK .f64 x' (Op.negFloat .f64 x) = true ∧ smK .f64 y' (Op.negFloat .f64 y) = true) := by
  obtain ⟨n, h1, h2, h3⟩ := h
  obtain ⟨n', g1, g2, g3⟩ := g
  have hn := h1.sm (length_neg hx hy g1)
  have hb : b' = b := by rw [h2, g2, ltK_sm hn, fin_sm hn]
  refine ⟨hb, fun hb1 => ?_⟩
  subst hb1; subst hb
  simp only [if_true] at h3 g3
  have ex : ∀ z, ∃ r, resK .quo .f64 z n r := fun z => by
    cases e : floatBits .quo .f64 z n with
    | some v => exact ⟨v, floatBits_ok e, .inl e⟩
    | none => exact ⟨9221120237041090561, by rw [okK64]; omega, .inr ⟨e, by decide +kernel⟩⟩
  obtain ⟨r1, k1⟩ := ex (Op.negFloat .f64 ax)
  obtain ⟨r2, k2⟩ := ex (Op.negFloat .f64 ay)
  exact ⟨smK_trans (res_congr (smK_self _ _) (smK_symm hn) g3.1 k1) (quo_neg_sm hx h3.1 k1), smK_trans (res_congr (smK_self _ _) (smK_symm hn) g3.2 k2) (quo_neg_sm hy h3.2 k2)⟩
theorem unit_left {ax ay x y x' y' : Nat} {b b' : Bool} (h : UnitR ax ay x y b) (g : UnitR (Op.negFloat .f64 ay) ax x' y' b') (hx : okK .f64 ax) (hy : okK .f64 ay) :
    b' = b ∧ (b = true → smK .f64 x' (Op.negFloat .f64 y) = true ∧ smK .f64 y' x = true) := by
  obtain ⟨n, h1, h2, h3⟩ := h
  obtain ⟨n', g1, g2, g3⟩ := g
  have hn := h1.sm (length_left hy g1)
  have hb : b' = b := by rw [h2, g2, ltK_sm hn, fin_sm hn]
  refine ⟨hb, fun hb1 => ?_⟩
  subst hb1; subst hb
  simp only [if_true] at h3 g3
  have ex : ∀ z, ∃ r, resK .quo .f64 z n r := fun z => by
    cases e : floatBits .quo .f64 z n with
    | some v => exact ⟨v, floatBits_ok e, .inl e⟩
    | none => exact ⟨9221120237041090561, by rw [okK64]; omega, .inr ⟨e, by decide +kernel⟩⟩
  obtain ⟨r1, k1⟩ := ex (Op.negFloat .f64 ay)
  exact ⟨smK_trans (res_congr (smK_self _ _) (smK_symm hn) g3.1 k1) (quo_neg_sm hy h3.2 k1), res_congr (smK_self _ _) (smK_symm hn) g3.2 h3.1⟩

/-! ### A square is not below nought; its root -/
theorem mul_self_sign {x p : Nat} (h : resK .mul .f64 x x p) (hn : nanK .f64 p = false) : ngK .f64 p = false := by
  rcases h.2 with e | ⟨_, e⟩
  · have e0 : floatBits .mul .f64 x x = ((FloatKind.f64.format.read x).product (FloatKind.f64.format.read x)).map FloatKind.f64.format.write := rfl
    rw [e0] at e
    cases d : FloatKind.f64.format.read x <;> rw [d] at e <;> simp only [Datum.product, Option.map_some, Option.map_none] at e
    · obtain ⟨r, hr, hw⟩ := nearest_le FloatKind.f64.format false _ _
      rw [← Option.some.inj e]
      simp only [Format.write, Bool.xor_self]
      rw [hw]
      exact ngK_word _ _ _ hr
    · rw [← Option.some.inj e]
      simp only [Format.write, Bool.xor_self]
      exact ngK_word .f64 _ _ (Nat.le_refl _)
    · cases e
  · rw [e] at hn; cases hn

/-- the square of a way: no number, or infinite, or finite; not below nought -/
theorem square_cases {ax ay s : Nat} (h : DotR ax ay ax ay s) : nanK .f64 s = true ∨ ngK .f64 s = false := by
  obtain ⟨p, q, h1, h2, h3⟩ := h
  cases hn : nanK .f64 s
  · refine .inr ?_
    rcases h3.2 with e | ⟨_, e⟩
    · have np : nanK .f64 p = false := by
        cases c : nanK .f64 p
        · rfl
        · rw [floatBits_nan_l _ _ _ _ c] at e; cases e
      have nq : nanK .f64 q = false := by
        cases c : nanK .f64 q
        · rfl
        · rw [floatBits_nan_r _ _ _ _ c] at e; cases e
      have sp := mul_self_sign h1 np
      have sq := mul_self_sign h2 nq
      cases fp : finK .f64 p
      · have e0 : floatBits .add .f64 p q = ((FloatKind.f64.format.read p).sum (FloatKind.f64.format.read q)).map FloatKind.f64.format.write := rfl
        rw [e0, read_inf _ (okF .f64) p (fin_inf fp np)] at e
        have sp : ng FloatKind.f64.format p = false := sp
        rw [sp] at e
        cases d : FloatKind.f64.format.read q <;> rw [d] at e <;> simp only [Datum.sum] at e
        · rw [← Option.some.inj e]; exact ngK_word .f64 _ _ (Nat.le_refl _)
        · split at e
          · rw [← Option.some.inj e]; exact ngK_word .f64 _ _ (Nat.le_refl _)
          · cases e
        · cases e
      · cases fq : finK .f64 q
        · have e0 : floatBits .add .f64 p q = ((FloatKind.f64.format.read p).sum (FloatKind.f64.format.read q)).map FloatKind.f64.format.write := rfl
          rw [e0, read_inf _ (okF .f64) q (fin_inf fq nq)] at e
          have sq : ng FloatKind.f64.format q = false := sq
          rw [sq] at e
          cases d : FloatKind.f64.format.read p <;> rw [d] at e <;> simp only [Datum.sum] at e
          · rw [← Option.some.inj e]; exact ngK_word .f64 _ _ (Nat.le_refl _)
          · split at e
            · rename_i s' hs'
              subst hs'
              rw [← Option.some.inj e]; exact ngK_word .f64 _ _ (Nat.le_refl _)
            · cases e
          · cases e
        · have e1 := add_spec .f64 p q fp fq
          have hs : svK .f64 p + svK .f64 q = ((mg p + mg q : Nat) : Int) := by
            unfold svK; rw [sp, sq]; simp only [Bool.false_eq_true, if_false]; unfold mg; omega
          rw [hs] at e1
          have e0 : ¬ ((mg p + mg q : Nat) : Int) < 0 := by omega
          simp only [sp, Bool.false_and, e0, decide_false, ite_self, Int.natAbs_natCast] at e1
          rw [res_is h3 e1]
          exact ngK_word .f64 _ _ (Nat.min_le_right _ _)
    · rw [e] at hn; cases hn
  · exact .inl rfl
end Go.Proofs.Ytbphmjfgpkjecab
namespace Go.Proofs.Ytbphmjfgpkjecab
open Ieee Go.RowKit
set_option linter.unusedSimpArgs false
set_option linter.unusedVariables false

/-! ### Small numbers are finite -/
theorem pow2_cast (n : Nat) : ((2 ^ n : Nat) : Rat) = 2 ^ n := by rw [Rat.natCast_pow]; rfl
theorem rp_add (a b : Nat) : (2 : Rat) ^ (a + b) = 2 ^ a * 2 ^ b := by rw [← zp_nat, ← zp_nat, ← zp_nat, ← zp_add]; rfl
theorem vl_inf : vl FloatKind.f64.format (infK .f64) = 2 ^ 2098 := by decide +kernel
theorem W_pos : (0 : Rat) < 2 ^ 1074 := Rat.pow_pos (by decide)
theorem rung_fin {r : Nat} (h : ((vl FloatKind.f64.format r : Nat) : Rat) / 2 ^ 1074 ≤ 2 ^ 1000) : r < infK .f64 := by
  apply Decidable.byContradiction
  intro g
  have h1 := vl_le FloatKind.f64.format (Nat.le_of_not_lt g)
  rw [vl_inf] at h1
  have h2 := Rat.natCast_le_natCast.2 h1
  have h3 : ((2 ^ 2098 : Nat) : Rat) = 2 ^ 1024 * 2 ^ 1074 := (pow2_cast 2098).trans (rp_add 1024 1074)
  rw [h3] at h2
  have h4 : (2 : Rat) ^ 1024 = 2 ^ 1000 * 2 ^ 24 := rp_add 1000 24
  have h5 : (2 : Rat) ^ 24 = 16777216 := by decide +kernel
  have h6 : (0 : Rat) < 2 ^ 1000 := Rat.pow_pos (by decide)
  have hW := W_pos
  have h7 : ((vl FloatKind.f64.format r : Nat) : Rat) ≤ 2 ^ 1000 * 2 ^ 1074 := by
    have := Rat.mul_le_mul_of_nonneg_right h (Rat.le_of_lt hW)
    rw [Rat.div_mul_cancel (Rat.ne_of_gt hW)] at this
    exact this
  rw [h4, h5] at h2
  have h8 : (0 : Rat) < 2 ^ 1000 * 2 ^ 1074 := Rat.mul_pos h6 hW
  generalize (2 : Rat) ^ 1000 = A at *
  generalize (2 : Rat) ^ 1074 = W at *
  generalize ((vl FloatKind.f64.format r : Nat) : Rat) = v at *
  grind

theorem av_word (s : Bool) (r : Nat) (h : r < infK .f64) : av (FloatKind.f64.format.word s (min r (infK .f64))) = (vl FloatKind.f64.format r : Rat) / 2 ^ 1074 := by
  unfold av; rw [mg_word s r h]
theorem fin_of (s : Bool) {r : Nat} (h : r < infK .f64) : finK .f64 (FloatKind.f64.format.word s (min r (infK .f64))) = true := by rw [fin_word]; exact decide_eq_true h

/-- a product that comes out small is finite, and near -/
theorem mul_small {x y r : Nat} (hx : finK .f64 x = true) (hy : finK .f64 y = true) (h : resK .mul .f64 x y r) (hb : av x * av y ≤ 2 ^ 100) : finK .f64 r = true := by
  have e := res_is h (mul_spec x y hx hy)
  rw [e]
  refine fin_of _ (rung_fin ?_)
  have hn : nearR (av x * av y) ((vl FloatKind.f64.format (rr FloatKind.f64.format (mg x * mg y) 1074) : Rat) / 2 ^ 1074) := by
    refine near_rr _ _ _ ?_
    have hW := W_pos
    unfold av
    push_cast
    generalize (2 : Rat) ^ 1074 = W at *
    grind
  have hn := hn.2
  have a1 : epR ≤ 1 / 4 := by decide +kernel
  have a2 : etR ≤ 1 := by decide +kernel
  have a4 : (0 : Rat) ≤ (vl FloatKind.f64.format (rr FloatKind.f64.format (mg x * mg y) 1074) : Rat) / 2 ^ 1074 := by
    rw [Rat.div_def]; exact Rat.mul_nonneg Rat.natCast_nonneg (Rat.le_of_lt (Rat.inv_pos.2 W_pos))
  have a3 : (2 : Rat) ^ 100 * 2 + 2 ≤ 2 ^ 1000 := by decide +kernel
  show (vl FloatKind.f64.format (rr FloatKind.f64.format (mg x * mg y) 1074) : Rat) / 2 ^ 1074 ≤ _
  generalize (vl FloatKind.f64.format (rr FloatKind.f64.format (mg x * mg y) 1074) : Rat) / 2 ^ 1074 = A at *
  have a5 := rmul a1 a4
  generalize av x * av y = q at *
  generalize (2 : Rat) ^ 100 = H at *
  generalize (2 : Rat) ^ 1000 = K at *
  grind

/-- a sum of two that are not below nought and small is finite -/
theorem add_small {x y r : Nat} (hx : finK .f64 x = true) (hy : finK .f64 y = true) (nx : ngK .f64 x = false) (ny : ngK .f64 y = false) (h : resK .add .f64 x y r) (hb : av x + av y ≤ 2 ^ 100) : finK .f64 r = true := by
  have e := res_is h (add_spec .f64 x y hx hy)
  have hs : svK .f64 x + svK .f64 y = ((mg x + mg y : Nat) : Int) := by
    unfold svK; rw [nx, ny]; simp only [Bool.false_eq_true, if_false]; unfold mg; omega
  rw [hs] at e
  have e0 : ¬ ((mg x + mg y : Nat) : Int) < 0 := by omega
  simp only [nx, Bool.false_and, e0, decide_false, ite_self, Int.natAbs_natCast] at e
  rw [e]
  refine fin_of _ (rung_fin ?_)
  have hn : nearR (av x + av y) ((vl FloatKind.f64.format (rr FloatKind.f64.format (mg x + mg y) 0) : Rat) / 2 ^ 1074) := by
    refine near_rr _ _ _ ?_
    have hW := W_pos
    unfold av
    push_cast
    rw [Rat.pow_zero]
    generalize (2 : Rat) ^ 1074 = W at *
    grind
  have hn := hn.2
  have a1 : epR ≤ 1 / 4 := by decide +kernel
  have a2 : etR ≤ 1 := by decide +kernel
  have a4 : (0 : Rat) ≤ (vl FloatKind.f64.format (rr FloatKind.f64.format (mg x + mg y) 0) : Rat) / 2 ^ 1074 := by
    rw [Rat.div_def]; exact Rat.mul_nonneg Rat.natCast_nonneg (Rat.le_of_lt (Rat.inv_pos.2 W_pos))
  have a3 : (2 : Rat) ^ 100 * 2 + 2 ≤ 2 ^ 1000 := by decide +kernel
  generalize (vl FloatKind.f64.format (rr FloatKind.f64.format (mg x + mg y) 0) : Rat) / 2 ^ 1074 = A at *
  have a5 := rmul a1 a4
  generalize av x + av y = q at *
  generalize (2 : Rat) ^ 100 = H at *
  generalize (2 : Rat) ^ 1000 = K at *
  grind

theorem mg_le {x : Nat} (h : finK .f64 x = true) : mg x ≤ 2 ^ 2098 := by
  have h : rgK .f64 x < infK .f64 := of_decide_eq_true h
  rw [← vl_inf]
  exact vl_le _ (Nat.le_of_lt h)
theorem av_le {x : Nat} (h : finK .f64 x = true) : av x ≤ 2 ^ 1024 := by
  have h1 := Rat.natCast_le_natCast.2 (mg_le h)
  have h3 : ((2 ^ 2098 : Nat) : Rat) = 2 ^ 1024 * 2 ^ 1074 := (pow2_cast 2098).trans (rp_add 1024 1074)
  rw [h3] at h1
  have hW := W_pos
  refine Rat.le_of_mul_le_mul_right (c := 2 ^ 1074) ?_ hW
  unfold av
  rw [Rat.div_mul_cancel (Rat.ne_of_gt hW)]
  exact h1
theorem av_ge {x : Nat} (h : mg x ≠ 0) : 1 / 2 ^ 1074 ≤ av x := by
  have h1 : ((1 : Nat) : Rat) ≤ (mg x : Rat) := Rat.natCast_le_natCast.2 (by omega)
  have hW := W_pos
  refine Rat.le_of_mul_le_mul_right (c := 2 ^ 1074) ?_ hW
  unfold av
  rw [Rat.div_mul_cancel (Rat.ne_of_gt hW), Rat.div_mul_cancel (Rat.ne_of_gt hW)]
  exact h1

/-- the root of a finite number above nought: finite, above nought, near -/
theorem root_fin {s n : Nat} (hs : finK .f64 s = true) (ns : ngK .f64 s = false) (h0 : mg s ≠ 0) (h : sqR s n) :
    finK .f64 n = true ∧ ngK .f64 n = false ∧ mg n ≠ 0 ∧ ∃ R : Rat, 0 < R ∧ R * R ≤ av s + epR * av s ∧ av s ≤ R * R + epR * av s ∧ nearR R (av n) := by
  obtain ⟨R, r, hR, r1, r2, e, hn⟩ := root_near hs ns h0
  have hsm := av_le hs
  have hsg := av_ge h0
  have hA0 : (0 : Rat) ≤ (vl FloatKind.f64.format r : Rat) / 2 ^ 1074 := by
    rw [Rat.div_def]; exact Rat.mul_nonneg Rat.natCast_nonneg (Rat.le_of_lt (Rat.inv_pos.2 W_pos))
  have a1 : epR ≤ 1 / 4 := by decide +kernel
  have a0 : 0 ≤ epR := by decide +kernel
  have a2 : etR ≤ 1 := by decide +kernel
  have hav := av_nn s
  have m1 := rmul a1 hav
  have hr : r < infK .f64 := by
    apply rung_fin
    -- R is at most 2 ^ 513
    have hRb : R ≤ 2 ^ 513 := by
      apply Decidable.byContradiction
      intro g
      have g : (2 : Rat) ^ 513 ≤ R := by grind
      have := sq_le (a := 2 ^ 513) (Rat.le_of_lt (Rat.pow_pos (by decide))) g
      have e1 : (2 : Rat) ^ 513 * 2 ^ 513 = 2 ^ 1024 * 4 := ((rp_add 513 513).symm.trans (rp_add 1024 2)).trans (by congr 1)
      have e2 : (0 : Rat) < 2 ^ 1024 := Rat.pow_pos (by decide)
      rw [e1] at this
      generalize (2 : Rat) ^ 1024 = K at *
      generalize (2 : Rat) ^ 513 = H at *
      grind
    have hn := hn.2
    have a5 := rmul a1 hA0
    have a3 : (2 : Rat) ^ 513 * 2 + 2 ≤ 2 ^ 1000 := by decide +kernel
    generalize (vl FloatKind.f64.format r : Rat) / 2 ^ 1074 = A at *
    generalize (2 : Rat) ^ 513 = H at *
    generalize (2 : Rat) ^ 1000 = K at *
    grind
  have en := sq_is h e
  have hav2 : av n = (vl FloatKind.f64.format r : Rat) / 2 ^ 1074 := by rw [en]; exact av_word _ _ hr
  refine ⟨by rw [en]; exact fin_of _ hr, by rw [en]; exact ngK_word .f64 _ _ (Nat.min_le_right _ _), ?_, R, hR, r1, r2, by rw [hav2]; exact hn⟩
  intro hz
  have hz2 : av n = 0 := by unfold av; rw [hz, Rat.div_def]; exact Rat.zero_mul _
  rw [← hav2, hz2] at hn
  have hn := hn.1
  -- R at most half a least place: too small
  have hRs : R ≤ etR := by grind
  have := sq_le (Rat.le_of_lt hR) hRs
  have e3 : etR * etR * 4 ≤ 1 / 2 ^ 1074 := by decide +kernel
  have e4 : (0 : Rat) < 1 / 2 ^ 1074 := by decide +kernel
  generalize (1 : Rat) / 2 ^ 1074 = U at *
  grind
end Go.Proofs.Ytbphmjfgpkjecab
namespace Go.Proofs.Ytbphmjfgpkjecab
open Ieee Go.RowKit
set_option linter.unusedSimpArgs false
set_option linter.unusedVariables false

theorem lt_zero (x : Nat) : ltK .f64 0 x = (!nanK .f64 x && !ngK .f64 x && decide (rgK .f64 x ≠ 0)) := by
  unfold ltK
  rw [nought_nan, nought_wo, woK_eq, Bool.eq_iff_iff]
  cases nanK .f64 x <;> cases ngK .f64 x <;> simp <;> omega
theorem zero_lt (x : Nat) : ltK .f64 x 0 = (!nanK .f64 x && ngK .f64 x && decide (rgK .f64 x ≠ 0)) := by
  unfold ltK
  rw [nought_nan, nought_wo, woK_eq, Bool.eq_iff_iff]
  cases nanK .f64 x <;> cases ngK .f64 x <;> simp <;> omega
theorem mg_zero {x : Nat} : mg x = 0 ↔ rgK .f64 x = 0 := by
  unfold mg
  constructor
  · intro h
    apply Decidable.byContradiction
    intro g
    have := vl_lt FloatKind.f64.format (Nat.pos_of_ne_zero g)
    omega
  · intro h; rw [h, vl_zero]
/-- at most the greatest float, of numbers not below nought -/
theorem le_most (x : Nat) (n : ngK .f64 x = false) (hn : nanK .f64 x = false) : leK .f64 x 9218868437227405311 = finK .f64 x := by
  have h1 : nanK .f64 9218868437227405311 = false := by decide +kernel
  have h2 : woK .f64 9218868437227405311 = 9218868437227405311 := by decide +kernel
  unfold leK finK
  rw [h1, h2, hn, woK_eq, n, inf64, Bool.eq_iff_iff]
  simp
  omega
theorem le_sm {a x y : Nat} (h : smK .f64 x y = true) : leK .f64 x a = leK .f64 y a := by
  rcases smK_cases h with rfl | ⟨h1, h2⟩
  · rfl
  · unfold leK; rw [h1, h2]; rfl

/-- where there is a way of the length 1, told by the square -/
theorem unit_ok {ax ay s x y : Nat} {b : Bool} (h : DotR ax ay ax ay s) (g : UnitR ax ay x y b) : b = (ltK .f64 0 s && leK .f64 s 9218868437227405311) := by
  obtain ⟨n, ⟨s', h1, h2⟩, g2, _⟩ := g
  have hs := h.sm h1
  rw [ltK_sm hs, le_sm hs, g2]
  clear g2 hs h
  rcases square_cases h1 with hn | hn
  · have : nanK .f64 n = true := by
      rcases h2.2 with e | ⟨_, e⟩
      · rw [sqrt_nan _ hn] at e; cases e
      · exact e
    rw [lt_zero, lt_zero, hn, this]; rfl
  · cases nn : nanK .f64 s'
    · rw [le_most s' hn nn]
      cases hf : finK .f64 s'
      · -- infinite
        have hi := fin_inf hf nn
        have e : FloatKind.f64.format.sqrt s' = some (FloatKind.f64.format.word false (infK .f64)) := by
          unfold Format.sqrt
          rw [read_inf _ (okF .f64) s' hi, show ng FloatKind.f64.format s' = false from hn]
          rfl
        rw [sq_is h2 e, inf_not_fin, Bool.and_false, Bool.and_false]
      · by_cases hz : mg s' = 0
        · -- nought
          obtain ⟨m, p, e, hv, _⟩ := read_num64 s' hf
          have hm : m = 0 := by
            rw [hz] at hv
            exact (Nat.mul_eq_zero.1 hv).resolve_right (Nat.ne_of_gt (Nat.two_pow_pos _))
          have e1 : FloatKind.f64.format.sqrt s' = some (FloatKind.f64.format.word false 0) := by
            unfold Format.sqrt
            rw [e, hn, hm]
            unfold Datum.root
            simp only [if_true, Option.map_some, Format.write]
            unfold Format.nearest
            simp
          rw [sq_is h2 e1, lt_zero s', lt_zero, rgK_word _ _ _ (Nat.zero_le _), mg_zero.1 hz]
          simp
        · obtain ⟨f1, f2, f3, _⟩ := root_fin hf hn hz h2
          rw [f1, lt_zero, lt_zero, fin_num f1, f2, nn, hn]
          have j1 : rgK .f64 n ≠ 0 := fun h => f3 (mg_zero.2 h)
          have j2 : rgK .f64 s' ≠ 0 := fun h => hz (mg_zero.2 h)
          rw [decide_eq_true j1, decide_eq_true j2]
    · have : nanK .f64 n = true := by
        rcases h2.2 with e | ⟨_, e⟩
        · rw [sqrt_nan _ nn] at e; cases e
        · exact e
      rw [lt_zero, lt_zero, nn, this]; rfl

/-- what lies behind a way of the length 1 -/
theorem unit_parts {ax ay x y : Nat} (g : UnitR ax ay x y true) : ∃ p q s n, resK .mul .f64 ax ax p ∧ resK .mul .f64 ay ay q ∧ resK .add .f64 p q s ∧ sqR s n ∧ resK .quo .f64 ax n x ∧ resK .quo .f64 ay n y ∧
    finK .f64 ax = true ∧ finK .f64 ay = true ∧ finK .f64 p = true ∧ finK .f64 q = true ∧ finK .f64 s = true ∧ ngK .f64 s = false ∧ mg s ≠ 0 ∧ finK .f64 n = true ∧ ngK .f64 n = false ∧ mg n ≠ 0 := by
  have hk := g
  obtain ⟨n, ⟨s, hd, h2⟩, g2, g3⟩ := g
  have hs := unit_ok hd hk
  simp only [if_true] at g3
  have g2 := g2.symm
  rw [Bool.and_eq_true] at g2
  have hs := hs.symm
  rw [Bool.and_eq_true] at hs
  have l1 := hs.1
  rw [lt_zero] at l1
  simp only [Bool.and_eq_true, Bool.not_eq_true', decide_eq_true_eq] at l1
  obtain ⟨⟨nn, ng⟩, rz⟩ := l1
  have hf : finK .f64 s = true := by rw [← le_most s ng nn]; exact hs.2
  have l2 := g2.1
  rw [lt_zero] at l2
  simp only [Bool.and_eq_true, Bool.not_eq_true', decide_eq_true_eq] at l2
  obtain ⟨p, q, k1, k2, k3⟩ := hd
  obtain ⟨fp, fq⟩ := add_fin k3 hf
  exact ⟨p, q, s, n, k1, k2, k3, h2, g3.1, g3.2, square_fin k1 fp, square_fin k2 fq, fp, fq, hf, ng, fun h => rz (mg_zero.1 h), g2.2, l2.1.2, fun h => l2.2 (mg_zero.1 h)⟩

/-- a part of the way of the length 1 points where the way's part points -/
theorem quo_sign {a n x : Nat} (ha : finK .f64 a = true) (hn : finK .f64 n = true) (nn : ngK .f64 n = false) (n0 : mg n ≠ 0) (h : resK .quo .f64 a n x) :
    (ltK .f64 0 x = true → leK .f64 a 0 = false) ∧ (ltK .f64 x 0 = true → leK .f64 0 a = false) := by
  obtain ⟨Q, r, _, _, _, e, _, hz⟩ := quo_near ha hn n0
  have ex := res_is h e
  rw [nn, Bool.xor_false] at ex
  have hg : ngK .f64 x = ngK .f64 a := by rw [ex]; exact ngK_word .f64 _ _ (Nat.min_le_right _ _)
  have hr : rgK .f64 x ≠ 0 → rgK .f64 a ≠ 0 := fun h1 h2 => h1 (by
    rw [ex, rgK_word .f64 _ _ (Nat.min_le_right _ _), hz (mg_zero.2 h2)]
    exact Nat.zero_min _)
  constructor
  · intro h1
    rw [lt_zero] at h1
    simp only [Bool.and_eq_true, Bool.not_eq_true', decide_eq_true_eq] at h1
    have := hr h1.2
    unfold leK
    rw [nought_wo, woK_eq, ← hg, h1.1.2]
    simp
    intro _ _
    omega
  · intro h1
    rw [zero_lt] at h1
    simp only [Bool.and_eq_true, Bool.not_eq_true', decide_eq_true_eq] at h1
    have := hr h1.2
    unfold leK
    rw [nought_wo, woK_eq, ← hg, h1.1.2]
    simp
    intro _ _
    omega
theorem unit_sign {ax ay x y : Nat} (g : UnitR ax ay x y true) :
    (ltK .f64 0 x = true → leK .f64 ax 0 = false) ∧ (ltK .f64 x 0 = true → leK .f64 0 ax = false) ∧ (ltK .f64 0 y = true → leK .f64 ay 0 = false) ∧ (ltK .f64 y 0 = true → leK .f64 0 ay = false) := by
  obtain ⟨p, q, s, n, _, _, _, _, k5, k6, fx, fy, _, _, _, _, _, fn, nn, n0⟩ := unit_parts g
  exact ⟨(quo_sign fx fn nn n0 k5).1, (quo_sign fx fn nn n0 k5).2, (quo_sign fy fn nn n0 k6).1, (quo_sign fy fn nn n0 k6).2⟩
end Go.Proofs.Ytbphmjfgpkjecab
namespace Go.Proofs.Ytbphmjfgpkjecab
open Ieee Go.RowKit
set_option linter.unusedSimpArgs false
set_option linter.unusedVariables false

theorem rlt_le {a b c : Rat} (h : a < b) (g : b ≤ c) : a < c := by grind
theorem av_le_mg {a b : Nat} (h : av a ≤ av b) : mg a ≤ mg b := by
  have hW := W_pos
  have h := Rat.mul_le_mul_of_nonneg_right h (Rat.le_of_lt hW)
  unfold av at h
  rw [Rat.div_mul_cancel (Rat.ne_of_gt hW), Rat.div_mul_cancel (Rat.ne_of_gt hW)] at h
  exact Rat.natCast_le_natCast.1 h
theorem mg_le_av {a b : Nat} (h : mg a ≤ mg b) : av a ≤ av b := by
  have hW := W_pos
  refine Rat.le_of_mul_le_mul_right (c := 2 ^ 1074) ?_ hW
  unfold av
  rw [Rat.div_mul_cancel (Rat.ne_of_gt hW), Rat.div_mul_cancel (Rat.ne_of_gt hW)]
  exact Rat.natCast_le_natCast.2 h
theorem mg_rg {a b : Nat} : mg a ≤ mg b ↔ rgK .f64 a ≤ rgK .f64 b := by
  unfold mg
  constructor
  · intro h
    apply Decidable.byContradiction
    intro g
    have := vl_lt FloatKind.f64.format (Nat.lt_of_not_le g)
    omega
  · exact fun h => vl_le _ h
theorem le_of_av {a b : Nat} (na : ngK .f64 a = false) (nb : ngK .f64 b = false) (fa : finK .f64 a = true) (fb : finK .f64 b = true) (h : av a ≤ av b) : leK .f64 a b = true := by
  have h := mg_rg.1 (av_le_mg h)
  unfold leK
  rw [fin_num fa, fin_num fb, woK_eq, woK_eq, na, nb]
  simp only [Bool.false_eq_true, if_false, Bool.not_false, Bool.and_true, Bool.true_and]
  exact decide_eq_true (Int.ofNat_le.2 h)
theorem av_of_lt {a b : Nat} (na : ngK .f64 a = false) (nb : ngK .f64 b = false) (fa : finK .f64 a = true) (fb : finK .f64 b = true) (h : ltK .f64 a b = false) : av b ≤ av a := by
  unfold ltK at h
  rw [fin_num fa, fin_num fb, woK_eq, woK_eq, na, nb] at h
  simp only [Bool.false_eq_true, if_false, Bool.not_false, Bool.and_true, Bool.true_and] at h
  have h := of_decide_eq_false h
  exact mg_le_av (mg_rg.2 (by omega))

theorem part_small {e h X Y P Q S R N Qx : Rat} (he : 0 ≤ e) (he1 : e * 1024 ≤ 1) (h0 : 0 ≤ h) (hX : 0 ≤ X) (hY : 0 ≤ Y) (hS : 0 < S) (hR : 0 ≤ R) (hN : 0 < N) (hQx : 0 ≤ Qx)
    (hh1 : h ≤ e * e * S) (hh2 : h ≤ e * e * R) (a1 : nr e h (X * X) P) (a2 : nr e h (Y * Y) Q) (a3 : nr e h (P + Q) S)
    (b1 : R * R ≤ S + e * S) (b2 : S ≤ R * R + e * S) (b3 : nr e h R N) : X ≤ 2 * N ∧ Y ≤ 2 * N := by
  have hS' := Rat.le_of_lt hS
  have hN' := Rat.le_of_lt hN
  obtain ⟨t1, t2⟩ := sum_up (T := 0) he (by grind) hS' hh1 h0 a1 a2 a3
  obtain ⟨n1, n2⟩ := len_up he (by grind) hR hN' hh2 b3
  obtain ⟨s1, s2⟩ := len_sq he (by grind) hR hN' hS' b1 b2 n1 n2
  have z1 : e * S * 1024 ≤ S := by have := rmul he1 hS'; grind
  have hXX := rsq X
  have hYY := rsq Y
  have hNN : 0 < N * N := Rat.mul_pos hN hN
  constructor
  · apply Decidable.byContradiction
    intro g
    have g : 2 * N ≤ X := by grind
    have := sq_le (Rat.mul_nonneg (by decide) hN') g
    grind
  · apply Decidable.byContradiction
    intro g
    have g : 2 * N ≤ Y := by grind
    have := sq_le (Rat.mul_nonneg (by decide) hN') g
    grind

/-- one part: it is finite, at most 5, near -/
theorem part_near {a n x : Nat} (fa : finK .f64 a = true) (fn : finK .f64 n = true) (n0 : mg n ≠ 0) (h : resK .quo .f64 a n x) (hb : av a ≤ 2 * av n) :
    finK .f64 x = true ∧ av x ≤ 5 ∧ ∃ Q : Rat, 0 ≤ Q ∧ Q * av n ≤ av a + epR * av a ∧ av a ≤ Q * av n + epR * av a ∧ nearR Q (av x) := by
  obtain ⟨Q, r, q0, q1, q2, e, hn, _⟩ := quo_near fa fn n0
  have ex := res_is h e
  have a1 : epR ≤ 1 / 4 := by decide +kernel
  have a0 : 0 ≤ epR := by decide +kernel
  have a2 : etR ≤ 1 / 4 := by decide +kernel
  have hN : 0 < av n := rlt_le (by decide +kernel) (av_ge n0)
  have hA0 : (0 : Rat) ≤ (vl FloatKind.f64.format r : Rat) / 2 ^ 1074 := by
    rw [Rat.div_def]; exact Rat.mul_nonneg Rat.natCast_nonneg (Rat.le_of_lt (Rat.inv_pos.2 W_pos))
  have hQ : Q ≤ 5 / 2 := by
    refine Rat.le_of_mul_le_mul_right (c := av n) ?_ hN
    have m1 := rmul a1 (av_nn a)
    generalize av n = N at *
    generalize av a = X at *
    grind
  have hA5 : (vl FloatKind.f64.format r : Rat) / 2 ^ 1074 ≤ 5 := by
    have hn := hn.2
    have m1 := rmul a1 hA0
    generalize (vl FloatKind.f64.format r : Rat) / 2 ^ 1074 = A at *
    grind
  have hr : r < infK .f64 := rung_fin (Rat.le_trans hA5 (by decide +kernel))
  have hav : av x = (vl FloatKind.f64.format r : Rat) / 2 ^ 1074 := by rw [ex]; exact av_word _ _ hr
  exact ⟨by rw [ex]; exact fin_of _ hr, by rw [hav]; exact hA5, Q, q0, q1, q2, by rw [hav]; exact hn⟩

/-- **a way of the length 1 is nearly so long** -/
theorem unit_long {ax ay x y s L : Nat} (g : UnitR ax ay x y true) (hd : DotR ax ay ax ay s) (h9 : ltK .f64 s 553942754166571008 = false) (hl : DotR x y x y L) :
    leK .f64 4607182418800017376 L = true ∧ leK .f64 L 4607182418800017424 = true := by
  obtain ⟨p, q, s', n, k1, k2, k3, k4, k5, k6, fx, fy, fp, fq, fs, ns, s0, fn, nn, n0⟩ := unit_parts g
  have hs : s = s' := by
    rcases smK_cases (hd.sm ⟨p, q, k1, k2, k3⟩) with h | ⟨_, h⟩
    · exact h
    · rw [fin_num fs] at h; cases h
  subst hs
  have S9 := av_of_lt ns (by decide +kernel) fs (by decide +kernel) h9
  have e0 : 0 < epR := by decide +kernel
  have e1 : epR * 1024 ≤ 1 := by decide +kernel
  have h0 : 0 ≤ etR := by decide +kernel
  have h1 : etR * 1024 ≤ epR := by decide +kernel
  have c9 : (1 : Rat) / 2 ^ 900 ≤ av 553942754166571008 := by decide +kernel
  have S9 := Rat.le_trans c9 S9
  have hS : 0 < av s := rlt_le (by decide +kernel) S9
  have hh1 : etR ≤ epR * epR * av s := by
    have k : etR ≤ epR * epR * (1 / 2 ^ 900) := by decide +kernel
    exact Rat.le_trans k (rmul S9 (Rat.mul_nonneg (Rat.le_of_lt e0) (Rat.le_of_lt e0)))
  obtain ⟨a1, sp⟩ := mul_near fx fx k1 fp
  obtain ⟨a2, sq⟩ := mul_near fy fy k2 fq
  rw [Bool.xor_self] at sp sq
  obtain ⟨a3, _⟩ := add_near fp fq sp sq k3 fs
  obtain ⟨_, _, _, R, hR, b1, b2, b3⟩ := root_fin fs ns s0 k4
  have hh2 : etR ≤ epR * epR * R := by
    apply Decidable.byContradiction
    intro c
    have hRs : R ≤ 1 / 2 ^ 900 := by
      have k : etR ≤ epR * epR * (1 / 2 ^ 900) := by decide +kernel
      apply Decidable.byContradiction
      intro d
      have d : (1 : Rat) / 2 ^ 900 ≤ R := by grind
      exact c (Rat.le_trans k (rmul d (Rat.mul_nonneg (Rat.le_of_lt e0) (Rat.le_of_lt e0))))
    have h2 := sq_le (Rat.le_of_lt hR) hRs
    have h3 : (1 : Rat) / 2 ^ 900 * (1 / 2 ^ 900) * 4 ≤ 1 / 2 ^ 900 := by decide +kernel
    have h4 := rmul (show epR ≤ 1 / 4 by decide +kernel) (Rat.le_of_lt hS)
    have h5 : (0 : Rat) < 1 / 2 ^ 900 := by decide +kernel
    generalize (1 : Rat) / 2 ^ 900 = U at *
    generalize av s = S at *
    generalize epR = e at *
    grind
  have hN : 0 < av n := rlt_le (by decide +kernel) (av_ge n0)
  obtain ⟨x2, y2⟩ := part_small (Rat.le_of_lt e0) e1 h0 (av_nn ax) (av_nn ay) hS (Rat.le_of_lt hR) hN (Qx := 0) (by decide) hh1 hh2 a1 a2 a3 b1 b2 b3
  obtain ⟨ux, x5, Qx, qx0, c1, c2, c3⟩ := part_near fx fn n0 k5 x2
  obtain ⟨uy, y5, Qy, qy0, d1, d2, d3⟩ := part_near fy fn n0 k6 y2
  obtain ⟨p', q', l1, l2, l3⟩ := hl
  have xx : av x * av x ≤ 25 := by have := sq_le (av_nn x) x5; grind
  have yy : av y * av y ≤ 25 := by have := sq_le (av_nn y) y5; grind
  have b25 : (25 : Rat) ≤ 2 ^ 100 := by decide +kernel
  have fp' := mul_small ux ux l1 (Rat.le_trans xx b25)
  have fq' := mul_small uy uy l2 (Rat.le_trans yy b25)
  obtain ⟨f1, sp'⟩ := mul_near ux ux l1 fp'
  obtain ⟨f2, sq'⟩ := mul_near uy uy l2 fq'
  rw [Bool.xor_self] at sp' sq'
  have hsum : av p' + av q' ≤ 2 ^ 100 := by
    have m0 : (120 : Rat) ≤ 2 ^ 100 := by decide +kernel
    have m1 := rmul (show epR ≤ 1 / 4 by decide +kernel) (av_nn p')
    have m2 := rmul (show epR ≤ 1 / 4 by decide +kernel) (av_nn q')
    have m3 : etR ≤ 1 := by decide +kernel
    have g1 := f1.2
    have g2 := f2.2
    generalize av p' = P at *
    generalize av q' = Q at *
    generalize av x * av x = XX at *
    generalize av y * av y = YY at *
    generalize (2 : Rat) ^ 100 = K at *
    grind
  have fL := add_small fp' fq' sp' sq' l3 hsum
  obtain ⟨f3, nL⟩ := add_near fp' fq' sp' sq' l3 fL
  obtain ⟨z1, z2⟩ := long_rat e0 e1 h0 h1 (av_nn ax) (av_nn ay) hS (Rat.le_of_lt hR) (Rat.le_of_lt hN) qx0 qy0 (av_nn x) (av_nn y) (av_nn L) hh1 hh2 a1 a2 a3 b1 b2 b3 c1 c2 c3 d1 d2 d3 f1 f2 f3
  constructor
  · refine le_of_av (by decide +kernel) nL (by decide +kernel) fL ?_
    have e3 : av 4607182418800017376 = 1 - 32 * epR := by decide +kernel
    rw [e3]
    grind
  · refine le_of_av nL (by decide +kernel) fL (by decide +kernel) ?_
    have e3 : av 4607182418800017424 = 1 + 32 * epR := by decide +kernel
    rw [e3]
    exact z2

theorem unit_zero {ax ay x y : Nat} (g : UnitR ax ay x y false) : x = 0 ∧ y = 0 := by
  obtain ⟨n, _, _, h⟩ := g
  simpa using h
theorem sign_three {a x : Nat} (h : (ltK .f64 0 x = true → leK .f64 a 0 = false) ∧ (ltK .f64 x 0 = true → leK .f64 0 a = false)) :
    (ltK .f64 0 x = true ∧ ltK .f64 x 0 = false ∧ leK .f64 a 0 = false) ∨ (ltK .f64 0 x = false ∧ ltK .f64 x 0 = true ∧ leK .f64 0 a = false) ∨ (ltK .f64 0 x = false ∧ ltK .f64 x 0 = false) := by
  have e1 := lt_zero x
  have e2 := zero_lt x
  cases h1 : ltK .f64 0 x
  · cases h2 : ltK .f64 x 0
    · exact .inr (.inr ⟨rfl, rfl⟩)
    · exact .inr (.inl ⟨rfl, rfl, h.2 h2⟩)
  · refine .inl ⟨rfl, ?_, h.1 h1⟩
    rw [h1] at e1
    rw [e2]
    cases hg : ngK .f64 x
    · simp
    · rw [hg] at e1; simp at e1
end Go.Proofs.Ytbphmjfgpkjecab
