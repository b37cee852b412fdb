/-
  Plain facts on floats, more: rounding to the nearest rung, sums and products of finite floats, signs turned. No program is named here.
-/
import Derived.Test.YtfohggiehbplkaaFlt
namespace Go.Proofs.Ytfohggiehbplkaa
open Ieee Go.RowKit
set_option linter.unusedSimpArgs false
set_option linter.unusedVariables false

theorem cut_neg (s : Bool) (n d : Nat) : Toward.even.cut s n d = Toward.even.cut false n d := rfl

theorem cut_spec (n d : Nat) : 2 * Toward.even.cut false n d * 2 ^ d ≤ 2 * n + 2 ^ d ∧ 2 * n ≤ 2 * Toward.even.cut false n d * 2 ^ d + 2 ^ d ∧
    (Toward.even.cut false n d % 2 = 1 → 2 * Toward.even.cut false n d * 2 ^ d < 2 * n + 2 ^ d ∧ 2 * n < 2 * Toward.even.cut false n d * 2 ^ d + 2 ^ d) := by
  unfold Toward.cut
  simp only [Nat.one_shiftLeft]
  by_cases hd : d ≤ n.log2 + 2
  · rw [Nat.min_eq_left hd]
    have hp := Nat.two_pow_pos d
    have h1 := Nat.div_add_mod n (2 ^ d)
    have h2 := Nat.mod_lt n hp
    generalize n / 2 ^ d = low at *
    generalize n % 2 ^ d = rest at *
    generalize 2 ^ d = G at *
    by_cases c1 : G < 2 * rest
    · have e : (decide (G < 2 * rest) || (G == 2 * rest && low % 2 == 1)).toNat = 1 := by simp [c1]
      rw [e]
      have e2 : 2 * (low + 1) * G = 2 * (G * low) + 2 * G := by rw [Nat.mul_comm G low, Nat.mul_assoc, Nat.add_mul]; omega
      rw [e2]; omega
    · by_cases c2 : G = 2 * rest
      · by_cases c3 : low % 2 = 1
        · have e : (decide (G < 2 * rest) || (G == 2 * rest && low % 2 == 1)).toNat = 1 := by simp [c2, c3]
          rw [e]
          have e2 : 2 * (low + 1) * G = 2 * (G * low) + 2 * G := by rw [Nat.mul_comm G low, Nat.mul_assoc, Nat.add_mul]; omega
          rw [e2]; omega
        · have e : (decide (G < 2 * rest) || (G == 2 * rest && low % 2 == 1)).toNat = 0 := by simp [c1, c3]
          rw [e]
          have e2 : 2 * (low + 0) * G = 2 * (G * low) := by rw [Nat.mul_comm G low, Nat.mul_assoc]; rfl
          rw [e2]; omega
      · have e : (decide (G < 2 * rest) || (G == 2 * rest && low % 2 == 1)).toNat = 0 := by
          have : (G == 2 * rest) = false := by simpa using c2
          simp [c1, this]
        rw [e]
        have e2 : 2 * (low + 0) * G = 2 * (G * low) := by rw [Nat.mul_comm G low, Nat.mul_assoc]; rfl
        rw [e2]; omega
  · rw [Nat.min_eq_right (by omega)]
    have hl := lt_log2 n
    have h3 : 2 ^ (n.log2 + 2) ≤ 2 ^ d := Nat.pow_le_pow_right (by omega) (by omega)
    have h4 : 2 ^ (n.log2 + 2) = 2 * 2 ^ (n.log2 + 1) := by rw [Nat.pow_succ]; omega
    have hlt : n < 2 ^ (n.log2 + 2) := by omega
    rw [Nat.div_eq_of_lt hlt, Nat.mod_eq_of_lt hlt]
    have e : (decide (2 ^ (n.log2 + 2) < 2 * n) || (2 ^ (n.log2 + 2) == 2 * n && 0 % 2 == 1)).toNat = 0 := by
      have : ¬ 2 ^ (n.log2 + 2) < 2 * n := by omega
      simp [this]
    rw [e]
    omega

/-- the rung nearest to m / 2 ^ t least places, infinity left out of account -/
def rr (f : Format) (m t : Nat) : Nat := (m.log2 - (t + f.fractionBits)) * f.binade + Toward.even.cut false m (t + (m.log2 - (t + f.fractionBits)))

theorem rr_zero (f : Format) (t : Nat) : rr f 0 t = 0 := by
  unfold rr Toward.cut
  simp

theorem nearest_rr (f : Format) (s : Bool) (m t : Nat) : f.nearest s m (f.leastPlace - (t : Nat)) = f.word s (min (rr f m t) f.infRung) := by
  by_cases hm : m = 0
  · subst hm; rw [rr_zero]; unfold Format.nearest; simp
  · unfold Format.nearest
    rw [if_neg hm]
    simp only []
    have hlast : max (f.leastPlace - (t : Int) + (m.log2 : Int) - (f.fractionBits : Int)) f.leastPlace = f.leastPlace + ((m.log2 - (t + f.fractionBits) : Nat) : Int) := by omega
    rw [hlast]
    generalize he : m.log2 - (t + f.fractionBits) = e
    have e0 : (f.leastPlace - (t : Int) - (f.leastPlace + (e : Int))).toNat = 0 := by omega
    have e1 : (f.leastPlace + (e : Int) - (f.leastPlace - (t : Int))).toNat = t + e := by omega
    have e2 : (f.leastPlace + (e : Int) - f.leastPlace).toNat = e := by omega
    rw [e0, e1, e2, Nat.shiftLeft_zero, cut_neg]
    unfold rr
    rw [he]

/-- to write a number in units of one place or of another: the same -/
theorem nearest_shift (f : Format) (s : Bool) (m q : Nat) (p : Int) : f.nearest s m (p + (q : Nat)) = f.nearest s (m * 2 ^ q) p := by
  by_cases hm : m = 0
  · subst hm; unfold Format.nearest; simp
  · have hm' : m * 2 ^ q ≠ 0 := Nat.mul_ne_zero hm (Nat.ne_of_gt (Nat.two_pow_pos _))
    unfold Format.nearest
    rw [if_neg hm, if_neg hm']
    simp only []
    rw [log2_mul_pow m q hm]
    have hlast : max (p + ((m.log2 + q : Nat) : Int) - (f.fractionBits : Int)) f.leastPlace = max (p + (q : Int) + (m.log2 : Int) - (f.fractionBits : Int)) f.leastPlace := by omega
    rw [hlast]
    generalize max (p + (q : Int) + (m.log2 : Int) - (f.fractionBits : Int)) f.leastPlace = last
    congr 1
    congr 1
    congr 1
    by_cases h1 : last ≤ p
    · have e2 : (p + (q : Int) - last).toNat = q + (p - last).toNat := by omega
      have e3 : (last - (p + (q : Int))).toNat = 0 := by omega
      have e4 : (last - p).toNat = 0 := by omega
      rw [e2, e3, e4, cut_none, cut_none, Nat.shiftLeft_eq, Nat.shiftLeft_eq, Nat.pow_add, Nat.mul_assoc]
    · by_cases h2 : last ≤ p + (q : Int)
      · have e3 : (last - (p + (q : Int))).toNat = 0 := by omega
        have e4 : (p - last).toNat = 0 := by omega
        rw [e3, e4, cut_none, Nat.shiftLeft_zero, Nat.shiftLeft_eq]
        have e5 : m * 2 ^ q = m * 2 ^ (p + (q : Int) - last).toNat * 2 ^ (last - p).toNat := by rw [Nat.mul_assoc, ← Nat.pow_add]; congr 2; omega
        rw [e5, cut_exact]
      · have e2 : (p + (q : Int) - last).toNat = 0 := by omega
        have e4 : (p - last).toNat = 0 := by omega
        have e5 : (last - p).toNat = (last - (p + (q : Int))).toNat + q := by omega
        rw [e2, e4, e5, Nat.shiftLeft_zero, Nat.shiftLeft_zero, cut_scale _ _ _ _ hm]

/-- numbers of rungs, up to the next binade's first -/
theorem vl_mk2 (f : Format) (e K : Nat) (h1 : K ≤ 2 * f.binade) (h2 : 0 < e → f.binade ≤ K) : vl f (e * f.binade + K) = K * 2 ^ e := by
  by_cases h : K < 2 * f.binade
  · exact vl_mk f e K h h2
  · have hB := binade_pos f
    have hK : K = 2 * f.binade := by omega
    subst hK
    have e1 : e * f.binade + 2 * f.binade = (e + 1) * f.binade + f.binade := by rw [Nat.add_mul]; omega
    rw [e1, vl_mk f (e + 1) f.binade (by omega) (fun _ => Nat.le_refl _), Nat.pow_succ]
    rw [Nat.mul_comm 2 f.binade, Nat.mul_assoc, Nat.mul_comm 2 (2 ^ e)]

theorem rr_arith (V : Nat → Nat) (B X Y e c m : Nat) (hB : 0 < B) (hB2 : B % 2 = 0) (hX : 0 < X) (hY : 0 < Y)
    (hV : ∀ K, K ≤ 2 * B → (0 < e → B ≤ K) → V (e * B + K) = K * Y) (hM : ∀ r, V r < V (r + 1))
    (s1 : 2 * c * (X * Y) ≤ 2 * m + X * Y) (s2 : 2 * m ≤ 2 * c * (X * Y) + X * Y) (s3 : c % 2 = 1 → 2 * c * (X * Y) < 2 * m + X * Y ∧ 2 * m < 2 * c * (X * Y) + X * Y)
    (hup : m < 2 * B * Y * X) (hdn : 0 < e → B * Y * X ≤ m) :
    (e * B + c = 0 ∨ (V (e * B + c - 1) + V (e * B + c)) * X ≤ 2 * m) ∧ 2 * m ≤ (V (e * B + c) + V (e * B + c + 1)) * X ∧
    ((e * B + c) % 2 = 1 → (V (e * B + c - 1) + V (e * B + c)) * X < 2 * m ∧ 2 * m < (V (e * B + c) + V (e * B + c + 1)) * X) := by
  have hXYp : 0 < X * Y := Nat.mul_pos hX hY
  have c2 : c ≤ 2 * B := by
    apply Decidable.byContradiction
    intro h
    have h1 : 2 * (2 * B + 1) * (X * Y) ≤ 2 * c * (X * Y) := Nat.mul_le_mul_right _ (by omega)
    have h2 : 2 * (2 * B + 1) * (X * Y) = 2 * (2 * B * Y * X) + 2 * (X * Y) := by grind
    omega
  have c1 : 0 < e → B ≤ c := by
    intro h
    apply Decidable.byContradiction
    intro g
    have h0 := hdn h
    have h1 : 2 * c * (X * Y) ≤ 2 * (B - 1) * (X * Y) := Nat.mul_le_mul_right _ (by omega)
    have h2 : 2 * (B - 1) * (X * Y) + 2 * (X * Y) = 2 * (B * Y * X) := by
      obtain ⟨b, rfl⟩ : ∃ b, B = b + 1 := ⟨B - 1, by omega⟩
      simp only [Nat.add_sub_cancel]
      grind
    omega
  have hpar : (e * B + c) % 2 = c % 2 := by
    rw [Nat.add_mod, Nat.mul_mod, hB2]; simp
  have v0 := hV c c2 c1
  -- upper
  have hU : 2 * m ≤ (V (e * B + c) + V (e * B + c + 1)) * X ∧ (c % 2 = 1 → 2 * m < (V (e * B + c) + V (e * B + c + 1)) * X) := by
    by_cases h : c < 2 * B
    · have v1 := hV (c + 1) (by omega) (fun h => by have := c1 h; omega)
      rw [← Nat.add_assoc] at v1
      rw [v0, v1]
      have e1 : (c * Y + (c + 1) * Y) * X = 2 * c * (X * Y) + X * Y := by grind
      rw [e1]
      exact ⟨s2, fun h => (s3 h).2⟩
    · have hc : c = 2 * B := by omega
      have h1 := hM (e * B + c)
      have h2 : (V (e * B + c) + V (e * B + c)) * X < (V (e * B + c) + V (e * B + c + 1)) * X := Nat.mul_lt_mul_of_pos_right (by omega) hX
      have h3 : (V (e * B + c) + V (e * B + c)) * X = 2 * (2 * B * Y * X) := by rw [v0, hc]; grind
      omega
  have hL : (e * B + c = 0 ∨ (V (e * B + c - 1) + V (e * B + c)) * X ≤ 2 * m) ∧ (c % 2 = 1 → (V (e * B + c - 1) + V (e * B + c)) * X < 2 * m) := by
    by_cases hz : c = 0
    · have he : e = 0 := by
        apply Decidable.byContradiction
        intro h
        have := c1 (by omega)
        omega
      subst hz; subst he
      exact ⟨.inl (by simp), by simp⟩
    · by_cases h : 0 < e ∧ c = B
      · have h0 := hdn h.1
        obtain ⟨r, hr⟩ : ∃ r, e * B + c = r + 1 := ⟨e * B + c - 1, by omega⟩
        have h1 := hM r
        have h2 : (V r + V (r + 1)) * X < (V (r + 1) + V (r + 1)) * X := Nat.mul_lt_mul_of_pos_right (by omega) hX
        have h3 : (V (r + 1) + V (r + 1)) * X = 2 * (B * Y * X) := by rw [← hr, v0, h.2]; grind
        rw [hr, Nat.add_sub_cancel]
        exact ⟨.inr (by omega), fun _ => by omega⟩
      · obtain ⟨b, rfl⟩ : ∃ b, c = b + 1 := ⟨c - 1, by omega⟩
        have v1 := hV b (by omega) (fun h' => by have := c1 h'; omega)
        have e0 : e * B + (b + 1) - 1 = e * B + b := by omega
        rw [e0, v0, v1]
        have e1 : (b * Y + (b + 1) * Y) * X + X * Y = 2 * (b + 1) * (X * Y) := by grind
        exact ⟨.inr (by omega), fun h => by have := (s3 h).1; omega⟩
  exact ⟨hL.1, hU.1, fun h => by rw [hpar] at h; exact ⟨hL.2 h, hU.2 h⟩⟩

theorem rr_spec (f : Format) (hf : 1 ≤ f.fractionBits) (m t : Nat) :
    (rr f m t = 0 ∨ (vl f (rr f m t - 1) + vl f (rr f m t)) * 2 ^ t ≤ 2 * m) ∧ 2 * m ≤ (vl f (rr f m t) + vl f (rr f m t + 1)) * 2 ^ t ∧
    (rr f m t % 2 = 1 → (vl f (rr f m t - 1) + vl f (rr f m t)) * 2 ^ t < 2 * m ∧ 2 * m < (vl f (rr f m t) + vl f (rr f m t + 1)) * 2 ^ t) := by
  by_cases hm : m = 0
  · subst hm
    rw [rr_zero]
    refine ⟨.inl rfl, by simp, by simp⟩
  have hB := binade_pos f
  obtain ⟨s1, s2, s3⟩ := cut_spec m (t + (m.log2 - (t + f.fractionBits)))
  have hlo := log2_le m hm
  have hhi := lt_log2 m
  unfold rr
  generalize hc : Toward.even.cut false m (t + (m.log2 - (t + f.fractionBits))) = c at *
  have hBB : f.binade = 2 ^ f.fractionBits := rfl
  have hB2 : f.binade % 2 = 0 := by
    obtain ⟨k, hk⟩ : ∃ k, f.fractionBits = k + 1 := ⟨f.fractionBits - 1, by omega⟩
    rw [hBB, hk, Nat.pow_succ]; omega
  generalize he : m.log2 - (t + f.fractionBits) = e at *
  rw [show 2 ^ (t + e) = 2 ^ t * 2 ^ e from Nat.pow_add _ _ _] at s1 s2 s3
  refine rr_arith (vl f) f.binade (2 ^ t) (2 ^ e) e c m hB hB2 (Nat.two_pow_pos t) (Nat.two_pow_pos e) (fun K h1 h2 => vl_mk2 f e K h1 h2) (vl_succ f) s1 s2 s3 ?_ ?_
  · have : m.log2 + 1 ≤ 1 + f.fractionBits + e + t := by omega
    have h := Nat.lt_of_lt_of_le hhi (Nat.pow_le_pow_right (by omega) this)
    rw [Nat.pow_add, Nat.pow_add, Nat.pow_add] at h
    rw [hBB]; exact h
  · intro h
    have : m.log2 = f.fractionBits + e + t := by omega
    rw [this, Nat.pow_add, Nat.pow_add] at hlo
    rw [hBB]; exact hlo

theorem vl_le (f : Format) {r s : Nat} (h : r ≤ s) : vl f r ≤ vl f s := by
  rcases Nat.lt_or_eq_of_le h with h | h
  · exact Nat.le_of_lt (vl_lt f h)
  · rw [h]; exact Nat.le_refl _

theorem rr_exact (f : Format) (hf : 1 ≤ f.fractionBits) (r t : Nat) : rr f (vl f r * 2 ^ t) t = r := by
  obtain ⟨a1, a2, _⟩ := rr_spec f hf (vl f r * 2 ^ t) t
  generalize rr f (vl f r * 2 ^ t) t = s at *
  have hX := Nat.two_pow_pos t
  apply Decidable.byContradiction
  intro g
  rcases Nat.lt_or_gt_of_ne g with g | g
  · have h1 := vl_lt f g
    have h2 : vl f (s + 1) ≤ vl f r := vl_le f (by omega)
    have h3 : (vl f s + vl f (s + 1)) * 2 ^ t < (vl f r + vl f r) * 2 ^ t := Nat.mul_lt_mul_of_pos_right (by omega) hX
    have h4 : (vl f r + vl f r) * 2 ^ t = 2 * (vl f r * 2 ^ t) := by grind
    omega
  · have a1 := a1.resolve_left (by omega)
    have h1 := vl_lt f g
    have h2 : vl f r ≤ vl f (s - 1) := vl_le f (by omega)
    have h3 : (vl f r + vl f r) * 2 ^ t < (vl f (s - 1) + vl f s) * 2 ^ t := Nat.mul_lt_mul_of_pos_right (by omega) hX
    have h4 : (vl f r + vl f r) * 2 ^ t = 2 * (vl f r * 2 ^ t) := by grind
    omega
end Go.Proofs.Ytfohggiehbplkaa
namespace Go.Proofs.Ytfohggiehbplkaa
open Ieee Go.RowKit
set_option linter.unusedSimpArgs false
set_option linter.unusedVariables false

def svK (k : FloatKind) (x : Nat) : Int := if ngK k x then -(vl k.format (rgK k x) : Int) else (vl k.format (rgK k x) : Int)

theorem least64 : FloatKind.f64.format.leastPlace = -1074 := by decide +kernel

theorem read_neg (k : FloatKind) (x : Nat) (h : okK k x) : k.format.read (Op.negFloat k x) = (k.format.read x).opposite := by
  obtain ⟨h1, h2, _⟩ := neg_facts k x h
  have h1 : Op.negFloat k x % k.format.signWeight = x % k.format.signWeight := h1
  have h2 : (Op.negFloat k x / k.format.signWeight % 2 == 1) = !(x / k.format.signWeight % 2 == 1) := h2
  unfold Format.read
  simp only []
  rw [h1, h2]
  split
  · rfl
  · split
    · rfl
    · split <;> rfl

theorem sub_is_add (k : FloatKind) (x y : Nat) (hy : okK k y) : floatBits .sub k x y = floatBits .add k x (Op.negFloat k y) := by
  show k.format.sub _ _ = k.format.add _ _
  unfold Format.sub Format.add
  rw [read_neg k y hy]

theorem mul_spec (x y : Nat) (hx : finK .f64 x = true) (hy : finK .f64 y = true) :
    floatBits .mul .f64 x y = some (FloatKind.f64.format.word (ngK .f64 x ^^ ngK .f64 y) (min (rr FloatKind.f64.format (vl FloatKind.f64.format (rgK .f64 x) * vl FloatKind.f64.format (rgK .f64 y)) 1074) (infK .f64))) := by
  have hx : rgK .f64 x < infK .f64 := of_decide_eq_true hx
  have hy : rgK .f64 y < infK .f64 := of_decide_eq_true hy
  obtain ⟨m, p, e, hv⟩ := read_num FloatKind.f64.format x hx
  obtain ⟨n, q, e', hv'⟩ := read_num FloatKind.f64.format y hy
  show FloatKind.f64.format.mul _ _ = _
  unfold Format.mul
  rw [e, e']
  simp only [Datum.product, Option.map_some, Format.write]
  congr 1
  have e1 : FloatKind.f64.format.leastPlace + (p : Int) + (FloatKind.f64.format.leastPlace + (q : Int)) = FloatKind.f64.format.leastPlace - ((1074 : Nat) : Int) + ((p + q : Nat) : Int) := by rw [least64]; omega
  rw [e1, nearest_shift, nearest_rr]
  have e2 : m * n * 2 ^ (p + q) = vl FloatKind.f64.format (rgK .f64 x) * vl FloatKind.f64.format (rgK .f64 y) := by
    show _ = vl FloatKind.f64.format (rg FloatKind.f64.format x) * vl FloatKind.f64.format (rg FloatKind.f64.format y)
    rw [← hv, ← hv', Nat.pow_add]; grind
  rw [e2]
  rfl

theorem add_spec (k : FloatKind) (x y : Nat) (hx : finK k x = true) (hy : finK k y = true) :
    floatBits .add k x y = some (k.format.word (if svK k x + svK k y = 0 then ngK k x && ngK k y else decide (svK k x + svK k y < 0)) (min (rr k.format (svK k x + svK k y).natAbs 0) (infK k))) := by
  have hx : rgK k x < infK k := of_decide_eq_true hx
  have hy : rgK k y < infK k := of_decide_eq_true hy
  obtain ⟨m, p, e, hv⟩ := read_num k.format x hx
  obtain ⟨n, q, e', hv'⟩ := read_num k.format y hy
  show k.format.add _ _ = _
  unfold Format.add
  rw [e, e']
  simp only [Datum.sum, Option.map_some, Format.write]
  congr 1
  have hb : min (k.format.leastPlace + (p : Int)) (k.format.leastPlace + (q : Int)) = k.format.leastPlace + ((min p q : Nat) : Int) := by omega
  rw [hb]
  have e1 : (k.format.leastPlace + (p : Int) - (k.format.leastPlace + ((min p q : Nat) : Int))).toNat = p - min p q := by omega
  have e2 : (k.format.leastPlace + (q : Int) - (k.format.leastPlace + ((min p q : Nat) : Int))).toNat = q - min p q := by omega
  rw [e1, e2]
  generalize hT : signed (ng k.format x) m (p - min p q) + signed (ng k.format y) n (q - min p q) = T
  have hS : svK k x + svK k y = T * 2 ^ (min p q) := by
    rw [← hT, Int.add_mul, ← signed_scale, ← signed_scale, show p - min p q + min p q = p by omega, show q - min p q + min p q = q by omega]
    rw [signed_shift, signed_shift]
    rw [hv, hv']
    rfl
  have hP : (0 : Int) < 2 ^ (min p q) := Int.pow_pos (by omega)
  have z : (svK k x + svK k y = 0) ↔ T = 0 := by
    rw [hS]
    constructor
    · intro h; rcases Int.mul_eq_zero.1 h with h | h
      · exact h
      · omega
    · intro h; rw [h]; simp
  have l : (svK k x + svK k y < 0) ↔ T < 0 := by
    rw [hS]
    constructor
    · intro h
      apply Decidable.byContradiction
      intro g
      have := Int.mul_nonneg (show 0 ≤ T by omega) (Int.le_of_lt hP)
      omega
    · intro h; exact Int.mul_neg_of_neg_of_pos h hP
  rw [nearest_shift]
  have e3 := nearest_rr k.format (if T = 0 then ng k.format x && ng k.format y else decide (T < 0)) (T.natAbs * 2 ^ min p q) 0
  have e4 : k.format.leastPlace - ((0 : Nat) : Int) = k.format.leastPlace := by omega
  rw [e4] at e3
  rw [e3]
  have e5 : T.natAbs * 2 ^ min p q = (svK k x + svK k y).natAbs := by
    rw [hS, Int.natAbs_mul, Int.natAbs_pow]
    rfl
  rw [e5]
  congr 1
  by_cases hz : T = 0
  · rw [if_pos hz, if_pos (z.2 hz)]; rfl
  · rw [if_neg hz, if_neg (fun h => hz (z.1 h))]
    rw [decide_eq_decide]
    exact l.symm
end Go.Proofs.Ytfohggiehbplkaa
namespace Go.Proofs.Ytfohggiehbplkaa
open Ieee Go.RowKit
set_option linter.unusedSimpArgs false
set_option linter.unusedVariables false

theorem fin_inf {k : FloatKind} {x : Nat} (h : finK k x = false) (n : nanK k x = false) : rgK k x = infK k := by
  have h : ¬ rgK k x < infK k := of_decide_eq_false h
  have n : ¬ infK k < rgK k x := of_decide_eq_false n
  omega
theorem fin_word (k : FloatKind) (s : Bool) (r : Nat) : finK k (k.format.word s (min r (infK k))) = decide (r < infK k) := by
  unfold finK
  rw [rgK_word _ _ _ (Nat.min_le_right _ _)]
  by_cases h : r < infK k
  · rw [Nat.min_eq_left (Nat.le_of_lt h)]
  · rw [Nat.min_eq_right (by omega)]; simp [h]
theorem fb1 : 1 ≤ FloatKind.f64.format.fractionBits := by decide

theorem fin_neg (x : Nat) (h : okK .f64 x) : finK .f64 (Op.negFloat .f64 x) = finK .f64 x := by
  unfold finK; rw [(neg_facts .f64 x h).1]

end Go.Proofs.Ytfohggiehbplkaa
