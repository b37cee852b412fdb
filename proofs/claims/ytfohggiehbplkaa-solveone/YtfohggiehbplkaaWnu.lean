/-
  Plain facts that go together.
-/
import Derived.Test.YtfohggiehbplkaaFlt
import Derived.Test.YtfohggiehbplkaaWrow
namespace Go.Proofs.Ytfohggiehbplkaa
open Ieee Go.RowKit
set_option linter.unusedSimpArgs false
set_option linter.unusedVariables false
theorem cut_neg (s : Bool) (n d : Nat) : Toward.even.cut s n d = Toward.even.cut false n d := rfl
theorem cut_spec (n d : Nat) : 2 * Toward.even.cut false n d * 2 ^ d ≤ 2 * n + 2 ^ d ∧ 2 * n ≤ 2 * Toward.even.cut false n d * 2 ^ d + 2 ^ d ∧
    (Toward.even.cut false n d % 2 = 1 → 2 * Toward.even.cut false n d * 2 ^ d < 2 * n + 2 ^ d ∧ 2 * n < 2 * Toward.even.cut false n d * 2 ^ d + 2 ^ d) := by
  unfold Toward.cut
  simp only [Nat.one_shiftLeft]
  by_cases hd : d ≤ n.log2 + 2
  · rw [Nat.min_eq_left hd]
    have hp := Nat.two_pow_pos d
    have h1 := Nat.div_add_mod n (2 ^ d)
    have h2 := Nat.mod_lt n hp
    generalize n / 2 ^ d = low at *
    generalize n % 2 ^ d = rest at *
    generalize 2 ^ d = G at *
    by_cases c1 : G < 2 * rest
    · have e : (decide (G < 2 * rest) || (G == 2 * rest && low % 2 == 1)).toNat = 1 := by simp [c1]
      rw [e]
      have e2 : 2 * (low + 1) * G = 2 * (G * low) + 2 * G := by rw [Nat.mul_comm G low, Nat.mul_assoc, Nat.add_mul]; omega
      rw [e2]; omega
    · by_cases c2 : G = 2 * rest
      · by_cases c3 : low % 2 = 1
        · have e : (decide (G < 2 * rest) || (G == 2 * rest && low % 2 == 1)).toNat = 1 := by simp [c2, c3]
          rw [e]
          have e2 : 2 * (low + 1) * G = 2 * (G * low) + 2 * G := by rw [Nat.mul_comm G low, Nat.mul_assoc, Nat.add_mul]; omega
          rw [e2]; omega
        · have e : (decide (G < 2 * rest) || (G == 2 * rest && low % 2 == 1)).toNat = 0 := by simp [c1, c3]
          rw [e]
          have e2 : 2 * (low + 0) * G = 2 * (G * low) := by rw [Nat.mul_comm G low, Nat.mul_assoc]; rfl
          rw [e2]; omega
      · have e : (decide (G < 2 * rest) || (G == 2 * rest && low % 2 == 1)).toNat = 0 := by
          have : (G == 2 * rest) = false := by simpa using c2
          simp [c1, this]
        rw [e]
        have e2 : 2 * (low + 0) * G = 2 * (G * low) := by rw [Nat.mul_comm G low, Nat.mul_assoc]; rfl
        rw [e2]; omega
  · rw [Nat.min_eq_right (by omega)]
    have hl := lt_log2 n
    have h3 : 2 ^ (n.log2 + 2) ≤ 2 ^ d := Nat.pow_le_pow_right (by omega) (by omega)
    have h4 : 2 ^ (n.log2 + 2) = 2 * 2 ^ (n.log2 + 1) := by rw [Nat.pow_succ]; omega
    have hlt : n < 2 ^ (n.log2 + 2) := by omega
    rw [Nat.div_eq_of_lt hlt, Nat.mod_eq_of_lt hlt]
    have e : (decide (2 ^ (n.log2 + 2) < 2 * n) || (2 ^ (n.log2 + 2) == 2 * n && 0 % 2 == 1)).toNat = 0 := by
      have : ¬ 2 ^ (n.log2 + 2) < 2 * n := by omega
      simp [this]
    rw [e]
    omega
/-- the rung nearest to m / 2 ^ t least places, infinity left out of account -/
def rr (f : Format) (m t : Nat) : Nat := (m.log2 - (t + f.fractionBits)) * f.binade + Toward.even.cut false m (t + (m.log2 - (t + f.fractionBits)))
theorem rr_zero (f : Format) (t : Nat) : rr f 0 t = 0 := by
  unfold rr Toward.cut
  simp
theorem nearest_rr (f : Format) (s : Bool) (m t : Nat) : f.nearest s m (f.leastPlace - (t : Nat)) = f.word s (min (rr f m t) f.infRung) := by
  by_cases hm : m = 0
  · subst hm; rw [rr_zero]; unfold Format.nearest; simp
  · unfold Format.nearest
    rw [if_neg hm]
    simp only []
    have hlast : max (f.leastPlace - (t : Int) + (m.log2 : Int) - (f.fractionBits : Int)) f.leastPlace = f.leastPlace + ((m.log2 - (t + f.fractionBits) : Nat) : Int) := by omega
    rw [hlast]
    generalize he : m.log2 - (t + f.fractionBits) = e
    have e0 : (f.leastPlace - (t : Int) - (f.leastPlace + (e : Int))).toNat = 0 := by omega
    have e1 : (f.leastPlace + (e : Int) - (f.leastPlace - (t : Int))).toNat = t + e := by omega
    have e2 : (f.leastPlace + (e : Int) - f.leastPlace).toNat = e := by omega
    rw [e0, e1, e2, Nat.shiftLeft_zero, cut_neg]
    unfold rr
    rw [he]
/-- to write a number in units of one place or of another: the same -/
theorem nearest_shift (f : Format) (s : Bool) (m q : Nat) (p : Int) : f.nearest s m (p + (q : Nat)) = f.nearest s (m * 2 ^ q) p := by
  by_cases hm : m = 0
  · subst hm; unfold Format.nearest; simp
  · have hm' : m * 2 ^ q ≠ 0 := Nat.mul_ne_zero hm (Nat.ne_of_gt (Nat.two_pow_pos _))
    unfold Format.nearest
    rw [if_neg hm, if_neg hm']
    simp only []
    rw [log2_mul_pow m q hm]
    have hlast : max (p + ((m.log2 + q : Nat) : Int) - (f.fractionBits : Int)) f.leastPlace = max (p + (q : Int) + (m.log2 : Int) - (f.fractionBits : Int)) f.leastPlace := by omega
    rw [hlast]
    generalize max (p + (q : Int) + (m.log2 : Int) - (f.fractionBits : Int)) f.leastPlace = last
    congr 1
    congr 1
    congr 1
    by_cases h1 : last ≤ p
    · have e2 : (p + (q : Int) - last).toNat = q + (p - last).toNat := by omega
      have e3 : (last - (p + (q : Int))).toNat = 0 := by omega
      have e4 : (last - p).toNat = 0 := by omega
      rw [e2, e3, e4, cut_none, cut_none, Nat.shiftLeft_eq, Nat.shiftLeft_eq, Nat.pow_add, Nat.mul_assoc]
    · by_cases h2 : last ≤ p + (q : Int)
      · have e3 : (last - (p + (q : Int))).toNat = 0 := by omega
        have e4 : (p - last).toNat = 0 := by omega
        rw [e3, e4, cut_none, Nat.shiftLeft_zero, Nat.shiftLeft_eq]
        have e5 : m * 2 ^ q = m * 2 ^ (p + (q : Int) - last).toNat * 2 ^ (last - p).toNat := by rw [Nat.mul_assoc, ← Nat.pow_add]; congr 2; omega
        rw [e5, cut_exact]
      · have e2 : (p + (q : Int) - last).toNat = 0 := by omega
        have e4 : (p - last).toNat = 0 := by omega
        have e5 : (last - p).toNat = (last - (p + (q : Int))).toNat + q := by omega
        rw [e2, e4, e5, Nat.shiftLeft_zero, Nat.shiftLeft_zero, cut_scale _ _ _ _ hm]
/-- numbers of rungs, up to the next binade's first -/
theorem vl_mk2 (f : Format) (e K : Nat) (h1 : K ≤ 2 * f.binade) (h2 : 0 < e → f.binade ≤ K) : vl f (e * f.binade + K) = K * 2 ^ e := by
  by_cases h : K < 2 * f.binade
  · exact vl_mk f e K h h2
  · have hB := binade_pos f
    have hK : K = 2 * f.binade := by omega
    subst hK
    have e1 : e * f.binade + 2 * f.binade = (e + 1) * f.binade + f.binade := by rw [Nat.add_mul]; omega
    rw [e1, vl_mk f (e + 1) f.binade (by omega) (fun _ => Nat.le_refl _), Nat.pow_succ]
    rw [Nat.mul_comm 2 f.binade, Nat.mul_assoc, Nat.mul_comm 2 (2 ^ e)]
theorem rr_arith (V : Nat → Nat) (B X Y e c m : Nat) (hB : 0 < B) (hB2 : B % 2 = 0) (hX : 0 < X) (hY : 0 < Y)
    (hV : ∀ K, K ≤ 2 * B → (0 < e → B ≤ K) → V (e * B + K) = K * Y) (hM : ∀ r, V r < V (r + 1))
    (s1 : 2 * c * (X * Y) ≤ 2 * m + X * Y) (s2 : 2 * m ≤ 2 * c * (X * Y) + X * Y) (s3 : c % 2 = 1 → 2 * c * (X * Y) < 2 * m + X * Y ∧ 2 * m < 2 * c * (X * Y) + X * Y)
    (hup : m < 2 * B * Y * X) (hdn : 0 < e → B * Y * X ≤ m) :
    (e * B + c = 0 ∨ (V (e * B + c - 1) + V (e * B + c)) * X ≤ 2 * m) ∧ 2 * m ≤ (V (e * B + c) + V (e * B + c + 1)) * X ∧
    ((e * B + c) % 2 = 1 → (V (e * B + c - 1) + V (e * B + c)) * X < 2 * m ∧ 2 * m < (V (e * B + c) + V (e * B + c + 1)) * X) := by
  have hXYp : 0 < X * Y := Nat.mul_pos hX hY
  have c2 : c ≤ 2 * B := by
    apply Decidable.byContradiction
    intro h
    have h1 : 2 * (2 * B + 1) * (X * Y) ≤ 2 * c * (X * Y) := Nat.mul_le_mul_right _ (by omega)
    have h2 : 2 * (2 * B + 1) * (X * Y) = 2 * (2 * B * Y * X) + 2 * (X * Y) := by grind
    omega
  have c1 : 0 < e → B ≤ c := by
    intro h
    apply Decidable.byContradiction
    intro g
    have h0 := hdn h
    have h1 : 2 * c * (X * Y) ≤ 2 * (B - 1) * (X * Y) := Nat.mul_le_mul_right _ (by omega)
    have h2 : 2 * (B - 1) * (X * Y) + 2 * (X * Y) = 2 * (B * Y * X) := by
      obtain ⟨b, rfl⟩ : ∃ b, B = b + 1 := ⟨B - 1, by omega⟩
      simp only [Nat.add_sub_cancel]
      grind
    omega
  have hpar : (e * B + c) % 2 = c % 2 := by
    rw [Nat.add_mod, Nat.mul_mod, hB2]; simp
  have v0 := hV c c2 c1
  -- upper
  have hU : 2 * m ≤ (V (e * B + c) + V (e * B + c + 1)) * X ∧ (c % 2 = 1 → 2 * m < (V (e * B + c) + V (e * B + c + 1)) * X) := by
    by_cases h : c < 2 * B
    · have v1 := hV (c + 1) (by omega) (fun h => by have := c1 h; omega)
      rw [← Nat.add_assoc] at v1
      rw [v0, v1]
      have e1 : (c * Y + (c + 1) * Y) * X = 2 * c * (X * Y) + X * Y := by grind
      rw [e1]
      exact ⟨s2, fun h => (s3 h).2⟩
    · have hc : c = 2 * B := by omega
      have h1 := hM (e * B + c)
      have h2 : (V (e * B + c) + V (e * B + c)) * X < (V (e * B + c) + V (e * B + c + 1)) * X := Nat.mul_lt_mul_of_pos_right (by omega) hX
      have h3 : (V (e * B + c) + V (e * B + c)) * X = 2 * (2 * B * Y * X) := by rw [v0, hc]; grind
      omega
  have hL : (e * B + c = 0 ∨ (V (e * B + c - 1) + V (e * B + c)) * X ≤ 2 * m) ∧ (c % 2 = 1 → (V (e * B + c - 1) + V (e * B + c)) * X < 2 * m) := by
    by_cases hz : c = 0
    · have he : e = 0 := by
        apply Decidable.byContradiction
        intro h
        have := c1 (by omega)
        omega
      subst hz; subst he
      exact ⟨.inl (by simp), by simp⟩
    · by_cases h : 0 < e ∧ c = B
      · have h0 := hdn h.1
        obtain ⟨r, hr⟩ : ∃ r, e * B + c = r + 1 := ⟨e * B + c - 1, by omega⟩
        have h1 := hM r
        have h2 : (V r + V (r + 1)) * X < (V (r + 1) + V (r + 1)) * X := Nat.mul_lt_mul_of_pos_right (by omega) hX
        have h3 : (V (r + 1) + V (r + 1)) * X = 2 * (B * Y * X) := by rw [← hr, v0, h.2]; grind
        rw [hr, Nat.add_sub_cancel]
        exact ⟨.inr (by omega), fun _ => by omega⟩
      · obtain ⟨b, rfl⟩ : ∃ b, c = b + 1 := ⟨c - 1, by omega⟩
        have v1 := hV b (by omega) (fun h' => by have := c1 h'; omega)
        have e0 : e * B + (b + 1) - 1 = e * B + b := by omega
        rw [e0, v0, v1]
        have e1 : (b * Y + (b + 1) * Y) * X + X * Y = 2 * (b + 1) * (X * Y) := by grind
        exact ⟨.inr (by omega), fun h => by have := (s3 h).1; omega⟩
  exact ⟨hL.1, hU.1, fun h => by rw [hpar] at h; exact ⟨hL.2 h, hU.2 h⟩⟩
theorem rr_spec (f : Format) (hf : 1 ≤ f.fractionBits) (m t : Nat) :
    (rr f m t = 0 ∨ (vl f (rr f m t - 1) + vl f (rr f m t)) * 2 ^ t ≤ 2 * m) ∧ 2 * m ≤ (vl f (rr f m t) + vl f (rr f m t + 1)) * 2 ^ t ∧
    (rr f m t % 2 = 1 → (vl f (rr f m t - 1) + vl f (rr f m t)) * 2 ^ t < 2 * m ∧ 2 * m < (vl f (rr f m t) + vl f (rr f m t + 1)) * 2 ^ t) := by
  by_cases hm : m = 0
  · subst hm
    rw [rr_zero]
    refine ⟨.inl rfl, by simp, by simp⟩
  have hB := binade_pos f
  obtain ⟨s1, s2, s3⟩ := cut_spec m (t + (m.log2 - (t + f.fractionBits)))
  have hlo := log2_le m hm
  have hhi := lt_log2 m
  unfold rr
  generalize hc : Toward.even.cut false m (t + (m.log2 - (t + f.fractionBits))) = c at *
  have hBB : f.binade = 2 ^ f.fractionBits := rfl
  have hB2 : f.binade % 2 = 0 := by
    obtain ⟨k, hk⟩ : ∃ k, f.fractionBits = k + 1 := ⟨f.fractionBits - 1, by omega⟩
    rw [hBB, hk, Nat.pow_succ]; omega
  generalize he : m.log2 - (t + f.fractionBits) = e at *
  rw [show 2 ^ (t + e) = 2 ^ t * 2 ^ e from Nat.pow_add _ _ _] at s1 s2 s3
  refine rr_arith (vl f) f.binade (2 ^ t) (2 ^ e) e c m hB hB2 (Nat.two_pow_pos t) (Nat.two_pow_pos e) (fun K h1 h2 => vl_mk2 f e K h1 h2) (vl_succ f) s1 s2 s3 ?_ ?_
  · have : m.log2 + 1 ≤ 1 + f.fractionBits + e + t := by omega
    have h := Nat.lt_of_lt_of_le hhi (Nat.pow_le_pow_right (by omega) this)
    rw [Nat.pow_add, Nat.pow_add, Nat.pow_add] at h
    rw [hBB]; exact h
  · intro h
    have : m.log2 = f.fractionBits + e + t := by omega
    rw [this, Nat.pow_add, Nat.pow_add] at hlo
    rw [hBB]; exact hlo
theorem vl_le (f : Format) {r s : Nat} (h : r ≤ s) : vl f r ≤ vl f s := by
  rcases Nat.lt_or_eq_of_le h with h | h
  · exact Nat.le_of_lt (vl_lt f h)
  · rw [h]; exact Nat.le_refl _
theorem rr_exact (f : Format) (hf : 1 ≤ f.fractionBits) (r t : Nat) : rr f (vl f r * 2 ^ t) t = r := by
  obtain ⟨a1, a2, _⟩ := rr_spec f hf (vl f r * 2 ^ t) t
  generalize rr f (vl f r * 2 ^ t) t = s at *
  have hX := Nat.two_pow_pos t
  apply Decidable.byContradiction
  intro g
  rcases Nat.lt_or_gt_of_ne g with g | g
  · have h1 := vl_lt f g
    have h2 : vl f (s + 1) ≤ vl f r := vl_le f (by omega)
    have h3 : (vl f s + vl f (s + 1)) * 2 ^ t < (vl f r + vl f r) * 2 ^ t := Nat.mul_lt_mul_of_pos_right (by omega) hX
    have h4 : (vl f r + vl f r) * 2 ^ t = 2 * (vl f r * 2 ^ t) := by grind
    omega
  · have a1 := a1.resolve_left (by omega)
    have h1 := vl_lt f g
    have h2 : vl f r ≤ vl f (s - 1) := vl_le f (by omega)
    have h3 : (vl f r + vl f r) * 2 ^ t < (vl f (s - 1) + vl f s) * 2 ^ t := Nat.mul_lt_mul_of_pos_right (by omega) hX
    have h4 : (vl f r + vl f r) * 2 ^ t = 2 * (vl f r * 2 ^ t) := by grind
    omega
def svK (k : FloatKind) (x : Nat) : Int := if ngK k x then -(vl k.format (rgK k x) : Int) else (vl k.format (rgK k x) : Int)
theorem least64 : FloatKind.f64.format.leastPlace = -1074 := by decide +kernel
theorem read_neg (k : FloatKind) (x : Nat) (h : okK k x) : k.format.read (Op.negFloat k x) = (k.format.read x).opposite := by
  obtain ⟨h1, h2, _⟩ := neg_facts k x h
  have h1 : Op.negFloat k x % k.format.signWeight = x % k.format.signWeight := h1
  have h2 : (Op.negFloat k x / k.format.signWeight % 2 == 1) = !(x / k.format.signWeight % 2 == 1) := h2
  unfold Format.read
  simp only []
  rw [h1, h2]
  split
  · rfl
  · split
    · rfl
    · split <;> rfl
theorem sub_is_add (k : FloatKind) (x y : Nat) (hy : okK k y) : floatBits .sub k x y = floatBits .add k x (Op.negFloat k y) := by
  show k.format.sub _ _ = k.format.add _ _
  unfold Format.sub Format.add
  rw [read_neg k y hy]
theorem mul_spec (x y : Nat) (hx : finK .f64 x = true) (hy : finK .f64 y = true) :
    floatBits .mul .f64 x y = some (FloatKind.f64.format.word (ngK .f64 x ^^ ngK .f64 y) (min (rr FloatKind.f64.format (vl FloatKind.f64.format (rgK .f64 x) * vl FloatKind.f64.format (rgK .f64 y)) 1074) (infK .f64))) := by
  have hx : rgK .f64 x < infK .f64 := of_decide_eq_true hx
  have hy : rgK .f64 y < infK .f64 := of_decide_eq_true hy
  obtain ⟨m, p, e, hv⟩ := read_num FloatKind.f64.format x hx
  obtain ⟨n, q, e', hv'⟩ := read_num FloatKind.f64.format y hy
  show FloatKind.f64.format.mul _ _ = _
  unfold Format.mul
  rw [e, e']
  simp only [Datum.product, Option.map_some, Format.write]
  congr 1
  have e1 : FloatKind.f64.format.leastPlace + (p : Int) + (FloatKind.f64.format.leastPlace + (q : Int)) = FloatKind.f64.format.leastPlace - ((1074 : Nat) : Int) + ((p + q : Nat) : Int) := by rw [least64]; omega
  rw [e1, nearest_shift, nearest_rr]
  have e2 : m * n * 2 ^ (p + q) = vl FloatKind.f64.format (rgK .f64 x) * vl FloatKind.f64.format (rgK .f64 y) := by
    show _ = vl FloatKind.f64.format (rg FloatKind.f64.format x) * vl FloatKind.f64.format (rg FloatKind.f64.format y)
    rw [← hv, ← hv', Nat.pow_add]; grind
  rw [e2]
  rfl
theorem add_spec (k : FloatKind) (x y : Nat) (hx : finK k x = true) (hy : finK k y = true) :
    floatBits .add k x y = some (k.format.word (if svK k x + svK k y = 0 then ngK k x && ngK k y else decide (svK k x + svK k y < 0)) (min (rr k.format (svK k x + svK k y).natAbs 0) (infK k))) := by
  have hx : rgK k x < infK k := of_decide_eq_true hx
  have hy : rgK k y < infK k := of_decide_eq_true hy
  obtain ⟨m, p, e, hv⟩ := read_num k.format x hx
  obtain ⟨n, q, e', hv'⟩ := read_num k.format y hy
  show k.format.add _ _ = _
  unfold Format.add
  rw [e, e']
  simp only [Datum.sum, Option.map_some, Format.write]
  congr 1
  have hb : min (k.format.leastPlace + (p : Int)) (k.format.leastPlace + (q : Int)) = k.format.leastPlace + ((min p q : Nat) : Int) := by omega
  rw [hb]
  have e1 : (k.format.leastPlace + (p : Int) - (k.format.leastPlace + ((min p q : Nat) : Int))).toNat = p - min p q := by omega
  have e2 : (k.format.leastPlace + (q : Int) - (k.format.leastPlace + ((min p q : Nat) : Int))).toNat = q - min p q := by omega
  rw [e1, e2]
  generalize hT : signed (ng k.format x) m (p - min p q) + signed (ng k.format y) n (q - min p q) = T
  have hS : svK k x + svK k y = T * 2 ^ (min p q) := by
    rw [← hT, Int.add_mul, ← signed_scale, ← signed_scale, show p - min p q + min p q = p by omega, show q - min p q + min p q = q by omega]
    rw [signed_shift, signed_shift]
    rw [hv, hv']
    rfl
  have hP : (0 : Int) < 2 ^ (min p q) := Int.pow_pos (by omega)
  have z : (svK k x + svK k y = 0) ↔ T = 0 := by
    rw [hS]
    constructor
    · intro h; rcases Int.mul_eq_zero.1 h with h | h
      · exact h
      · omega
    · intro h; rw [h]; simp
  have l : (svK k x + svK k y < 0) ↔ T < 0 := by
    rw [hS]
    constructor
    · intro h
      apply Decidable.byContradiction
      intro g
      have := Int.mul_nonneg (show 0 ≤ T by omega) (Int.le_of_lt hP)
      omega
    · intro h; exact Int.mul_neg_of_neg_of_pos h hP
  rw [nearest_shift]
  have e3 := nearest_rr k.format (if T = 0 then ng k.format x && ng k.format y else decide (T < 0)) (T.natAbs * 2 ^ min p q) 0
  have e4 : k.format.leastPlace - ((0 : Nat) : Int) = k.format.leastPlace := by omega
  rw [e4] at e3
  rw [e3]
  have e5 : T.natAbs * 2 ^ min p q = (svK k x + svK k y).natAbs := by
    rw [hS, Int.natAbs_mul, Int.natAbs_pow]
    rfl
  rw [e5]
  congr 1
  by_cases hz : T = 0
  · rw [if_pos hz, if_pos (z.2 hz)]; rfl
  · rw [if_neg hz, if_neg (fun h => hz (z.1 h))]
    rw [decide_eq_decide]
    exact l.symm
theorem fin_num {k : FloatKind} {x : Nat} (h : finK k x = true) : nanK k x = false := by
  have h : rgK k x < infK k := of_decide_eq_true h
  rw [nanK_eq]; exact decide_eq_false (by omega)
theorem fin_inf {k : FloatKind} {x : Nat} (h : finK k x = false) (n : nanK k x = false) : rgK k x = infK k := by
  have h : ¬ rgK k x < infK k := of_decide_eq_false h
  have n : ¬ infK k < rgK k x := of_decide_eq_false n
  omega
theorem fin_word (k : FloatKind) (s : Bool) (r : Nat) : finK k (k.format.word s (min r (infK k))) = decide (r < infK k) := by
  unfold finK
  rw [rgK_word _ _ _ (Nat.min_le_right _ _)]
  by_cases h : r < infK k
  · rw [Nat.min_eq_left (Nat.le_of_lt h)]
  · rw [Nat.min_eq_right (by omega)]; simp [h]
theorem fb1 : 1 ≤ FloatKind.f64.format.fractionBits := by decide
theorem sv_neg (x : Nat) (h : okK .f64 x) : svK .f64 (Op.negFloat .f64 x) = -svK .f64 x := by
  obtain ⟨h1, h2, _⟩ := neg_facts .f64 x h
  unfold svK
  rw [h1, h2]
  cases ngK .f64 x <;> simp
theorem fin_neg (x : Nat) (h : okK .f64 x) : finK .f64 (Op.negFloat .f64 x) = finK .f64 x := by
  unfold finK; rw [(neg_facts .f64 x h).1]
theorem gap_le (f : Format) (r : Nat) : f.binade * vl f (r + 1) ≤ f.binade * vl f r + vl f r + f.binade := by
  have hB := binade_pos f
  by_cases h : r < f.binade
  · have e1 := vl_mk2 f 0 r (by omega) (by omega)
    have e2 := vl_mk2 f 0 (r + 1) (by omega) (by omega)
    simp only [Nat.zero_mul, Nat.zero_add, Nat.pow_zero, Nat.mul_one] at e1 e2
    rw [e1, e2, Nat.mul_add]; omega
  · obtain ⟨e, he⟩ : ∃ e, r / f.binade = e + 1 := ⟨r / f.binade - 1, by have := (Nat.one_le_div_iff hB).2 (by omega : f.binade ≤ r); omega⟩
    have hd := Nat.div_add_mod r f.binade
    have hm := Nat.mod_lt r hB
    rw [he, Nat.mul_add, Nat.mul_one, Nat.mul_comm f.binade e] at hd
    generalize hK : r % f.binade = K at *
    have e1 := vl_mk2 f e (f.binade + K) (by omega) (fun _ => by omega)
    have e2 := vl_mk2 f e (f.binade + K + 1) (by omega) (fun _ => by omega)
    rw [show e * f.binade + (f.binade + K) = r by omega] at e1
    rw [show e * f.binade + (f.binade + K + 1) = r + 1 by omega] at e2
    rw [e1, e2]
    generalize 2 ^ e = Y
    generalize f.binade = B at *
    have : B * ((B + K + 1) * Y) = B * ((B + K) * Y) + B * Y := by grind
    have h2 : B * Y ≤ (B + K) * Y := Nat.mul_le_mul_right _ (by omega)
    omega
theorem rr_err (f : Format) (hf : 1 ≤ f.fractionBits) (m t : Nat) :
    2 * f.binade * m ≤ (2 * f.binade * vl f (rr f m t) + vl f (rr f m t) + f.binade) * 2 ^ t ∧
    2 * f.binade * vl f (rr f m t) * 2 ^ t ≤ 2 * f.binade * m + (vl f (rr f m t) + f.binade) * 2 ^ t := by
  obtain ⟨h1, h2, _⟩ := rr_spec f hf m t
  generalize rr f m t = r at *
  have g1 := gap_le f r
  generalize 2 ^ t = X at *
  constructor
  · have h3 : f.binade * (2 * m) ≤ f.binade * ((vl f r + vl f (r + 1)) * X) := Nat.mul_le_mul_left _ h2
    have h4 : f.binade * vl f (r + 1) * X ≤ (f.binade * vl f r + vl f r + f.binade) * X := Nat.mul_le_mul_right _ g1
    have e1 : f.binade * ((vl f r + vl f (r + 1)) * X) = f.binade * vl f r * X + f.binade * vl f (r + 1) * X := by grind
    have e2 : (2 * f.binade * vl f r + vl f r + f.binade) * X = f.binade * vl f r * X + (f.binade * vl f r + vl f r + f.binade) * X := by grind
    have e3 : 2 * f.binade * m = f.binade * (2 * m) := by grind
    omega
  · by_cases hr : r = 0
    · subst hr; rw [vl_zero]; simp
    · have h1 := h1.resolve_left hr
      obtain ⟨q, rfl⟩ : ∃ q, r = q + 1 := ⟨r - 1, by omega⟩
      rw [Nat.add_sub_cancel] at h1
      have g2 := gap_le f q
      have g3 := Nat.le_of_lt (vl_succ f q)
      have h3 : f.binade * ((vl f q + vl f (q + 1)) * X) ≤ f.binade * (2 * m) := Nat.mul_le_mul_left _ h1
      have h4 : f.binade * vl f (q + 1) * X ≤ (f.binade * vl f q + vl f (q + 1) + f.binade) * X := Nat.mul_le_mul_right _ (by omega)
      have e1 : f.binade * ((vl f q + vl f (q + 1)) * X) = f.binade * vl f q * X + f.binade * vl f (q + 1) * X := by grind
      have e2 : (f.binade * vl f q + vl f (q + 1) + f.binade) * X = f.binade * vl f q * X + (vl f (q + 1) + f.binade) * X := by grind
      have e3 : 2 * f.binade * vl f (q + 1) * X = f.binade * vl f (q + 1) * X + f.binade * vl f (q + 1) * X := by grind
      have e4 : 2 * f.binade * m = f.binade * (2 * m) := by grind
      omega
/-- the number of a float without its sign, in units of the least place -/
def mg (x : Nat) : Nat := vl FloatKind.f64.format (rgK .f64 x)
/-- .. as a number -/
def av (x : Nat) : Rat := (mg x : Rat) / 2 ^ 1074
def epR : Rat := 1 / 2 ^ 53
def etR : Rat := 1 / 2 ^ 1075
theorem av_nn (x : Nat) : 0 ≤ av x := by
  unfold av
  rw [Rat.div_def]
  exact Rat.mul_nonneg Rat.natCast_nonneg (Rat.le_of_lt (Rat.inv_pos.2 (Rat.pow_pos (by decide))))
theorem bin64 : FloatKind.f64.format.binade = 2 ^ 52 := rfl
/-- near q e A: A is q rounded: within e of A's part and half a least place -/
def nearR (q A : Rat) : Prop := q ≤ A + epR * A + etR ∧ A ≤ q + epR * A + etR
/-- m / 2 ^ t least places, rounded -/
theorem near_rr (m t : Nat) (q : Rat) (hq : q * 2 ^ t * 2 ^ 1074 = m) : nearR q ((vl FloatKind.f64.format (rr FloatKind.f64.format m t) : Rat) / 2 ^ 1074) := by
  obtain ⟨h1, h2⟩ := rr_err FloatKind.f64.format fb1 m t
  generalize vl FloatKind.f64.format (rr FloatKind.f64.format m t) = V at *
  have hbin : (FloatKind.f64.format.binade : Rat) = 2 ^ 52 := by rw [bin64]; push_cast; rfl
  generalize FloatKind.f64.format.binade = b at *
  have h1 := Rat.natCast_le_natCast.2 h1
  have h2 := Rat.natCast_le_natCast.2 h2
  have hX : (0 : Rat) < 2 ^ t := Rat.pow_pos (by decide)
  have hW : (0 : Rat) < 2 ^ 1074 := Rat.pow_pos (by decide)
  push_cast at h1 h2
  rw [hbin] at h1 h2
  clear hbin
  unfold nearR epR etR
  have hW2 : (2 : Rat) ^ 1075 = 2 ^ 1074 * 2 := Rat.pow_succ _ _
  rw [hW2]
  have h53 : (2 : Rat) ^ 53 = 2 * 2 ^ 52 := by rw [Rat.pow_succ]; grind
  rw [h53]
  generalize (2 : Rat) ^ 1074 = W at *
  generalize (2 : Rat) ^ t = X at *
  have hc : (0 : Rat) < 2 ^ 52 := by decide
  generalize (2 : Rat) ^ 52 = B at *
  rw [← hq] at h1 h2
  generalize (V : Rat) = v at *
  constructor
  · refine Rat.le_of_mul_le_mul_right (c := 2 * B * (X * W)) ?_ (Rat.mul_pos (Rat.mul_pos (by decide) hc) (Rat.mul_pos hX hW))
    have e1 : (v / W + 1 / (2 * B) * (v / W) + 1 / (W * 2)) * (2 * B * (X * W)) = (2 * B * v + v + B) * X := by grind
    have e2 : q * (2 * B * (X * W)) = 2 * B * (q * X * W) := by grind
    rw [e1, e2]; exact h1
  · refine Rat.le_of_mul_le_mul_right (c := 2 * B * (X * W)) ?_ (Rat.mul_pos (Rat.mul_pos (by decide) hc) (Rat.mul_pos hX hW))
    have e1 : (q + 1 / (2 * B) * (v / W) + 1 / (W * 2)) * (2 * B * (X * W)) = 2 * B * (q * X * W) + (v + B) * X := by grind
    have e2 : v / W * (2 * B * (X * W)) = 2 * B * v * X := by grind
    rw [e1, e2]; exact h2
theorem two_ne : (2 : Rat) ≠ 0 := by decide
theorem zp_pos (k : Int) : (0 : Rat) < 2 ^ k := Rat.zpow_pos (by decide)
theorem zp_add (a b : Int) : (2 : Rat) ^ (a + b) = 2 ^ a * 2 ^ b := Rat.zpow_add two_ne a b
theorem zp_nat (n : Nat) : (2 : Rat) ^ (n : Int) = 2 ^ n := Rat.zpow_natCast _ _
theorem near_any (m : Nat) (p : Int) : ∃ r, (∀ s, FloatKind.f64.format.nearest s m p = FloatKind.f64.format.word s (min r (infK .f64))) ∧ nearR ((m : Rat) * 2 ^ p) ((vl FloatKind.f64.format r : Rat) / 2 ^ 1074) := by
  by_cases h : FloatKind.f64.format.leastPlace ≤ p
  · obtain ⟨q, hq⟩ : ∃ q : Nat, p = FloatKind.f64.format.leastPlace - ((0 : Nat) : Int) + (q : Int) := ⟨(p - FloatKind.f64.format.leastPlace).toNat, by omega⟩
    refine ⟨rr FloatKind.f64.format (m * 2 ^ q) 0, fun s => by rw [hq, nearest_shift, nearest_rr]; rfl, near_rr _ _ _ ?_⟩
    have e : p + 1074 = (q : Int) := by rw [hq, least64]; omega
    have e2 : (2 : Rat) ^ p * 2 ^ 1074 = 2 ^ q := by
      rw [← zp_nat q, ← e, zp_add, ← zp_nat 1074]; rfl
    push_cast
    rw [Rat.pow_zero, Rat.mul_one, Rat.mul_assoc, e2]
  · obtain ⟨t, ht⟩ : ∃ t : Nat, p = FloatKind.f64.format.leastPlace - (t : Int) := ⟨(FloatKind.f64.format.leastPlace - p).toNat, by omega⟩
    refine ⟨rr FloatKind.f64.format m t, fun s => by rw [ht, nearest_rr]; rfl, near_rr _ _ _ ?_⟩
    have e : p + (t : Int) + 1074 = 0 := by rw [ht, least64]; omega
    have e2 : (2 : Rat) ^ p * 2 ^ t * 2 ^ 1074 = 1 := by
      rw [← zp_nat t, ← zp_add, ← zp_nat 1074, ← zp_add]
      rw [show p + (t : Int) + ((1074 : Nat) : Int) = 0 from e, Rat.zpow_zero]
    rw [Rat.mul_assoc, Rat.mul_assoc, ← Rat.mul_assoc (2 ^ p), e2, Rat.mul_one]
theorem read_num64 (x : Nat) (h : finK .f64 x = true) : ∃ m p, FloatKind.f64.format.read x = .number (ngK .f64 x) m (FloatKind.f64.format.leastPlace + (p : Nat)) ∧ m * 2 ^ p = mg x ∧ m < 2 ^ 53 := by
  have h : rgK .f64 x < infK .f64 := of_decide_eq_true h
  have hb := binade_pos FloatKind.f64.format
  unfold Format.read
  simp only []
  by_cases h1 : rg FloatKind.f64.format x < FloatKind.f64.format.binade
  · have h2 : x % FloatKind.f64.format.signWeight < FloatKind.f64.format.binade := h1
    rw [if_pos h2]
    refine ⟨x % FloatKind.f64.format.signWeight, 0, by rw [Int.natCast_zero, Int.add_zero]; rfl, ?_, ?_⟩
    · rw [Nat.pow_zero, Nat.mul_one]
      show _ = vl FloatKind.f64.format (rg FloatKind.f64.format x)
      unfold vl
      rw [if_pos h1]
      rfl
    · have : FloatKind.f64.format.binade = 2 ^ 52 := rfl
      rw [this] at h2
      exact Nat.lt_trans h2 (by decide)
  · have h2 : ¬ x % FloatKind.f64.format.signWeight < FloatKind.f64.format.binade := h1
    have h3 : x % FloatKind.f64.format.signWeight < FloatKind.f64.format.infRung := h
    rw [if_neg h2, if_pos h3]
    refine ⟨FloatKind.f64.format.binade + x % FloatKind.f64.format.signWeight % FloatKind.f64.format.binade, x % FloatKind.f64.format.signWeight / FloatKind.f64.format.binade - 1, rfl, ?_, ?_⟩
    · show _ = vl FloatKind.f64.format (rg FloatKind.f64.format x)
      unfold vl
      rw [if_neg h1]
      rfl
    · have h4 := Nat.mod_lt (x % FloatKind.f64.format.signWeight) hb
      have : FloatKind.f64.format.binade = 2 ^ 52 := rfl
      have h5 : (2 : Nat) ^ 53 = 2 * FloatKind.f64.format.binade := by rw [this]
      rw [h5]
      generalize FloatKind.f64.format.binade = B at *
      omega
theorem av_read {x m p : Nat} (h : m * 2 ^ p = mg x) : av x = (m : Rat) * 2 ^ (FloatKind.f64.format.leastPlace + (p : Int)) := by
  unfold av
  rw [← h]
  have e : FloatKind.f64.format.leastPlace + (p : Int) + ((1074 : Nat) : Int) = (p : Int) := by rw [least64]; omega
  have e2 : (2 : Rat) ^ (FloatKind.f64.format.leastPlace + (p : Int)) * 2 ^ 1074 = 2 ^ p := by
    rw [← zp_nat 1074, ← zp_add, e, zp_nat]
  push_cast
  rw [← e2, ← Rat.mul_assoc]
  exact Rat.mul_div_cancel (Rat.ne_of_gt (Rat.pow_pos (by decide)))
theorem mg_word (s : Bool) (r : Nat) (h : r < infK .f64) : mg (FloatKind.f64.format.word s (min r (infK .f64))) = vl FloatKind.f64.format r := by
  unfold mg
  rw [rgK_word _ _ _ (Nat.min_le_right _ _), Nat.min_eq_left (Nat.le_of_lt h)]
/-- a product, rounded -/
theorem mul_near {x y r : Nat} (hx : finK .f64 x = true) (hy : finK .f64 y = true) (h : resK .mul .f64 x y r) (hr : finK .f64 r = true) :
    nearR (av x * av y) (av r) ∧ ngK .f64 r = (ngK .f64 x ^^ ngK .f64 y) := by
  have e := res_is h (mul_spec x y hx hy)
  rw [e, fin_word] at hr
  have hr := of_decide_eq_true hr
  constructor
  · have hm : mg r = vl FloatKind.f64.format (rr FloatKind.f64.format (mg x * mg y) 1074) := by rw [e]; exact mg_word _ _ hr
    unfold av
    rw [hm]
    refine near_rr _ _ _ ?_
    have hW : (0 : Rat) < 2 ^ 1074 := Rat.pow_pos (by decide)
    push_cast
    generalize (2 : Rat) ^ 1074 = W at *
    grind
  · rw [e, ngK_word _ _ _ (Nat.min_le_right _ _)]
theorem quo_nat (m n : Nat) (hm : m < 2 ^ 53) (hn : n ≠ 0) (more : Nat) (hmore : 54 + n.log2 - m.log2 = more) :
    2 ^ 53 * ((2 * (m * 2 ^ more / n) + (m * 2 ^ more % n != 0).toNat) * n) ≤ 2 ^ 53 * (2 * (m * 2 ^ more)) + 2 * (m * 2 ^ more) ∧
    2 ^ 53 * (2 * (m * 2 ^ more)) ≤ 2 ^ 53 * ((2 * (m * 2 ^ more / n) + (m * 2 ^ more % n != 0).toNat) * n) + 2 * (m * 2 ^ more) := by
  by_cases hm0 : m = 0
  · subst hm0
    simp
  · have hD : 2 ^ 53 * n ≤ m * 2 ^ more := by
      have hl : m.log2 ≤ 52 := by
        have := (Nat.log2_lt hm0).2 hm
        omega
      have h1 := log2_le m hm0
      have h2 := lt_log2 n
      have h3 : 2 ^ m.log2 * 2 ^ more ≤ m * 2 ^ more := Nat.mul_le_mul_right _ h1
      rw [← Nat.pow_add, show m.log2 + more = 53 + (n.log2 + 1) by omega, Nat.pow_add] at h3
      have h4 : 2 ^ 53 * n ≤ 2 ^ 53 * 2 ^ (n.log2 + 1) := Nat.mul_le_mul_left _ (Nat.le_of_lt h2)
      omega
    generalize m * 2 ^ more = D at *
    have hd := Nat.div_add_mod D n
    have hr := Nat.mod_lt D (Nat.pos_of_ne_zero hn)
    generalize D / n = q at *
    generalize D % n = r at *
    by_cases hz : r = 0
    · have : (r != 0).toNat = 0 := by simp [hz]
      rw [this]
      have e : (2 * q + 0) * n = 2 * (n * q) := by grind
      rw [e]
      generalize n * q = nq at *
      omega
    · have : (r != 0).toNat = 1 := by simp [hz]
      rw [this]
      have e : (2 * q + 1) * n = 2 * (n * q) + n := by grind
      rw [e]
      generalize n * q = nq at *
      omega
theorem quo_rat {A C Z E Q n x : Rat} (hE : 0 < E) (hz : 0 < Z) (hq : Q * n * 2 = A * Z) (hx : x * 2 = C * Z) (n1 : E * A ≤ E * C + C) (n2 : E * C ≤ E * A + C) : Q * n ≤ x + 1 / E * x ∧ x ≤ Q * n + 1 / E * x := by
  have n1 := Rat.mul_le_mul_of_nonneg_right n1 (Rat.le_of_lt hz)
  have n2 := Rat.mul_le_mul_of_nonneg_right n2 (Rat.le_of_lt hz)
  have hp : (0 : Rat) < 2 * E := Rat.mul_pos (by decide) hE
  constructor
  · refine Rat.le_of_mul_le_mul_right (c := 2 * E) ?_ hp
    have e1 : Q * n * (2 * E) = E * (Q * n * 2) := by grind
    have e2 : (x + 1 / E * x) * (2 * E) = E * (x * 2) + x * 2 := by grind
    rw [e1, e2, hq, hx]
    grind
  · refine Rat.le_of_mul_le_mul_right (c := 2 * E) ?_ hp
    have e1 : (Q * n + 1 / E * x) * (2 * E) = E * (Q * n * 2) + x * 2 := by grind
    have e2 : x * (2 * E) = E * (x * 2) := by grind
    rw [e1, e2, hq, hx]
    grind
theorem near_any0 (p : Int) : ∀ s, FloatKind.f64.format.nearest s 0 p = FloatKind.f64.format.word s (min 0 (infK .f64)) := fun s => by
  unfold Format.nearest; simp
theorem quo_near {x y : Nat} (hx : finK .f64 x = true) (hy : finK .f64 y = true) (h0 : mg y ≠ 0) : ∃ (Q : Rat) (r : Nat), 0 ≤ Q ∧ Q * av y ≤ av x + epR * av x ∧ av x ≤ Q * av y + epR * av x ∧
    floatBits .quo .f64 x y = some (FloatKind.f64.format.word (ngK .f64 x ^^ ngK .f64 y) (min r (infK .f64))) ∧ nearR Q ((vl FloatKind.f64.format r : Rat) / 2 ^ 1074) ∧ (mg x = 0 → r = 0) := by
  obtain ⟨m, p, e, hv, hm⟩ := read_num64 x hx
  obtain ⟨n, q, e', hv', hn⟩ := read_num64 y hy
  have hn0 : n ≠ 0 := fun h => h0 (by rw [← hv', h]; simp)
  have ha := av_read hv
  have ha' := av_read hv'
  generalize hI : FloatKind.f64.format.leastPlace + (p : Int) = i at *
  generalize hJ : FloatKind.f64.format.leastPlace + (q : Int) = j at *
  obtain ⟨more, hmore⟩ : ∃ more, 54 + n.log2 - m.log2 = more := ⟨_, rfl⟩
  obtain ⟨n1, n2⟩ := quo_nat m n hm hn0 more hmore
  have hw : floatBits .quo .f64 x y = some (FloatKind.f64.format.nearest (ngK .f64 x ^^ ngK .f64 y) (2 * (m * 2 ^ more / n) + (m * 2 ^ more % n != 0).toNat) (i - j - (more : Int) - 1)) := by
    show FloatKind.f64.format.div _ _ = _
    unfold Format.div
    rw [e, e']
    simp only [Datum.quotient, if_neg hn0, Option.map_some, Format.write]
    rw [show FloatKind.f64.format.fractionBits + 2 = 54 from rfl, hmore, Nat.shiftLeft_eq]
  obtain ⟨r, hr, hnear, hzero⟩ : ∃ r, (∀ s, FloatKind.f64.format.nearest s (2 * (m * 2 ^ more / n) + (m * 2 ^ more % n != 0).toNat) (i - j - (more : Int) - 1) = FloatKind.f64.format.word s (min r (infK .f64))) ∧ nearR (((2 * (m * 2 ^ more / n) + (m * 2 ^ more % n != 0).toNat : Nat) : Rat) * 2 ^ (i - j - (more : Int) - 1)) ((vl FloatKind.f64.format r : Rat) / 2 ^ 1074) ∧ (mg x = 0 → r = 0) := by
    by_cases hx0 : m = 0
    · subst hx0
      refine ⟨0, by simpa using near_any0 _, ?_, fun _ => rfl⟩
      simp only [Nat.zero_mul, Nat.zero_div, Nat.zero_mod, vl_zero]
      unfold nearR epR etR
      simp
      decide +kernel
    · obtain ⟨r, h1, h2⟩ := near_any (2 * (m * 2 ^ more / n) + (m * 2 ^ more % n != 0).toNat) (i - j - (more : Int) - 1)
      exact ⟨r, h1, h2, fun h => absurd (by rw [← hv] at h; exact (Nat.mul_eq_zero.1 h).resolve_right (Nat.ne_of_gt (Nat.two_pow_pos _))) hx0⟩
  rw [hr] at hw
  generalize hA : 2 * (m * 2 ^ more / n) + (m * 2 ^ more % n != 0).toNat = A at *
  refine ⟨(A : Rat) * 2 ^ (i - j - (more : Int) - 1), r, Rat.mul_nonneg Rat.natCast_nonneg (Rat.le_of_lt (zp_pos _)), ?_, ?_, hw, hnear, hzero⟩
  all_goals
    have hq : (A : Rat) * 2 ^ (i - j - (more : Int) - 1) * av y * 2 = ((A * n : Nat) : Rat) * 2 ^ (i - (more : Int)) := by
      have e4 : (2 : Rat) ^ (i - (more : Int)) = 2 ^ (i - j - (more : Int) - 1) * 2 ^ j * 2 := by
        rw [← zp_add]
        have : i - (more : Int) = (i - j - (more : Int) - 1 + j) + 1 := by omega
        rw [this, zp_add, Rat.zpow_one]
      rw [e4, ha']
      push_cast
      generalize (2 : Rat) ^ (i - j - (more : Int) - 1) = z
      generalize (2 : Rat) ^ j = z'
      grind
    have hxx : av x * 2 = ((2 * (m * 2 ^ more) : Nat) : Rat) * 2 ^ (i - (more : Int)) := by
      rw [ha]
      have e4 : (2 : Rat) ^ i = 2 ^ (i - (more : Int)) * 2 ^ more := by
        rw [← zp_nat, ← zp_add]; congr 1; omega
      rw [e4]
      push_cast
      generalize (2 : Rat) ^ (i - (more : Int)) = z
      generalize (2 : Rat) ^ more = y
      grind
    have hz := zp_pos (i - (more : Int))
    generalize A * n = An at *
    generalize 2 * (m * 2 ^ more) = C at *
    have n1 := Rat.natCast_le_natCast.2 n1
    have n2 := Rat.natCast_le_natCast.2 n2
    rw [Rat.natCast_add, Rat.natCast_mul, Rat.natCast_mul, show ((2 ^ 53 : Nat) : Rat) = 2 ^ 53 by push_cast; rfl] at n1 n2
  · exact (quo_rat (Rat.pow_pos (by decide)) hz hq hxx n1 n2).1
  · exact (quo_rat (Rat.pow_pos (by decide)) hz hq hxx n1 n2).2
theorem rmul {a b c : Rat} (h : a ≤ b) (hc : 0 ≤ c) : c * a ≤ c * b := Rat.mul_le_mul_of_nonneg_left h hc
def nr (e h q A : Rat) : Prop := q ≤ A + e * A + h ∧ A ≤ q + e * A + h
theorem pow2_cast (n : Nat) : ((2 ^ n : Nat) : Rat) = 2 ^ n := by rw [Rat.natCast_pow]; rfl
theorem rp_add (a b : Nat) : (2 : Rat) ^ (a + b) = 2 ^ a * 2 ^ b := by rw [← zp_nat, ← zp_nat, ← zp_nat, ← zp_add]; rfl
theorem vl_inf : vl FloatKind.f64.format (infK .f64) = 2 ^ 2098 := by decide +kernel
theorem W_pos : (0 : Rat) < 2 ^ 1074 := Rat.pow_pos (by decide)
theorem rung_fin {r : Nat} (h : ((vl FloatKind.f64.format r : Nat) : Rat) / 2 ^ 1074 ≤ 2 ^ 1000) : r < infK .f64 := by
  apply Decidable.byContradiction
  intro g
  have h1 := vl_le FloatKind.f64.format (Nat.le_of_not_lt g)
  rw [vl_inf] at h1
  have h2 := Rat.natCast_le_natCast.2 h1
  have h3 : ((2 ^ 2098 : Nat) : Rat) = 2 ^ 1024 * 2 ^ 1074 := (pow2_cast 2098).trans (rp_add 1024 1074)
  rw [h3] at h2
  have h4 : (2 : Rat) ^ 1024 = 2 ^ 1000 * 2 ^ 24 := rp_add 1000 24
  have h5 : (2 : Rat) ^ 24 = 16777216 := by decide +kernel
  have h6 : (0 : Rat) < 2 ^ 1000 := Rat.pow_pos (by decide)
  have hW := W_pos
  have h7 : ((vl FloatKind.f64.format r : Nat) : Rat) ≤ 2 ^ 1000 * 2 ^ 1074 := by
    have := Rat.mul_le_mul_of_nonneg_right h (Rat.le_of_lt hW)
    rw [Rat.div_mul_cancel (Rat.ne_of_gt hW)] at this
    exact this
  rw [h4, h5] at h2
  have h8 : (0 : Rat) < 2 ^ 1000 * 2 ^ 1074 := Rat.mul_pos h6 hW
  generalize (2 : Rat) ^ 1000 = A at *
  generalize (2 : Rat) ^ 1074 = W at *
  generalize ((vl FloatKind.f64.format r : Nat) : Rat) = v at *
  grind
theorem av_word (s : Bool) (r : Nat) (h : r < infK .f64) : av (FloatKind.f64.format.word s (min r (infK .f64))) = (vl FloatKind.f64.format r : Rat) / 2 ^ 1074 := by
  unfold av; rw [mg_word s r h]
theorem fin_of (s : Bool) {r : Nat} (h : r < infK .f64) : finK .f64 (FloatKind.f64.format.word s (min r (infK .f64))) = true := by rw [fin_word]; exact decide_eq_true h
theorem mg_le_av {a b : Nat} (h : mg a ≤ mg b) : av a ≤ av b := by
  have hW := W_pos
  refine Rat.le_of_mul_le_mul_right (c := 2 ^ 1074) ?_ hW
  unfold av
  rw [Rat.div_mul_cancel (Rat.ne_of_gt hW), Rat.div_mul_cancel (Rat.ne_of_gt hW)]
  exact Rat.natCast_le_natCast.2 h
theorem mg_rg {a b : Nat} : mg a ≤ mg b ↔ rgK .f64 a ≤ rgK .f64 b := by
  unfold mg
  constructor
  · intro h
    apply Decidable.byContradiction
    intro g
    have := vl_lt FloatKind.f64.format (Nat.lt_of_not_le g)
    omega
  · exact fun h => vl_le _ h
/-- x' is x times 2 ^ (j - i) -/
def Sc (i j x x' : Nat) : Prop := finK .f64 x = true ∧ finK .f64 x' = true ∧ okK .f64 x ∧ okK .f64 x' ∧ ngK .f64 x' = ngK .f64 x ∧ mg x' * 2 ^ i = mg x * 2 ^ j
/-- nought, or of a size -/
def Rg (a b x : Nat) : Prop := mg x = 0 ∨ (2 ^ a ≤ mg x ∧ mg x ≤ 2 ^ b)
theorem Sc.refl {x : Nat} (h : finK .f64 x = true) (o : okK .f64 x) : Sc 0 0 x x := ⟨h, h, o, o, rfl, rfl⟩
def oneB : Nat := 4607182418800017408
theorem one_mg : mg oneB = 2 ^ 1074 := by decide +kernel
theorem one_fin : finK .f64 oneB = true := by decide +kernel
theorem one_ng : ngK .f64 oneB = false := by decide +kernel
theorem mul_one (x : Nat) (h : finK .f64 x = true) (o : okK .f64 x) : floatBits .mul .f64 x oneB = some x := by
  rw [mul_spec x oneB h one_fin, one_ng, Bool.xor_false]
  have e : vl FloatKind.f64.format (rgK .f64 x) * vl FloatKind.f64.format (rgK .f64 oneB) = vl FloatKind.f64.format (rgK .f64 x) * 2 ^ 1074 := congrArg _ one_mg
  have e2 := (congrArg (fun m => rr FloatKind.f64.format m 1074) e).trans (rr_exact FloatKind.f64.format fb1 (rgK .f64 x) 1074)
  rw [show rr FloatKind.f64.format (vl FloatKind.f64.format (rgK .f64 x) * vl FloatKind.f64.format (rgK .f64 oneB)) 1074 = rgK .f64 x from e2]
  have h : rgK .f64 x < infK .f64 := of_decide_eq_true h
  rw [Nat.min_eq_left (Nat.le_of_lt h)]
  exact congrArg some (word_eq _ x o).symm
theorem Sc.zero {i j x x' : Nat} (h : Sc i j x x') : mg x' = 0 ↔ mg x = 0 := by
  obtain ⟨_, _, _, _, _, m⟩ := h
  constructor
  · intro h; rw [h, Nat.zero_mul] at m; exact (Nat.mul_eq_zero.1 m.symm).resolve_right (Nat.ne_of_gt (Nat.two_pow_pos _))
  · intro h; rw [h, Nat.zero_mul] at m; exact (Nat.mul_eq_zero.1 m).resolve_right (Nat.ne_of_gt (Nat.two_pow_pos _))
theorem Sc.neg {i j x x' : Nat} (h : Sc i j x x') : Sc i j (Op.negFloat .f64 x) (Op.negFloat .f64 x') := by
  obtain ⟨f1, f2, o1, o2, n, m⟩ := h
  have g1 := neg_facts .f64 x o1
  have g2 := neg_facts .f64 x' o2
  refine ⟨by rw [fin_neg _ o1]; exact f1, by rw [fin_neg _ o2]; exact f2, g1.2.2, g2.2.2, by rw [g1.2.1, g2.2.1, n], ?_⟩
  unfold mg
  rw [g1.1, g2.1]
  exact m
theorem Rg.neg {a b x : Nat} (h : Rg a b x) (o : okK .f64 x) : Rg a b (Op.negFloat .f64 x) := by
  unfold Rg mg at *
  rw [(neg_facts .f64 x o).1]
  exact h
def Dv (op : BinOp) (x y : Nat) : Nat := (floatBits op .f64 x y).getD 0
theorem dv_some {op : BinOp} {x y v : Nat} (h : floatBits op .f64 x y = some v) : Dv op x y = v := by unfold Dv; rw [h]; rfl
theorem res_dv {op : BinOp} {x y r : Nat} (h : resK op .f64 x y r) (g : (floatBits op .f64 x y).isSome = true) : r = Dv op x y := by
  obtain ⟨v, hv⟩ := Option.isSome_iff_exists.1 g
  rw [dv_some hv]; exact res_is h hv
theorem dv_res {op : BinOp} {x y : Nat} (g : (floatBits op .f64 x y).isSome = true) : resK op .f64 x y (Dv op x y) := by
  obtain ⟨v, hv⟩ := Option.isSome_iff_exists.1 g
  rw [dv_some hv]; exact ⟨floatBits_ok hv, .inl hv⟩
theorem some_mul {x y : Nat} (hx : finK .f64 x = true) (hy : finK .f64 y = true) : (floatBits .mul .f64 x y).isSome = true := by rw [mul_spec x y hx hy]; rfl
theorem some_add {x y : Nat} (hx : finK .f64 x = true) (hy : finK .f64 y = true) : (floatBits .add .f64 x y).isSome = true := by rw [add_spec .f64 x y hx hy]; rfl
theorem some_sub {x y : Nat} (hx : finK .f64 x = true) (hy : finK .f64 y = true) (oy : okK .f64 y) : (floatBits .sub .f64 x y).isSome = true := by
  rw [sub_is_add .f64 x y oy]; exact some_add hx (by rw [fin_neg _ oy]; exact hy)
theorem run_mul_dv (P : Program) (t : TypeId) (x y : Nat) (w : World) (hx : finK .f64 x = true) (hy : finK .f64 y = true) : (binOp .mul t (.float .f64 x) (.float .f64 y)).run P w = .ok (.float .f64 (Dv .mul x y)) w := by
  obtain ⟨v, hv⟩ := Option.isSome_iff_exists.1 (some_mul hx hy)
  rw [run_mul, dv_some hv]
  unfold fv fd
  rw [hv]
  rfl
/-- the power of two that math.Ldexp gives -/
def pw (e : Int) : Nat := ((e + 1023) * 4503599627370496).toNat
theorem Sc.two {j r t u : Nat} (h : Sc 100 j r t) (g : Sc 100 j t u) : Sc (100 + 100) (j + j) r u := by
  obtain ⟨f1, f2, o1, o2, n1, m1⟩ := h
  obtain ⟨_, f3, _, o3, n2, m2⟩ := g
  refine ⟨f1, f3, o1, o3, n2.trans n1, ?_⟩
  rw [Nat.pow_add, Nat.pow_add]
  generalize 2 ^ 100 = A at *
  generalize 2 ^ j = B at *
  have : mg u * (A * A) = mg u * A * A := by grind
  rw [this, m2]
  have : mg t * B * A = mg t * A * B := by grind
  rw [this, m1]; grind
def rv (x : Nat) : Rat := if ngK .f64 x then -av x else av x
def ab (a : Rat) : Rat := if a < 0 then -a else a
theorem ab_nn (a : Rat) : 0 ≤ ab a := by unfold ab; split <;> grind
theorem ab_le (a : Rat) : a ≤ ab a ∧ -a ≤ ab a := by unfold ab; split <;> grind
theorem ab_neg (a : Rat) : ab (-a) = ab a := by unfold ab; split <;> split <;> grind
theorem ab_pos {a : Rat} (h : 0 ≤ a) : ab a = a := by unfold ab; split <;> grind
theorem ab_of {a b : Rat} (h1 : a ≤ b) (h2 : -a ≤ b) : ab a ≤ b := by unfold ab; split <;> grind
theorem ab_mul (a b : Rat) : ab (a * b) = ab a * ab b := by
  rcases Rat.le_total (a := 0) (b := a) with ha | ha <;> rcases Rat.le_total (a := 0) (b := b) with hb | hb
  · rw [ab_pos ha, ab_pos hb, ab_pos (Rat.mul_nonneg ha hb)]
  · rw [ab_pos ha, ← ab_neg b, ab_pos (show 0 ≤ -b by grind), ← ab_neg, ab_pos (show 0 ≤ -(a * b) by have := Rat.mul_nonneg ha (show 0 ≤ -b by grind); grind)]; grind
  · rw [ab_pos hb, ← ab_neg a, ab_pos (show 0 ≤ -a by grind), ← ab_neg, ab_pos (show 0 ≤ -(a * b) by have := Rat.mul_nonneg (show 0 ≤ -a by grind) hb; grind)]; grind
  · rw [← ab_neg a, ← ab_neg b, ab_pos (show 0 ≤ -a by grind), ab_pos (show 0 ≤ -b by grind), ab_pos (show 0 ≤ a * b by have := Rat.mul_nonneg (show 0 ≤ -a by grind) (show 0 ≤ -b by grind); grind)]; grind
theorem ab_add (a b : Rat) : ab (a + b) ≤ ab a + ab b := by
  have h1 := ab_le a
  have h2 := ab_le b
  exact ab_of (by grind) (by grind)
/-- A is q rounded -/
def nrS (q A : Rat) : Prop := ab (q - A) ≤ epR * ab A + etR
theorem nrS_of_near {q A : Rat} (h : nearR q A) (hA : 0 ≤ A) : nrS q A := by
  unfold nrS
  rw [ab_pos hA]
  obtain ⟨h1, h2⟩ := h
  exact ab_of (by grind) (by grind)
theorem nrS_neg {q A : Rat} (h : nrS q A) : nrS (-q) (-A) := by
  unfold nrS at *
  rw [ab_neg A, show -q - -A = -(q - A) by grind, ab_neg]
  exact h
theorem rv_pos {x : Nat} (h : ngK .f64 x = false) : rv x = av x := by unfold rv; rw [h]; rfl
theorem rv_neg {x : Nat} (h : ngK .f64 x = true) : rv x = -av x := by unfold rv; rw [h]; rfl
theorem ab_rv (x : Nat) : ab (rv x) = av x := by
  unfold rv
  split
  · rw [ab_neg, ab_pos (av_nn x)]
  · exact ab_pos (av_nn x)
theorem rv_turned {x : Nat} (o : okK .f64 x) : rv (Op.negFloat .f64 x) = -rv x := by
  obtain ⟨h1, h2, _⟩ := neg_facts .f64 x o
  have e : av (Op.negFloat .f64 x) = av x := by unfold av mg; rw [h1]
  unfold rv
  rw [h2, e]
  cases ngK .f64 x <;> simp <;> grind
theorem mul_rv {x y r : Nat} (hx : finK .f64 x = true) (hy : finK .f64 y = true) (hr : finK .f64 r = true) (h : resK .mul .f64 x y r) : nrS (rv x * rv y) (rv r) := by
  obtain ⟨h1, h2⟩ := mul_near hx hy h hr
  have h3 := nrS_of_near h1 (av_nn r)
  unfold rv
  rw [h2]
  cases ngK .f64 x <;> cases ngK .f64 y <;> simp only [Bool.false_bne, Bool.true_bne, Bool.bne_false, Bool.bne_true, Bool.not_true, Bool.not_false, Bool.xor_false, Bool.xor_true, Bool.false_xor, Bool.true_xor, Bool.false_eq_true, if_false, if_true]
  · exact h3
  · rw [show av x * -av y = -(av x * av y) by grind]; exact nrS_neg h3
  · rw [show -av x * av y = -(av x * av y) by grind]; exact nrS_neg h3
  · rw [show -av x * -av y = av x * av y by grind]; exact h3
theorem rv_sv (x : Nat) : rv x = (svK .f64 x : Rat) / 2 ^ 1074 := by
  unfold rv svK av mg
  cases ngK .f64 x
  · simp only [Bool.false_eq_true, if_false, Rat.intCast_natCast]
  · simp only [if_true, Rat.intCast_neg, Rat.intCast_natCast]
    rw [Rat.div_def, Rat.div_def]; grind
theorem cast_neg {T : Int} (h : T < 0) : (T : Rat) = -(T.natAbs : Rat) := by
  have e : T = -(T.natAbs : Int) := by omega
  have := congrArg (fun z : Int => (z : Rat)) e
  simpa only [Rat.intCast_neg, Rat.intCast_natCast] using this
theorem cast_pos {T : Int} (h : ¬ T < 0) : (T : Rat) = (T.natAbs : Rat) := by
  have e : T = (T.natAbs : Int) := by omega
  have := congrArg (fun z : Int => (z : Rat)) e
  simpa only [Rat.intCast_natCast] using this
theorem add_rv {x y r : Nat} (hx : finK .f64 x = true) (hy : finK .f64 y = true) (hr : finK .f64 r = true) (h : resK .add .f64 x y r) : nrS (rv x + rv y) (rv r) := by
  have e := res_is h (add_spec .f64 x y hx hy)
  rw [e, fin_word] at hr
  have hr := of_decide_eq_true hr
  have hW := W_pos
  have hs : rv x + rv y = ((svK .f64 x + svK .f64 y : Int) : Rat) / 2 ^ 1074 := by
    rw [rv_sv, rv_sv, Rat.intCast_add, Rat.div_def, Rat.div_def, Rat.div_def]; grind
  rw [hs]
  generalize svK .f64 x + svK .f64 y = T at *
  have hm : mg r = vl FloatKind.f64.format (rr FloatKind.f64.format T.natAbs 0) := by rw [e]; exact mg_word _ _ hr
  have hn : nearR ((T.natAbs : Rat) / 2 ^ 1074) (av r) := by
    unfold av
    rw [hm]
    refine near_rr _ _ _ ?_
    rw [Rat.pow_zero, Rat.mul_one]
    exact Rat.div_mul_cancel (Rat.ne_of_gt hW)
  have h3 := nrS_of_near hn (av_nn r)
  by_cases hz : T = 0
  · subst hz
    have : av r = 0 := by unfold av; rw [hm]; simp only [Int.natAbs_zero, rr_zero, vl_zero]; rw [Rat.div_def]; exact Rat.zero_mul _
    have hr0 : rv r = av r := by unfold rv; rw [this]; split <;> grind
    rw [hr0]
    exact h3
  · have hg : ngK .f64 r = decide (T < 0) := by rw [e, if_neg hz, ngK_word _ _ _ (Nat.min_le_right _ _)]
    by_cases hl : T < 0
    · rw [rv_neg (by rw [hg]; exact decide_eq_true hl)]
      have e1 : (T : Rat) / 2 ^ 1074 = -((T.natAbs : Rat) / 2 ^ 1074) := by
        rw [cast_neg hl, Rat.div_def, Rat.div_def, Rat.neg_mul]
      rw [e1]
      exact nrS_neg h3
    · rw [rv_pos (by rw [hg]; exact decide_eq_false hl)]
      rw [cast_pos hl]
      exact h3
theorem sub_rv {x y r : Nat} (oy : okK .f64 y) (hx : finK .f64 x = true) (hy : finK .f64 y = true) (hr : finK .f64 r = true) (h : resK .sub .f64 x y r) : nrS (rv x - rv y) (rv r) := by
  have e : resK .add .f64 x (Op.negFloat .f64 y) r := by unfold resK at *; rwa [sub_is_add .f64 x y oy] at h
  have := add_rv hx (by rw [fin_neg _ oy]; exact hy) hr e
  rw [rv_turned oy] at this
  rw [show rv x - rv y = rv x + -rv y by grind]
  exact this
def ns (e h q A : Rat) : Prop := ab (q - A) ≤ e * ab A + h
theorem ab_two {a b : Rat} (h : ab a ≤ b) : a ≤ b ∧ -a ≤ b := by have := ab_le a; grind
theorem ns_err {e h q A M : Rat} (he : 0 ≤ e) (he1 : e * 4 ≤ 1) (h0 : 0 ≤ h) (hM : ab q ≤ M) (hh : h ≤ e * M) (n : ns e h q A) : ab (q - A) ≤ 3 * (e * M) ∧ ab A ≤ 2 * M := by
  unfold ns at n
  have t : ab A ≤ ab q + ab (q - A) := by
    have := ab_add q (-(q - A))
    rw [ab_neg, show q + -(q - A) = A by grind] at this
    exact this
  have hM0 : 0 ≤ M := by have := ab_nn q; grind
  have hA0 := ab_nn A
  have z := Rat.mul_nonneg he hM0
  have hA : ab A ≤ 2 * M := by
    refine Rat.le_of_mul_le_mul_right (c := 1 - e) ?_ (by grind)
    have m1 := rmul he1 hM0
    grind
  have m2 := rmul hA he
  exact ⟨by grind, hA⟩
/-- a quotient, with its sign: near some Q that times the divisor is nearly what was divided -/
theorem quo_rv {x y r : Nat} (hx : finK .f64 x = true) (hy : finK .f64 y = true) (y0 : mg y ≠ 0) (hr : finK .f64 r = true) (h : resK .quo .f64 x y r) :
    ∃ Q : Rat, ab (Q * rv y - rv x) ≤ epR * ab (rv x) ∧ nrS Q (rv r) := by
  obtain ⟨Q, k, q0, q1, q2, e, hn, _⟩ := quo_near hx hy y0
  have ex := res_is h e
  rw [ex, fin_word] at hr
  have hk := of_decide_eq_true hr
  have hg : ngK .f64 r = (ngK .f64 x ^^ ngK .f64 y) := by rw [ex]; exact ngK_word .f64 _ _ (Nat.min_le_right _ _)
  have ha : av r = (vl FloatKind.f64.format k : Rat) / 2 ^ 1074 := by rw [ex]; exact av_word _ _ hk
  rw [← ha] at hn
  have h3 := nrS_of_near hn (av_nn r)
  have hb : ab (Q * av y - av x) ≤ epR * av x := ab_of (by grind) (by grind)
  rw [ab_rv x]
  unfold rv
  rw [hg]
  cases ngK .f64 x <;> cases ngK .f64 y <;> simp only [Bool.xor_false, Bool.xor_true, Bool.false_xor, Bool.true_xor, Bool.not_true, Bool.not_false, Bool.false_bne, Bool.true_bne, Bool.bne_false, Bool.bne_true, Bool.false_eq_true, if_false, if_true]
  · exact ⟨Q, hb, h3⟩
  · exact ⟨-Q, by rw [show -Q * -av y - av x = Q * av y - av x by grind]; exact hb, nrS_neg h3⟩
  · exact ⟨-Q, by rw [show -Q * av y - -av x = -(Q * av y - av x) by grind, ab_neg]; exact hb, nrS_neg h3⟩
  · exact ⟨Q, by rw [show Q * -av y - -av x = -(Q * av y - av x) by grind, ab_neg]; exact hb, h3⟩
theorem abs_sv (u : Nat) : (svK .f64 u).natAbs = mg u := by unfold svK mg; split <;> simp
/-- a sum that comes out small is finite, whatever the signs -/
theorem add_small2 {x y r : Nat} (hx : finK .f64 x = true) (hy : finK .f64 y = true) (h : resK .add .f64 x y r) {B : Rat} (hB : B * 2 + 2 ≤ 2 ^ 1000) (hb : av x + av y ≤ B) : finK .f64 r = true := by
  have e := res_is h (add_spec .f64 x y hx hy)
  rw [e]
  refine fin_of _ (rung_fin ?_)
  have hT : (svK .f64 x + svK .f64 y).natAbs ≤ mg x + mg y := by
    have := Int.natAbs_add_le (svK .f64 x) (svK .f64 y)
    rwa [abs_sv, abs_sv] at this
  generalize (svK .f64 x + svK .f64 y).natAbs = T at *
  have hW := W_pos
  have hq : (T : Rat) / 2 ^ 1074 ≤ B := by
    refine Rat.le_trans ?_ hb
    refine Rat.le_of_mul_le_mul_right (c := 2 ^ 1074) ?_ hW
    have e1 : (av x + av y) * 2 ^ 1074 = ((mg x + mg y : Nat) : Rat) := by
      unfold av
      rw [Rat.add_mul, Rat.div_mul_cancel (Rat.ne_of_gt hW), Rat.div_mul_cancel (Rat.ne_of_gt hW), Rat.natCast_add]
    rw [e1, Rat.div_mul_cancel (Rat.ne_of_gt hW)]
    exact Rat.natCast_le_natCast.2 hT
  have hn : nearR ((T : Rat) / 2 ^ 1074) ((vl FloatKind.f64.format (rr FloatKind.f64.format T 0) : Rat) / 2 ^ 1074) := by
    refine near_rr _ _ _ ?_
    rw [Rat.pow_zero, Rat.mul_one]
    exact Rat.div_mul_cancel (Rat.ne_of_gt hW)
  have hn := hn.2
  have a1 : epR ≤ 1 / 4 := by decide +kernel
  have a2 : etR ≤ 1 := by decide +kernel
  have a4 : (0 : Rat) ≤ (vl FloatKind.f64.format (rr FloatKind.f64.format T 0) : Rat) / 2 ^ 1074 := by
    rw [Rat.div_def]; exact Rat.mul_nonneg Rat.natCast_nonneg (Rat.le_of_lt (Rat.inv_pos.2 W_pos))
  have a3 : (2 : Rat) ^ 100 * 2 + 2 ≤ 2 ^ 9000 := by decide +kernel
  generalize (vl FloatKind.f64.format (rr FloatKind.f64.format T 0) : Rat) / 2 ^ 1074 = A at *
  have a5 := rmul a1 a4
  generalize (T : Rat) / 2 ^ 1074 = q at *
  generalize (2 : Rat) ^ 100 = H at *
  generalize (2 : Rat) ^ 1000 = K at *
  grind
theorem sub_small2 {x y r : Nat} (oy : okK .f64 y) (hx : finK .f64 x = true) (hy : finK .f64 y = true) (h : resK .sub .f64 x y r) {B : Rat} (hB : B * 2 + 2 ≤ 2 ^ 1000) (hb : av x + av y ≤ B) : finK .f64 r = true := by
  have e : resK .add .f64 x (Op.negFloat .f64 y) r := by unfold resK at *; rwa [sub_is_add .f64 x y oy] at h
  refine add_small2 hx (by rw [fin_neg _ oy]; exact hy) e hB ?_
  have : av (Op.negFloat .f64 y) = av y := by unfold av mg; rw [(neg_facts .f64 y oy).1]
  rw [this]; exact hb
theorem fin_of_le {a b : Nat} (fb : finK .f64 b = true) (na : ngK .f64 a = false) (nb : ngK .f64 b = false) (h : leK .f64 a b = true) : finK .f64 a = true ∧ av a ≤ av b := by
  unfold leK at h
  simp only [Bool.and_eq_true, decide_eq_true_eq] at h
  have h := h.2
  rw [woK_eq, woK_eq, na, nb] at h
  simp only [Bool.false_eq_true, if_false] at h
  have h1 : rgK .f64 a ≤ rgK .f64 b := by omega
  exact ⟨decide_eq_true (Nat.lt_of_le_of_lt h1 (of_decide_eq_true fb)), mg_le_av (mg_rg.2 h1)⟩
theorem mul_small2 {x y r : Nat} (hx : finK .f64 x = true) (hy : finK .f64 y = true) (h : resK .mul .f64 x y r) {B : Rat} (hB : B * 2 + 2 ≤ 2 ^ 1000) (hb : av x * av y ≤ B) : finK .f64 r = true := by
  have e := res_is h (mul_spec x y hx hy)
  rw [e]
  refine fin_of _ (rung_fin ?_)
  have hn : nearR (av x * av y) ((vl FloatKind.f64.format (rr FloatKind.f64.format (mg x * mg y) 1074) : Rat) / 2 ^ 1074) := by
    refine near_rr _ _ _ ?_
    have hW := W_pos
    unfold av
    push_cast
    generalize (2 : Rat) ^ 1074 = W at *
    grind
  have hn := hn.2
  have a1 : epR ≤ 1 / 4 := by decide +kernel
  have a2 : etR ≤ 1 := by decide +kernel
  have a4 : (0 : Rat) ≤ (vl FloatKind.f64.format (rr FloatKind.f64.format (mg x * mg y) 1074) : Rat) / 2 ^ 1074 := by
    rw [Rat.div_def]; exact Rat.mul_nonneg Rat.natCast_nonneg (Rat.le_of_lt (Rat.inv_pos.2 W_pos))
  show (vl FloatKind.f64.format (rr FloatKind.f64.format (mg x * mg y) 1074) : Rat) / 2 ^ 1074 ≤ _
  generalize (vl FloatKind.f64.format (rr FloatKind.f64.format (mg x * mg y) 1074) : Rat) / 2 ^ 1074 = A at *
  have a5 := rmul a1 a4
  generalize av x * av y = q at *
  generalize (2 : Rat) ^ 1000 = K at *
  grind
def Bd (n x : Nat) : Prop := okK .f64 x ∧ finK .f64 x = true ∧ av x ≤ 2 ^ n
theorem two_le {m n : Nat} (h : m ≤ n) : (2 : Rat) ^ m ≤ 2 ^ n := by
  obtain ⟨d, rfl⟩ := Nat.le.dest h
  rw [← pow2_cast, ← pow2_cast]
  exact Rat.natCast_le_natCast.2 (Nat.pow_le_pow_right (by decide) (by omega))
theorem two_ge1 (n : Nat) : (1 : Rat) ≤ 2 ^ n := by have := two_le (Nat.zero_le n); rwa [Rat.pow_zero] at this
theorem bd_mono {m n x : Nat} (h : Bd m x) (hn : m ≤ n) : Bd n x := ⟨h.1, h.2.1, Rat.le_trans h.2.2 (two_le hn)⟩
theorem two_900 {n : Nat} (hn : n ≤ 900) : (2 : Rat) ^ n * 8 + 2 ≤ 2 ^ 1000 := by
  have h1 := two_le hn
  have h2 : (2 : Rat) ^ 900 * 8 + 2 ≤ 2 ^ 1000 := by decide +kernel
  generalize (2 : Rat) ^ 900 = A at *
  generalize (2 : Rat) ^ 1000 = B at *
  generalize (2 : Rat) ^ n = C at *
  grind
theorem two_s1 (n : Nat) : (2 : Rat) ^ (n + 1) = 2 * 2 ^ n := by rw [Rat.pow_succ]; grind
theorem two_s2 (n : Nat) : (2 : Rat) ^ (n + 2) = 4 * 2 ^ n := by rw [two_s1, two_s1]; grind
theorem near_bd {q A B : Rat} (h : nrS q A) (hq : ab q ≤ B) (hB : 1 ≤ B) : ab A ≤ 2 * B := by
  unfold nrS at h
  have a1 : epR ≤ 1 / 4 := by decide +kernel
  have a2 : etR ≤ 1 / 8 := by decide +kernel
  have a5 := rmul a1 (ab_nn A)
  have h1 : ab A ≤ ab (q - A) + ab q := by
    have := ab_add (A - q) q
    have e : ab (A - q) = ab (q - A) := by rw [← ab_neg]; congr 1; grind
    rw [e] at this
    have e2 : A - q + q = A := by grind
    rwa [e2] at this
  grind
theorem okDv (op : BinOp) {x y : Nat} (h : (floatBits op .f64 x y).isSome = true) : okK .f64 (Dv op x y) := (dv_res h).1
theorem bd_add {n x y : Nat} (hx : Bd n x) (hy : Bd n y) (hn : n ≤ 900) : Bd (n + 2) (Dv .add x y) := by
  have s := some_add hx.2.1 hy.2.1
  have r := dv_res s
  have hb : av x + av y ≤ 2 * 2 ^ n := by have := hx.2.2; have := hy.2.2; grind
  have f := add_small2 hx.2.1 hy.2.1 r (B := 2 * 2 ^ n) (by have := two_900 hn; have := two_ge1 n; grind) hb
  refine ⟨okDv _ s, f, ?_⟩
  rw [← ab_rv, two_s2]
  have := near_bd (add_rv hx.2.1 hy.2.1 f r) (Rat.le_trans (ab_add _ _) (by rw [ab_rv, ab_rv]; exact hb)) (by have := two_ge1 n; grind)
  grind
theorem bd_sub {n x y : Nat} (hx : Bd n x) (hy : Bd n y) (hn : n ≤ 900) : Bd (n + 2) (Dv .sub x y) := by
  have s := some_sub hx.2.1 hy.2.1 hy.1
  have r := dv_res s
  have hb : av x + av y ≤ 2 * 2 ^ n := by have := hx.2.2; have := hy.2.2; grind
  have f := sub_small2 hy.1 hx.2.1 hy.2.1 r (B := 2 * 2 ^ n) (by have := two_900 hn; have := two_ge1 n; grind) hb
  refine ⟨okDv _ s, f, ?_⟩
  rw [← ab_rv, two_s2]
  have := near_bd (sub_rv hy.1 hx.2.1 hy.2.1 f r) (B := 2 * 2 ^ n) (by
    have h1 := ab_add (rv x) (-rv y)
    rw [ab_neg, ab_rv, ab_rv] at h1
    have e : rv x + -rv y = rv x - rv y := by grind
    rw [e] at h1
    exact Rat.le_trans h1 hb) (by have := two_ge1 n; grind)
  grind
theorem bd_mul {m n x y : Nat} (hx : Bd m x) (hy : Bd n y) (hn : m + n ≤ 900) : Bd (m + n + 1) (Dv .mul x y) := by
  have s := some_mul hx.2.1 hy.2.1
  have r := dv_res s
  have hb : av x * av y ≤ 2 ^ (m + n) := by
    rw [rp_add]
    exact Rat.le_trans (Rat.mul_le_mul_of_nonneg_right hx.2.2 (av_nn y)) (Rat.mul_le_mul_of_nonneg_left hy.2.2 (Rat.le_trans (by decide) (two_ge1 m)))
  have f := mul_small2 hx.2.1 hy.2.1 r (B := 2 ^ (m + n)) (by have := two_900 hn; have := two_ge1 (m + n); grind) hb
  refine ⟨okDv _ s, f, ?_⟩
  rw [← ab_rv, two_s1]
  exact near_bd (mul_rv hx.2.1 hy.2.1 f r) (by rw [ab_mul, ab_rv, ab_rv]; exact hb) (two_ge1 _)
def crK (ax ay bx b_y : Nat) : Nat := Dv .sub (Dv .mul ax b_y) (Dv .mul ay bx)
theorem some_quo {x y : Nat} (hx : finK .f64 x = true) (hy : finK .f64 y = true) (h0 : mg y ≠ 0) : (floatBits .quo .f64 x y).isSome = true := by
  obtain ⟨Q, r, _, _, _, e, _⟩ := quo_near hx hy h0
  rw [e]; rfl
/-- a triangle of a fan: twice its area, and the way to its middle by that -/
def tA (fx fy px p_y qx qy : Nat) : Nat := crK (Dv .sub px fx) (Dv .sub p_y fy) (Dv .sub qx fx) (Dv .sub qy fy)
/-- sums of the first k + 1 triangles -/
def sA (xs ys : Nat → Nat) : Nat → Nat
  | 0 => tA (xs 0) (ys 0) (xs 1) (ys 1) (xs 2) (ys 2)
  | k + 1 => Dv .add (sA xs ys k) (tA (xs 0) (ys 0) (xs (k + 2)) (ys (k + 2)) (xs (k + 3)) (ys (k + 3)))
theorem run_add_dv (P : Program) (t : TypeId) (x y : Nat) (w : World) (hx : finK .f64 x = true) (hy : finK .f64 y = true) : (binOp .add t (.float .f64 x) (.float .f64 y)).run P w = .ok (.float .f64 (Dv .add x y)) w := by
  obtain ⟨v, hv⟩ := Option.isSome_iff_exists.1 (some_add hx hy)
  rw [run_add, show fd .add .f64 x y = 0 by unfold fd; rw [hv]; rfl]
  unfold fv Dv
  rw [hv]; rfl
theorem run_sub_dv (P : Program) (t : TypeId) (x y : Nat) (w : World) (hx : finK .f64 x = true) (hy : finK .f64 y = true) (oy : okK .f64 y) : (binOp .sub t (.float .f64 x) (.float .f64 y)).run P w = .ok (.float .f64 (Dv .sub x y)) w := by
  obtain ⟨v, hv⟩ := Option.isSome_iff_exists.1 (some_sub hx hy oy)
  rw [run_sub, show fd .sub .f64 x y = 0 by unfold fd; rw [hv]; rfl]
  unfold fv Dv
  rw [hv]; rfl
/-- a quotient by what is not too small -/
theorem bd_quo {m k l x y : Nat} (hx : Bd m x) (hy : Bd l y) (h1 : 1 ≤ av y * 2 ^ k) (hn : m + k ≤ 800) : Bd (m + k + 3) (Dv .quo x y) ∧ resK .quo .f64 x y (Dv .quo x y) := by
  have y0 : mg y ≠ 0 := by
    intro h
    have : av y = 0 := by unfold av; rw [h]; decide +kernel
    rw [this] at h1
    have : (0 : Rat) * 2 ^ k = 0 := Rat.zero_mul _
    rw [this] at h1
    exact absurd h1 (by decide)
  have s := some_quo hx.2.1 hy.2.1 y0
  have r := dv_res s
  obtain ⟨Q, c, q0, q1, q2, e, hnr, _⟩ := quo_near hx.2.1 hy.2.1 y0
  have hQ : Q ≤ 2 * 2 ^ (m + k) := by
    have a1 : epR ≤ 1 := by decide +kernel
    have a2 := rmul a1 (av_nn x)
    have a3 : Q * av y ≤ 2 * av x := by grind
    have a4 : Q ≤ Q * (av y * 2 ^ k) := by
      have := Rat.mul_le_mul_of_nonneg_left h1 q0
      rwa [Rat.mul_one] at this
    have a5 : (0 : Rat) ≤ 2 ^ k := Rat.le_trans (by decide) (two_ge1 k)
    have a6 := Rat.mul_le_mul_of_nonneg_right a3 a5
    have a7 := Rat.mul_le_mul_of_nonneg_right hx.2.2 a5
    rw [rp_add]
    grind
  have hv : (vl FloatKind.f64.format c : Rat) / 2 ^ 1074 ≤ 4 * 2 ^ (m + k) := by
    have h2 := hnr.2
    have a1 : epR ≤ 1 / 4 := by decide +kernel
    have a2 : etR ≤ 1 := by decide +kernel
    have a4 : (0 : Rat) ≤ (vl FloatKind.f64.format c : Rat) / 2 ^ 1074 := by
      rw [Rat.div_def]; exact Rat.mul_nonneg Rat.natCast_nonneg (Rat.le_of_lt (Rat.inv_pos.2 W_pos))
    have a5 := rmul a1 a4
    have a6 := two_ge1 (m + k)
    generalize (vl FloatKind.f64.format c : Rat) / 2 ^ 1074 = A at *
    grind
  have hc : c < infK .f64 := rung_fin (Rat.le_trans hv (by
    have := two_900 (n := m + k) (by omega)
    have := two_ge1 (m + k)
    generalize (2 : Rat) ^ 1000 = K at *
    grind))
  have er := res_is r e
  refine ⟨⟨okDv _ s, by rw [er]; exact fin_of _ hc, ?_⟩, r⟩
  rw [er, av_word _ _ hc]
  refine Rat.le_trans hv ?_
  rw [show m + k + 3 = (m + k) + 1 + 2 by omega, two_s2, two_s1]
  have := two_ge1 (m + k)
  grind
end Go.Proofs.Ytfohggiehbplkaa
namespace Go.Proofs.Ytfohggiehbplkaa
open Ieee Go.RowKit
theorem eq_zero_bd {r : Nat} (o : okK .f64 r) (h : eqK .f64 r 0 = true) (n : Nat) : Bd n r := by
  unfold eqK at h
  rw [Bool.and_eq_true, Bool.and_eq_true] at h
  have h3 := of_decide_eq_true h.2
  have hr : rgK .f64 r = 0 := by
    rw [woK_eq, woK_eq] at h3
    rw [show ngK .f64 0 = false by decide +kernel, show rgK .f64 0 = 0 by decide +kernel] at h3
    split at h3 <;> simp at h3 <;> omega
  have em : av r = 0 := by unfold av mg; rw [hr]; decide +kernel
  refine ⟨o, ?_, by rw [em]; exact Rat.le_trans (by decide) (two_ge1 n)⟩
  unfold finK
  rw [hr]
  decide +kernel
end Go.Proofs.Ytfohggiehbplkaa
namespace Go.Proofs.Ytfohggiehbplkaa
open Ieee Go.RowKit
set_option linter.unusedSimpArgs false
set_option linter.unusedVariables false
theorem wo_sv (x y : Nat) : woK .f64 x ≤ woK .f64 y ↔ svK .f64 x ≤ svK .f64 y := by
  have hx := woK_eq .f64 x
  have hy := woK_eq .f64 y
  have vz : vl FloatKind.f64.format 0 = 0 := vl_zero _
  have le : ∀ {r s : Nat}, vl FloatKind.f64.format r ≤ vl FloatKind.f64.format s ↔ r ≤ s := fun {r s} => by
    rw [← Nat.not_lt, ← Nat.not_lt, vl_lt_iff]
  have pos : ∀ r, vl FloatKind.f64.format r = 0 ↔ r = 0 := fun r => ⟨fun h => vl_inj _ (h.trans vz.symm), fun h => by rw [h]; exact vz⟩
  rw [hx, hy]
  show (if ngK .f64 x then -(rgK .f64 x : Int) else (rgK .f64 x : Int)) ≤ (if ngK .f64 y then -(rgK .f64 y : Int) else (rgK .f64 y : Int)) ↔ (if ngK .f64 x then -(vl FloatKind.f64.format (rgK .f64 x) : Int) else (vl FloatKind.f64.format (rgK .f64 x) : Int)) ≤ (if ngK .f64 y then -(vl FloatKind.f64.format (rgK .f64 y) : Int) else (vl FloatKind.f64.format (rgK .f64 y) : Int))
  generalize rgK .f64 x = a
  generalize rgK .f64 y = b
  have l1 := @le a b
  have l2 := @le b a
  have p1 := pos a
  have p2 := pos b
  generalize vl FloatKind.f64.format a = u at *
  generalize vl FloatKind.f64.format b = v at *
  cases ngK .f64 x <;> cases ngK .f64 y <;> simp <;> omega
theorem rv_le (x y : Nat) : rv x ≤ rv y ↔ svK .f64 x ≤ svK .f64 y := by
  rw [rv_sv, rv_sv]
  constructor
  · intro h
    have := Rat.mul_le_mul_of_nonneg_right h (Rat.le_of_lt W_pos)
    rw [Rat.div_mul_cancel (Rat.ne_of_gt W_pos), Rat.div_mul_cancel (Rat.ne_of_gt W_pos)] at this
    exact Rat.intCast_le_intCast.1 this
  · intro h
    rw [Rat.div_def, Rat.div_def]
    exact Rat.mul_le_mul_of_nonneg_right (Rat.intCast_le_intCast.2 h) (Rat.le_of_lt (Rat.inv_pos.2 W_pos))
theorem le_rv {x y : Nat} (hx : nanK .f64 x = false) (hy : nanK .f64 y = false) : leK .f64 x y = true ↔ rv x ≤ rv y := by
  unfold leK
  rw [hx, hy, rv_le, ← wo_sv]
  simp
theorem lt_rv {x y : Nat} (hx : nanK .f64 x = false) (hy : nanK .f64 y = false) : ltK .f64 x y = true ↔ rv x < rv y := by
  have h := rv_le y x
  have g := wo_sv y x
  unfold ltK
  rw [hx, hy]
  simp
  rw [← Rat.not_le, h, ← g]
  omega
end Go.Proofs.Ytfohggiehbplkaa
namespace Go.Proofs.Ytfohggiehbplkaa
open Ieee Go.RowKit
set_option linter.unusedVariables false
theorem res_sub_add {x y r : Nat} (oy : okK .f64 y) (h : resK .sub .f64 x y r) : resK .add .f64 x (Op.negFloat .f64 y) r := by
  unfold resK at *; rwa [← sub_is_add _ _ _ oy]
theorem sv_word (s : Bool) {r : Nat} (h : r < infK .f64) : finK .f64 (FloatKind.f64.format.word s r) = true ∧ svK .f64 (FloatKind.f64.format.word s r) = if s then -(vl FloatKind.f64.format r : Int) else (vl FloatKind.f64.format r : Int) := by
  have h' := Nat.le_of_lt h
  refine ⟨by unfold finK; rw [rgK_word _ _ _ h']; exact decide_eq_true h, by unfold svK; rw [ngK_word _ _ _ h', rgK_word _ _ _ h']⟩
theorem sv_abs (c : Nat) : (svK .f64 c).natAbs = vl FloatKind.f64.format (rgK .f64 c) := by unfold svK; split <;> simp
theorem add_exact {p q r c : Nat} (fp : finK .f64 p = true) (fq : finK .f64 q = true) (fc : finK .f64 c = true) (h : resK .add .f64 p q r) (e : svK .f64 p + svK .f64 q = svK .f64 c) : finK .f64 r = true ∧ svK .f64 r = svK .f64 c := by
  have k := add_spec .f64 p q fp fq
  rw [e, sv_abs] at k
  have re := rr_exact FloatKind.f64.format fb1 (rgK .f64 c) 0
  rw [Nat.pow_zero, Nat.mul_one] at re
  have hc : rgK .f64 c < infK .f64 := of_decide_eq_true fc
  rw [re, Nat.min_eq_left (Nat.le_of_lt hc)] at k
  have e2 := res_is h k
  obtain ⟨k1, k2⟩ := sv_word (if svK .f64 c = 0 then ngK .f64 p && ngK .f64 q else decide (svK .f64 c < 0)) hc
  rw [← e2] at k1 k2
  refine ⟨k1, ?_⟩
  rw [k2, ← sv_abs]
  by_cases z : svK .f64 c = 0
  · rw [z]; simp
  · rw [if_neg z]
    by_cases l : svK .f64 c < 0
    · rw [if_pos (decide_eq_true l)]; omega
    · rw [if_neg (by simpa using l)]; omega
theorem lt_sv {a b : Nat} (fa : finK .f64 a = true) (fb : finK .f64 b = true) : ltK .f64 a b = decide (svK .f64 a < svK .f64 b) := by
  have h2 := wo_sv b a
  unfold ltK
  rw [fin_num fa, fin_num fb]
  simp only [Bool.not_false, Bool.true_and]
  rw [decide_eq_decide]
  omega
end Go.Proofs.Ytfohggiehbplkaa
namespace Go.Proofs.Ytfohggiehbplkaa
open Ieee Go.RowKit
set_option linter.unusedSimpArgs false
theorem fin_nan {x : Nat} (h : finK .f64 x = true) : nanK .f64 x = false := by
  have h1 := h
  unfold finK at h1
  rw [nanK_eq]
  simp only [decide_eq_true_eq] at h1
  simp only [decide_eq_false_iff_not]
  exact Nat.not_lt.2 (Nat.le_of_lt h1)
theorem oF_dv {op : BinOp} {n x y : Nat} (s : (floatBits op .f64 x y).isSome = true) (h : Bd n (Dv op x y)) : oF op x y = Dv op x y := by
  have e := res_dv (res_o op x y) s
  unfold oF
  rw [e, bits_num (fin_nan h.2.1)]
def BdP (n : Nat) (p : Vp) : Prop := Bd n p.1 ∧ Bd n p.2
theorem BdP.mono {m n : Nat} {p : Vp} (h : BdP m p) (hn : m ≤ n) : BdP n p := ⟨bd_mono h.1 hn, bd_mono h.2 hn⟩
theorem oF_ok (op : BinOp) (x y : Nat) : okK .f64 (oF op x y) := by
  unfold oF bitsK
  split
  · exact none_ok
  · exact (res_o op x y).1
end Go.Proofs.Ytfohggiehbplkaa
namespace Go.Proofs.Ytfohggiehbplkaa
open Ieee Go.RowKit
set_option linter.unusedSimpArgs false
set_option linter.unusedVariables false
def usB (x : Nat) : Bool := eqK .f64 x 0 || (leK .f64 4427038433705197568 (rgK .f64 x) && leK .f64 (rgK .f64 x) 4787326403894837248)
/-- a float of a usual size -/
structure Us (x : Nat) : Prop where
  ok : okK .f64 x
  bd : Bd 40 x
  low : rv x = 0 ∨ 1 ≤ av x * 2 ^ 40
theorem rg_av (x : Nat) : rv (rgK .f64 x) = av x := by
  have r1 : rgK .f64 (rgK .f64 x) = rgK .f64 x := by rw [rg64, rg64]; omega
  have r2 : ngK .f64 (rgK .f64 x) = false := by rw [ng64, rg64, beq_eq_false_iff_ne]; omega
  rw [rv_pos r2]
  unfold av mg
  rw [r1]
theorem rg_fin {x : Nat} (h : finK .f64 x = true) : finK .f64 (rgK .f64 x) = true := by
  have r1 : rgK .f64 (rgK .f64 x) = rgK .f64 x := by rw [rg64, rg64]; omega
  unfold finK at h ⊢
  rw [r1]; exact h
theorem rg_ok (x : Nat) : okK .f64 (rgK .f64 x) := by rw [okK64, rg64]; omega
theorem z_rv0 {r : Nat} (h : eqK .f64 r 0 = true) : rv r = 0 ∧ finK .f64 r = true := by
  rw [eqK_nought] at h
  have h0 := of_decide_eq_true h
  constructor
  · have : av r = 0 := by unfold av mg; rw [h0]; decide +kernel
    have a := ab_rv r
    rw [this] at a
    have := ab_le (rv r)
    grind
  · unfold finK; rw [h0]; decide +kernel
theorem us_num {x : Nat} (o : okK .f64 x) (h : usB x = true) : Us x := by
  unfold usB at h
  rw [Bool.or_eq_true, Bool.and_eq_true] at h
  rcases h with h | ⟨h1, h2⟩
  · exact ⟨o, eq_zero_bd o h 40, .inl (z_rv0 h).1⟩
  · have n1 := (le_nums h1).2
    have a1 := (le_rv (by decide +kernel) n1).1 h1
    have a2 := (le_rv n1 (by decide +kernel)).1 h2
    rw [rg_av] at a1 a2
    have c1 : rv 4427038433705197568 * 2 ^ 40 = 1 := by decide +kernel
    have c2 : rv 4787326403894837248 = 2 ^ 40 := by decide +kernel
    have hf : finK .f64 x = true := by
      cases hf : finK .f64 x
      · exfalso
        have e : rgK .f64 x = infK .f64 := fin_inf hf (by
          have r1 : rgK .f64 (rgK .f64 x) = rgK .f64 x := by rw [rg64, rg64]; omega
          rw [nanK_eq] at n1 ⊢
          rw [r1] at n1; exact n1)
        rw [e] at h2
        exact absurd h2 (by decide +kernel)
      · rfl
    refine ⟨o, ⟨o, hf, by rw [← c2]; exact a2⟩, .inr ?_⟩
    have := rmul a1 (c := 2 ^ 40) (by decide +kernel)
    grind
theorem mul_o {m n x y : Nat} (hx : Bd m x) (hy : Bd n y) (hn : m + n ≤ 900) : Bd (m + n + 1) (oF .mul x y) ∧ nrS (rv x * rv y) (rv (oF .mul x y)) := by
  have r := bd_mul hx hy hn
  rw [oF_dv (some_mul hx.2.1 hy.2.1) r]
  exact ⟨r, mul_rv hx.2.1 hy.2.1 r.2.1 (dv_res (some_mul hx.2.1 hy.2.1))⟩
theorem sub_oB {n x y : Nat} (hx : Bd n x) (hy : Bd n y) (hn : n ≤ 900) : Bd (n + 2) (oF .sub x y) ∧ nrS (rv x - rv y) (rv (oF .sub x y)) := by
  have r := bd_sub hx hy hn
  rw [oF_dv (some_sub hx.2.1 hy.2.1 hy.1) r]
  exact ⟨r, sub_rv hy.1 hx.2.1 hy.2.1 r.2.1 (dv_res (some_sub hx.2.1 hy.2.1 hy.1))⟩
theorem add_oB {n x y : Nat} (hx : Bd n x) (hy : Bd n y) (hn : n ≤ 900) : Bd (n + 2) (oF .add x y) ∧ nrS (rv x + rv y) (rv (oF .add x y)) := by
  have r := bd_add hx hy hn
  rw [oF_dv (some_add hx.2.1 hy.2.1) r]
  exact ⟨r, add_rv hx.2.1 hy.2.1 r.2.1 (dv_res (some_add hx.2.1 hy.2.1))⟩
theorem rg_bd {n x : Nat} (h : Bd n x) : Bd n (rgK .f64 x) := ⟨rg_ok x, rg_fin h.2.1, by
  have e := rg_av x
  have g := ab_rv (rgK .f64 x)
  rw [e, ab_pos (av_nn x)] at g
  rw [← g]; exact h.2.2⟩
theorem ns_q {e h q A : Rat} (he : 0 ≤ e) (he1 : e * 4 ≤ 1) (h0 : 0 ≤ h) (n : ns e h q A) : ab (q - A) ≤ 2 * (e * ab q) + 2 * h := by
  unfold ns at n
  have t : ab A ≤ ab q + ab (q - A) := by
    have := ab_add q (-(q - A))
    rw [ab_neg, show q + -(q - A) = A by grind] at this
    exact this
  have d0 := ab_nn (q - A)
  have m1 := rmul he1 d0
  have m2 := rmul t he
  have m3 := Rat.mul_nonneg he (ab_nn q)
  grind
/-- three factors, rounded twice -/
theorem prod3 {e h m p g f k M D : Rat} (he : 0 ≤ e) (he1 : e * 4096 ≤ 1) (h0 : 0 ≤ h) (hg : ab g ≤ D) (hD : 1 ≤ D) (hh : 8 * (D * h) ≤ e * M) (hM : ab (m * p * g) ≤ M) (n1 : ns e h (m * p) f) (n2 : ns e h (f * g) k) : ab (k - m * p * g) ≤ 8 * (e * M) := by
  have a1 := ns_q he (by grind) h0 n1
  have a2 := ns_q he (by grind) h0 n2
  have M0 : 0 ≤ M := Rat.le_trans (ab_nn _) hM
  have eM := Rat.mul_nonneg he M0
  have eMM := rmul he1 (Rat.mul_nonneg he M0)
  have g0 := ab_nn g
  -- f * g against m * p * g
  have b1 : ab (f * g - m * p * g) ≤ 2 * (e * M) + 2 * (D * h) := by
    rw [show f * g - m * p * g = (f - m * p) * g by grind, ab_mul]
    have c1 : ab (f - m * p) ≤ 2 * (e * ab (m * p)) + 2 * h := by
      rw [show f - m * p = -(m * p - f) by grind, ab_neg]; exact a1
    have c2 := Rat.mul_le_mul_of_nonneg_right c1 g0
    have c3 : ab (m * p) * ab g ≤ M := by rw [← ab_mul]; exact hM
    have c4 := rmul c3 he
    have c5 := rmul hg h0
    grind
  have b2 : ab (f * g) ≤ M + 2 * (e * M) + 2 * (D * h) := by
    have := ab_add (m * p * g) (f * g - m * p * g)
    rw [show m * p * g + (f * g - m * p * g) = f * g by grind] at this
    grind
  have b3 := rmul b2 he
  have b4 : h ≤ D * h := by have := Rat.mul_le_mul_of_nonneg_right hD h0; grind
  have Dh : 0 ≤ D * h := Rat.le_trans h0 b4
  have eDh := rmul he1 Dh
  have b5 : ab (f * g - k) ≤ 2 * (e * (M + 2 * (e * M) + 2 * (D * h))) + 2 * (D * h) := by grind
  have t1 := ab_two b1
  have t2 := ab_two b5
  refine ab_of ?_ ?_ <;> grind
theorem ep_pos : (0 : Rat) ≤ epR := by decide +kernel
theorem ep_4096 : epR * 4096 ≤ 1 := by decide +kernel
theorem et_pos : (0 : Rat) ≤ etR := by decide +kernel
theorem tiny_zero {r : Nat} (h : nrS 0 (rv r)) : rv r = 0 := by
  unfold nrS at h
  rw [show (0 : Rat) - rv r = -rv r by grind, ab_neg] at h
  rw [rv_sv] at h ⊢
  have e : ab ((svK .f64 r : Rat) / 2 ^ 1074) = (((svK .f64 r).natAbs : Nat) : Rat) / 2 ^ 1074 := by
    by_cases g : svK .f64 r < 0
    · rw [cast_neg g, show -((svK .f64 r).natAbs : Rat) / 2 ^ 1074 = -(((svK .f64 r).natAbs : Rat) / 2 ^ 1074) by grind, ab_neg, ab_pos]
      rw [Rat.div_def]; exact Rat.mul_nonneg (by exact_mod_cast Nat.zero_le _) (by decide +kernel)
    · rw [cast_pos g, ab_pos]
      rw [Rat.div_def]; exact Rat.mul_nonneg (by exact_mod_cast Nat.zero_le _) (by decide +kernel)
  rw [e] at h
  have hz : (svK .f64 r).natAbs = 0 := by
    rcases Nat.eq_zero_or_pos (svK .f64 r).natAbs with g | g
    · exact g
    · exfalso
      have g1 : (1 : Rat) ≤ ((svK .f64 r).natAbs : Rat) := by exact_mod_cast g
      have c : etR * 2 ^ 1074 = 1 / 2 := by decide +kernel
      have c2 : epR ≤ 1 / 4 := by decide +kernel
      have m := rmul h (c := 2 ^ 1074) (by decide +kernel)
      generalize ((svK .f64 r).natAbs : Rat) = z at *
      have d : (2 : Rat) ^ 1074 * (z / 2 ^ 1074) = z := by
        rw [Rat.div_def, ← Rat.mul_assoc, Rat.mul_comm (2 ^ 1074) z, Rat.mul_assoc, Rat.mul_inv_cancel _ (by decide +kernel), Rat.mul_one]
      generalize hT : (2 : Rat) ^ 1074 = T at *
      generalize z / T = y at *
      have m2 : T * (epR * y + etR) = epR * (T * y) + etR * T := by grind
      rw [m2, d, c] at m
      have m3 := Rat.mul_le_mul_of_nonneg_right c2 (show (0 : Rat) ≤ z by grind)
      grind
  have : svK .f64 r = 0 := by omega
  rw [this]
  decide +kernel
theorem mul_z {m n x y : Nat} (hx : Bd m x) (hy : Bd n y) (hn : m + n ≤ 900) (h : rv x * rv y = 0) : rv (oF .mul x y) = 0 := by
  have g := (mul_o hx hy hn).2
  rw [h] at g
  exact tiny_zero g
theorem add_z {n x y : Nat} (hx : Bd n x) (hy : Bd n y) (hn : n ≤ 900) (h : rv x + rv y = 0) : rv (oF .add x y) = 0 := by
  have g := (add_oB hx hy hn).2
  rw [h] at g
  exact tiny_zero g
theorem sub_z {n x y : Nat} (hx : Bd n x) (hy : Bd n y) (hn : n ≤ 900) (h : rv x - rv y = 0) : rv (oF .sub x y) = 0 := by
  have g := (sub_oB hx hy hn).2
  rw [h] at g
  exact tiny_zero g
theorem nr_le {d r : Nat} (hd : finK .f64 d = true) (hr : finK .f64 r = true) (h : av d ≤ rv r) : leK .f64 (rgK .f64 d) r = true :=
  (le_rv (fin_nan (rg_fin hd)) (fin_nan hr)).2 (by rw [rg_av]; exact h)
theorem nan_l9 {op : BinOp} {x y r : Nat} (ho : op = .add ∨ op = .mul) (hx : nanK .f64 x = true) (h : resK op .f64 x y r) : nanK .f64 r = true := by
  rcases h.2 with e | e
  · exfalso
    have hr := read_nan _ (okF .f64) x hx
    rcases ho with rfl | rfl
    · have : floatBits .add .f64 x y = none := by
        show FloatKind.f64.format.add x y = none
        unfold Format.add; rw [hr]; cases FloatKind.f64.format.read y <;> rfl
      rw [this] at e; cases e
    · have : floatBits .mul .f64 x y = none := by
        show FloatKind.f64.format.mul x y = none
        unfold Format.mul; rw [hr]; cases FloatKind.f64.format.read y <;> rfl
      rw [this] at e; cases e
  · exact e.2
theorem nan_r9 {op : BinOp} {x y r : Nat} (ho : op = .add ∨ op = .mul) (hy : nanK .f64 y = true) (h : resK op .f64 x y r) : nanK .f64 r = true := by
  rcases h.2 with e | e
  · exfalso
    have hr := read_nan _ (okF .f64) y hy
    rcases ho with rfl | rfl
    · have : floatBits .add .f64 x y = none := by
        show FloatKind.f64.format.add x y = none
        unfold Format.add; rw [hr]; cases FloatKind.f64.format.read x <;> rfl
      rw [this] at e; cases e
    · have : floatBits .mul .f64 x y = none := by
        show FloatKind.f64.format.mul x y = none
        unfold Format.mul; rw [hr]; cases FloatKind.f64.format.read x <;> rfl
      rw [this] at e; cases e
  · exact e.2
def Zn (z : Nat) : Prop := rgK .f64 z = 0 ∨ nanK .f64 z = true
theorem zn_fin {z : Nat} (hz : rgK .f64 z = 0) : finK .f64 z = true := by unfold finK; rw [hz]; decide +kernel
theorem zn_mul {z x r : Nat} (hz : rgK .f64 z = 0) (h : resK .mul .f64 z x r) : Zn r := by
  cases hf : finK .f64 x
  · right
    cases hn : nanK .f64 x
    · rcases h.2 with e | e
      · exfalso
        have h1 := read_inf _ (okF .f64) x (fin_inf hf hn)
        obtain ⟨m', p', e', hv'⟩ := read_num FloatKind.f64.format z (by rw [show rg FloatKind.f64.format z = 0 from hz]; exact infK_pos .f64)
        have hm' : m' = 0 := by
          rw [show rg FloatKind.f64.format z = 0 from hz, vl_zero] at hv'
          rcases Nat.mul_eq_zero.1 hv' with h | h
          · exact h
          · exact absurd h (Nat.ne_of_gt (Nat.two_pow_pos _))
        subst hm'
        have : floatBits .mul .f64 z x = none := by
          show FloatKind.f64.format.mul z x = none
          unfold Format.mul; rw [h1, e']; simp [Datum.product]
        rw [this] at e; cases e
      · exact e.2
    · exact nan_r9 (.inr rfl) hn h
  · left
    have hx : rgK .f64 x < infK .f64 := of_decide_eq_true hf
    obtain ⟨m, p, e, hv⟩ := read_num FloatKind.f64.format x hx
    obtain ⟨m', p', e', hv'⟩ := read_num FloatKind.f64.format z (by rw [show rg FloatKind.f64.format z = 0 from hz]; exact infK_pos .f64)
    have hm' : m' = 0 := by
      rw [show rg FloatKind.f64.format z = 0 from hz, vl_zero] at hv'
      rcases Nat.mul_eq_zero.1 hv' with h | h
      · exact h
      · exact absurd h (Nat.ne_of_gt (Nat.two_pow_pos _))
    subst hm'
    have key : ∃ s, floatBits .mul .f64 z x = some (FloatKind.f64.format.word s 0) := by
      show ∃ s, (((FloatKind.f64.format.read z).product (FloatKind.f64.format.read x)).map _) = _
      rw [e, e']
      simp only [Datum.product, Option.map_some, Format.write, Nat.zero_mul]
      exact ⟨_, by unfold Format.nearest; rw [if_pos rfl]⟩
    obtain ⟨s, hs⟩ := key
    have hr : r = FloatKind.f64.format.word s 0 := by
      rcases h.2 with h | ⟨h, _⟩
      · rw [hs] at h; exact (Option.some.inj h).symm
      · rw [hs] at h; cases h
    rw [hr]
    exact rgK_word .f64 s 0 (Nat.zero_le _)
theorem zn_add {a b r : Nat} (ha : Zn a) (hb : Zn b) (h : resK .add .f64 a b r) : Zn r := by
  rcases ha with ha | ha
  · rcases hb with hb | hb
    · left
      have g := add_nought .f64 a b r (zn_fin ha) hb h
      unfold eqK at g
      simp only [Bool.and_eq_true, Bool.not_eq_true', decide_eq_true_eq] at g
      have h1 := g.2
      rw [woK_eq, woK_eq, ha] at h1
      cases ngK .f64 r <;> cases ngK .f64 a <;> simp at h1 <;> omega
    · exact .inr (nan_r9 (.inl rfl) hb h)
  · exact .inr (nan_l9 (.inl rfl) ha h)
theorem zn_bits {r : Nat} (h : Zn r) : Zn (bitsK r) := by
  cases hn : nanK .f64 r
  · rw [bits_num hn]; exact h
  · rw [bits_nan hn]; exact .inr none_nan
theorem zn_mulF {z x : Nat} (hz : rgK .f64 z = 0) : Zn (oF .mul z x) := zn_bits (zn_mul hz (res_o .mul z x))
theorem zn_addF {a b : Nat} (ha : Zn a) (hb : Zn b) : Zn (oF .add a b) := zn_bits (zn_add ha hb (res_o .add a b))
theorem zn_not {z : Nat} (h : Zn z) : ltK .f64 0 z = false := by
  unfold ltK
  rcases h with h | h
  · rw [show woK .f64 0 = 0 by decide +kernel, woK_eq, h]; simp
  · rw [h]; simp
/-- what can't be moved weighs nothing in a row -/
theorem mv_zero {m : Nat} (h : weB m = true) (g : ltK .f64 0 m = false) : rgK .f64 (bitsK m) = 0 := by
  have hn : nanK .f64 m = false := by
    unfold weB leK at h
    simp only [Bool.and_eq_true, Bool.not_eq_true'] at h
    exact h.1.1.2
  rw [bits_num hn]
  have e := we_ne h
  rw [g] at e
  rw [eqK_nought] at e
  exact of_decide_eq_true e
theorem wt_none {T : RD} {a b : SD} (h1 : stB a = true) (h2 : stB b = true) (n1 : ltK .f64 0 a.sm = false) (n2 : ltK .f64 0 a.si = false) (n3 : ltK .f64 0 b.sm = false) (n4 : ltK .f64 0 b.si = false) : ltK .f64 0 (wtF T a b) = false := by
  unfold stB at h1 h2
  rw [Bool.and_eq_true] at h1 h2
  unfold wtF
  exact zn_not (zn_addF (zn_addF (zn_addF (zn_mulF (mv_zero h1.1 n1)) (zn_mulF (mv_zero h1.2 n2))) (zn_mulF (mv_zero h2.1 n3))) (zn_mulF (mv_zero h2.2 n4)))
end Go.Proofs.Ytfohggiehbplkaa
