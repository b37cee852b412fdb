/-
  Plain facts on floats, more: rounding to the nearest rung, sums and products of finite floats, signs turned. No program is named here.
-/
import Derived.Test.YtoofbfjlgablkaaFlt
namespace Go.Proofs.Ytoofbfjlgablkaa
open Ieee Go.RowKit
set_option linter.unusedSimpArgs false
set_option linter.unusedVariables false

/-! ### Rounding: what the nearest rung is -/
theorem cut_neg (s : Bool) (n d : Nat) : Toward.even.cut s n d = Toward.even.cut false n d := rfl

theorem cut_spec (n d : Nat) : 2 * Toward.even.cut false n d * 2 ^ d ≤ 2 * n + 2 ^ d ∧ 2 * n ≤ 2 * Toward.even.cut false n d * 2 ^ d + 2 ^ d ∧
    (Toward.even.cut false n d % 2 = 1 → 2 * Toward.even.cut false n d * 2 ^ d < 2 * n + 2 ^ d ∧ 2 * n < 2 * Toward.even.cut false n d * 2 ^ d + 2 ^ d) := by
  unfold Toward.cut
  simp only [Nat.one_shiftLeft]
  by_cases hd : d ≤ n.log2 + 2
  · rw [Nat.min_eq_left hd]
    have hp := Nat.two_pow_pos d
    have h1 := Nat.div_add_mod n (2 ^ d)
    have h2 := Nat.mod_lt n hp
    generalize n / 2 ^ d = low at *
    generalize n % 2 ^ d = rest at *
    generalize 2 ^ d = G at *
    by_cases c1 : G < 2 * rest
    · have e : (decide (G < 2 * rest) || (G == 2 * rest && low % 2 == 1)).toNat = 1 := by simp [c1]
      rw [e]
      have e2 : 2 * (low + 1) * G = 2 * (G * low) + 2 * G := by rw [Nat.mul_comm G low, Nat.mul_assoc, Nat.add_mul]; omega
      rw [e2]; omega
    · by_cases c2 : G = 2 * rest
      · by_cases c3 : low % 2 = 1
        · have e : (decide (G < 2 * rest) || (G == 2 * rest && low % 2 == 1)).toNat = 1 := by simp [c2, c3]
          rw [e]
          have e2 : 2 * (low + 1) * G = 2 * (G * low) + 2 * G := by rw [Nat.mul_comm G low, Nat.mul_assoc, Nat.add_mul]; omega
          rw [e2]; omega
        · have e : (decide (G < 2 * rest) || (G == 2 * rest && low % 2 == 1)).toNat = 0 := by simp [c1, c3]
          rw [e]
          have e2 : 2 * (low + 0) * G = 2 * (G * low) := by rw [Nat.mul_comm G low, Nat.mul_assoc]; rfl
          rw [e2]; omega
      · have e : (decide (G < 2 * rest) || (G == 2 * rest && low % 2 == 1)).toNat = 0 := by
          have : (G == 2 * rest) = false := by simpa using c2
          simp [c1, this]
        rw [e]
        have e2 : 2 * (low + 0) * G = 2 * (G * low) := by rw [Nat.mul_comm G low, Nat.mul_assoc]; rfl
        rw [e2]; omega
  · rw [Nat.min_eq_right (by omega)]
    have hl := lt_log2 n
    have h3 : 2 ^ (n.log2 + 2) ≤ 2 ^ d := Nat.pow_le_pow_right (by omega) (by omega)
    have h4 : 2 ^ (n.log2 + 2) = 2 * 2 ^ (n.log2 + 1) := by rw [Nat.pow_succ]; omega
    have hlt : n < 2 ^ (n.log2 + 2) := by omega
    rw [Nat.div_eq_of_lt hlt, Nat.mod_eq_of_lt hlt]
    have e : (decide (2 ^ (n.log2 + 2) < 2 * n) || (2 ^ (n.log2 + 2) == 2 * n && 0 % 2 == 1)).toNat = 0 := by
      have : ¬ 2 ^ (n.log2 + 2) < 2 * n := by omega
      simp [this]
    rw [e]
    omega

/-- the rung nearest to m / 2 ^ t least places, infinity left out of account -/
def rr (f : Format) (m t : Nat) : Nat := (m.log2 - (t + f.fractionBits)) * f.binade + Toward.even.cut false m (t + (m.log2 - (t + f.fractionBits)))

theorem rr_zero (f : Format) (t : Nat) : rr f 0 t = 0 := by
  unfold rr Toward.cut
  simp

theorem nearest_rr (f : Format) (s : Bool) (m t : Nat) : f.nearest s m (f.leastPlace - (t : Nat)) = f.word s (min (rr f m t) f.infRung) := by
  by_cases hm : m = 0
  · subst hm; rw [rr_zero]; unfold Format.nearest; simp
  · unfold Format.nearest
    rw [if_neg hm]
    simp only []
    have hlast : max (f.leastPlace - (t : Int) + (m.log2 : Int) - (f.fractionBits : Int)) f.leastPlace = f.leastPlace + ((m.log2 - (t + f.fractionBits) : Nat) : Int) := by omega
    rw [hlast]
    generalize he : m.log2 - (t + f.fractionBits) = e
    have e0 : (f.leastPlace - (t : Int) - (f.leastPlace + (e : Int))).toNat = 0 := by omega
    have e1 : (f.leastPlace + (e : Int) - (f.leastPlace - (t : Int))).toNat = t + e := by omega
    have e2 : (f.leastPlace + (e : Int) - f.leastPlace).toNat = e := by omega
    rw [e0, e1, e2, Nat.shiftLeft_zero, cut_neg]
    unfold rr
    rw [he]

/-- to write a number in units of one place or of another: the same -/
theorem nearest_shift (f : Format) (s : Bool) (m q : Nat) (p : Int) : f.nearest s m (p + (q : Nat)) = f.nearest s (m * 2 ^ q) p := by
  by_cases hm : m = 0
  · subst hm; unfold Format.nearest; simp
  · have hm' : m * 2 ^ q ≠ 0 := Nat.mul_ne_zero hm (Nat.ne_of_gt (Nat.two_pow_pos _))
    unfold Format.nearest
    rw [if_neg hm, if_neg hm']
    simp only []
    rw [log2_mul_pow m q hm]
    have hlast : max (p + ((m.log2 + q : Nat) : Int) - (f.fractionBits : Int)) f.leastPlace = max (p + (q : Int) + (m.log2 : Int) - (f.fractionBits : Int)) f.leastPlace := by omega
    rw [hlast]
    generalize max (p + (q : Int) + (m.log2 : Int) - (f.fractionBits : Int)) f.leastPlace = last
    congr 1
    congr 1
    congr 1
    by_cases h1 : last ≤ p
    · have e2 : (p + (q : Int) - last).toNat = q + (p - last).toNat := by omega
      have e3 : (last - (p + (q : Int))).toNat = 0 := by omega
      have e4 : (last - p).toNat = 0 := by omega
      rw [e2, e3, e4, cut_none, cut_none, Nat.shiftLeft_eq, Nat.shiftLeft_eq, Nat.pow_add, Nat.mul_assoc]
    · by_cases h2 : last ≤ p + (q : Int)
      · have e3 : (last - (p + (q : Int))).toNat = 0 := by omega
        have e4 : (p - last).toNat = 0 := by omega
        rw [e3, e4, cut_none, Nat.shiftLeft_zero, Nat.shiftLeft_eq]
        have e5 : m * 2 ^ q = m * 2 ^ (p + (q : Int) - last).toNat * 2 ^ (last - p).toNat := by rw [Nat.mul_assoc, ← Nat.pow_add]; congr 2; omega
        rw [e5, cut_exact]
      · have e2 : (p + (q : Int) - last).toNat = 0 := by omega
        have e4 : (p - last).toNat = 0 := by omega
        have e5 : (last - p).toNat = (last - (p + (q : Int))).toNat + q := by omega
        rw [e2, e4, e5, Nat.shiftLeft_zero, Nat.shiftLeft_zero, cut_scale _ _ _ _ hm]

/-- numbers of rungs, up to the next binade's first -/
theorem vl_mk2 (f : Format) (e K : Nat) (h1 : K ≤ 2 * f.binade) (h2 : 0 < e → f.binade ≤ K) : vl f (e * f.binade + K) = K * 2 ^ e := by
  by_cases h : K < 2 * f.binade
  · exact vl_mk f e K h h2
  · have hB := binade_pos f
    have hK : K = 2 * f.binade := by omega
    subst hK
    have e1 : e * f.binade + 2 * f.binade = (e + 1) * f.binade + f.binade := by rw [Nat.add_mul]; omega
    rw [e1, vl_mk f (e + 1) f.binade (by omega) (fun _ => Nat.le_refl _), Nat.pow_succ]
    rw [Nat.mul_comm 2 f.binade, Nat.mul_assoc, Nat.mul_comm 2 (2 ^ e)]

theorem rr_arith (V : Nat → Nat) (B X Y e c m : Nat) (hB : 0 < B) (hB2 : B % 2 = 0) (hX : 0 < X) (hY : 0 < Y)
    (hV : ∀ K, K ≤ 2 * B → (0 < e → B ≤ K) → V (e * B + K) = K * Y) (hM : ∀ r, V r < V (r + 1))
    (s1 : 2 * c * (X * Y) ≤ 2 * m + X * Y) (s2 : 2 * m ≤ 2 * c * (X * Y) + X * Y) (s3 : c % 2 = 1 → 2 * c * (X * Y) < 2 * m + X * Y ∧ 2 * m < 2 * c * (X * Y) + X * Y)
    (hup : m < 2 * B * Y * X) (hdn : 0 < e → B * Y * X ≤ m) :
    (e * B + c = 0 ∨ (V (e * B + c - 1) + V (e * B + c)) * X ≤ 2 * m) ∧ 2 * m ≤ (V (e * B + c) + V (e * B + c + 1)) * X ∧
    ((e * B + c) % 2 = 1 → (V (e * B + c - 1) + V (e * B + c)) * X < 2 * m ∧ 2 * m < (V (e * B + c) + V (e * B + c + 1)) * X) := by
  have hXYp : 0 < X * Y := Nat.mul_pos hX hY
  have c2 : c ≤ 2 * B := by
    apply Decidable.byContradiction
    intro h
    have h1 : 2 * (2 * B + 1) * (X * Y) ≤ 2 * c * (X * Y) := Nat.mul_le_mul_right _ (by omega)
    have h2 : 2 * (2 * B + 1) * (X * Y) = 2 * (2 * B * Y * X) + 2 * (X * Y) := by grind
    omega
  have c1 : 0 < e → B ≤ c := by
    intro h
    apply Decidable.byContradiction
    intro g
    have h0 := hdn h
    have h1 : 2 * c * (X * Y) ≤ 2 * (B - 1) * (X * Y) := Nat.mul_le_mul_right _ (by omega)
    have h2 : 2 * (B - 1) * (X * Y) + 2 * (X * Y) = 2 * (B * Y * X) := by
      obtain ⟨b, rfl⟩ : ∃ b, B = b + 1 := ⟨B - 1, by omega⟩
      simp only [Nat.add_sub_cancel]
      grind
    omega
  have hpar : (e * B + c) % 2 = c % 2 := by
    rw [Nat.add_mod, Nat.mul_mod, hB2]; simp
  have v0 := hV c c2 c1
  -- upper
  have hU : 2 * m ≤ (V (e * B + c) + V (e * B + c + 1)) * X ∧ (c % 2 = 1 → 2 * m < (V (e * B + c) + V (e * B + c + 1)) * X) := by
    by_cases h : c < 2 * B
    · have v1 := hV (c + 1) (by omega) (fun h => by have := c1 h; omega)
      rw [← Nat.add_assoc] at v1
      rw [v0, v1]
      have e1 : (c * Y + (c + 1) * Y) * X = 2 * c * (X * Y) + X * Y := by grind
      rw [e1]
      exact ⟨s2, fun h => (s3 h).2⟩
    · have hc : c = 2 * B := by omega
      have h1 := hM (e * B + c)
      have h2 : (V (e * B + c) + V (e * B + c)) * X < (V (e * B + c) + V (e * B + c + 1)) * X := Nat.mul_lt_mul_of_pos_right (by omega) hX
      have h3 : (V (e * B + c) + V (e * B + c)) * X = 2 * (2 * B * Y * X) := by rw [v0, hc]; grind
      omega
  have hL : (e * B + c = 0 ∨ (V (e * B + c - 1) + V (e * B + c)) * X ≤ 2 * m) ∧ (c % 2 = 1 → (V (e * B + c - 1) + V (e * B + c)) * X < 2 * m) := by
    by_cases hz : c = 0
    · have he : e = 0 := by
        apply Decidable.byContradiction
        intro h
        have := c1 (by omega)
        omega
      subst hz; subst he
      exact ⟨.inl (by simp), by simp⟩
    · by_cases h : 0 < e ∧ c = B
      · have h0 := hdn h.1
        obtain ⟨r, hr⟩ : ∃ r, e * B + c = r + 1 := ⟨e * B + c - 1, by omega⟩
        have h1 := hM r
        have h2 : (V r + V (r + 1)) * X < (V (r + 1) + V (r + 1)) * X := Nat.mul_lt_mul_of_pos_right (by omega) hX
        have h3 : (V (r + 1) + V (r + 1)) * X = 2 * (B * Y * X) := by rw [← hr, v0, h.2]; grind
        rw [hr, Nat.add_sub_cancel]
        exact ⟨.inr (by omega), fun _ => by omega⟩
      · obtain ⟨b, rfl⟩ : ∃ b, c = b + 1 := ⟨c - 1, by omega⟩
        have v1 := hV b (by omega) (fun h' => by have := c1 h'; omega)
        have e0 : e * B + (b + 1) - 1 = e * B + b := by omega
        rw [e0, v0, v1]
        have e1 : (b * Y + (b + 1) * Y) * X + X * Y = 2 * (b + 1) * (X * Y) := by grind
        exact ⟨.inr (by omega), fun h => by have := (s3 h).1; omega⟩
  exact ⟨hL.1, hU.1, fun h => by rw [hpar] at h; exact ⟨hL.2 h, hU.2 h⟩⟩

theorem rr_spec (f : Format) (hf : 1 ≤ f.fractionBits) (m t : Nat) :
    (rr f m t = 0 ∨ (vl f (rr f m t - 1) + vl f (rr f m t)) * 2 ^ t ≤ 2 * m) ∧ 2 * m ≤ (vl f (rr f m t) + vl f (rr f m t + 1)) * 2 ^ t ∧
    (rr f m t % 2 = 1 → (vl f (rr f m t - 1) + vl f (rr f m t)) * 2 ^ t < 2 * m ∧ 2 * m < (vl f (rr f m t) + vl f (rr f m t + 1)) * 2 ^ t) := by
  by_cases hm : m = 0
  · subst hm
    rw [rr_zero]
    refine ⟨.inl rfl, by simp, by simp⟩
  have hB := binade_pos f
  obtain ⟨s1, s2, s3⟩ := cut_spec m (t + (m.log2 - (t + f.fractionBits)))
  have hlo := log2_le m hm
  have hhi := lt_log2 m
  unfold rr
  generalize hc : Toward.even.cut false m (t + (m.log2 - (t + f.fractionBits))) = c at *
  have hBB : f.binade = 2 ^ f.fractionBits := rfl
  have hB2 : f.binade % 2 = 0 := by
    obtain ⟨k, hk⟩ : ∃ k, f.fractionBits = k + 1 := ⟨f.fractionBits - 1, by omega⟩
    rw [hBB, hk, Nat.pow_succ]; omega
  generalize he : m.log2 - (t + f.fractionBits) = e at *
  rw [show 2 ^ (t + e) = 2 ^ t * 2 ^ e from Nat.pow_add _ _ _] at s1 s2 s3
  refine rr_arith (vl f) f.binade (2 ^ t) (2 ^ e) e c m hB hB2 (Nat.two_pow_pos t) (Nat.two_pow_pos e) (fun K h1 h2 => vl_mk2 f e K h1 h2) (vl_succ f) s1 s2 s3 ?_ ?_
  · have : m.log2 + 1 ≤ 1 + f.fractionBits + e + t := by omega
    have h := Nat.lt_of_lt_of_le hhi (Nat.pow_le_pow_right (by omega) this)
    rw [Nat.pow_add, Nat.pow_add, Nat.pow_add] at h
    rw [hBB]; exact h
  · intro h
    have : m.log2 = f.fractionBits + e + t := by omega
    rw [this, Nat.pow_add, Nat.pow_add] at hlo
    rw [hBB]; exact hlo

theorem vl_le (f : Format) {r s : Nat} (h : r ≤ s) : vl f r ≤ vl f s := by
  rcases Nat.lt_or_eq_of_le h with h | h
  · exact Nat.le_of_lt (vl_lt f h)
  · rw [h]; exact Nat.le_refl _

theorem rr_mono (f : Format) (hf : 1 ≤ f.fractionBits) {m n : Nat} (t : Nat) (h : m ≤ n) : rr f m t ≤ rr f n t := by
  apply Decidable.byContradiction
  intro g
  have g : rr f n t < rr f m t := by omega
  obtain ⟨a1, _, a3⟩ := rr_spec f hf m t
  obtain ⟨_, b2, b3⟩ := rr_spec f hf n t
  generalize rr f m t = r at *
  generalize rr f n t = s at *
  have hX := Nat.two_pow_pos t
  have h1 : vl f s ≤ vl f (r - 1) := vl_le f (by omega)
  have h2 : vl f (s + 1) ≤ vl f r := vl_le f (by omega)
  have h3 : (vl f s + vl f (s + 1)) * 2 ^ t ≤ (vl f (r - 1) + vl f r) * 2 ^ t := Nat.mul_le_mul_right _ (by omega)
  have a1 := a1.resolve_left (by omega)
  by_cases hr : r % 2 = 1
  · have := (a3 hr).1; omega
  · by_cases hs : s % 2 = 1
    · have := (b3 hs).2; omega
    · have h4 : s < r - 1 := by omega
      have h5 := vl_lt f h4
      have h6 : (vl f s + vl f (s + 1)) * 2 ^ t < (vl f (r - 1) + vl f r) * 2 ^ t := Nat.mul_lt_mul_of_pos_right (by omega) hX
      omega

theorem rr_exact (f : Format) (hf : 1 ≤ f.fractionBits) (r t : Nat) : rr f (vl f r * 2 ^ t) t = r := by
  obtain ⟨a1, a2, _⟩ := rr_spec f hf (vl f r * 2 ^ t) t
  generalize rr f (vl f r * 2 ^ t) t = s at *
  have hX := Nat.two_pow_pos t
  apply Decidable.byContradiction
  intro g
  rcases Nat.lt_or_gt_of_ne g with g | g
  · have h1 := vl_lt f g
    have h2 : vl f (s + 1) ≤ vl f r := vl_le f (by omega)
    have h3 : (vl f s + vl f (s + 1)) * 2 ^ t < (vl f r + vl f r) * 2 ^ t := Nat.mul_lt_mul_of_pos_right (by omega) hX
    have h4 : (vl f r + vl f r) * 2 ^ t = 2 * (vl f r * 2 ^ t) := by grind
    omega
  · have a1 := a1.resolve_left (by omega)
    have h1 := vl_lt f g
    have h2 : vl f r ≤ vl f (s - 1) := vl_le f (by omega)
    have h3 : (vl f r + vl f r) * 2 ^ t < (vl f (s - 1) + vl f s) * 2 ^ t := Nat.mul_lt_mul_of_pos_right (by omega) hX
    have h4 : (vl f r + vl f r) * 2 ^ t = 2 * (vl f r * 2 ^ t) := by grind
    omega
end Go.Proofs.Ytoofbfjlgablkaa
namespace Go.Proofs.Ytoofbfjlgablkaa
open Ieee Go.RowKit
set_option linter.unusedSimpArgs false
set_option linter.unusedVariables false

/-! ### The operations on finite floats, and on floats with their signs turned -/
def svK (k : FloatKind) (x : Nat) : Int := if ngK k x then -(vl k.format (rgK k x) : Int) else (vl k.format (rgK k x) : Int)

theorem least64 : FloatKind.f64.format.leastPlace = -1074 := by decide +kernel

theorem read_neg (k : FloatKind) (x : Nat) (h : okK k x) : k.format.read (Op.negFloat k x) = (k.format.read x).opposite := by
  obtain ⟨h1, h2, _⟩ := neg_facts k x h
  have h1 : Op.negFloat k x % k.format.signWeight = x % k.format.signWeight := h1
  have h2 : (Op.negFloat k x / k.format.signWeight % 2 == 1) = !(x / k.format.signWeight % 2 == 1) := h2
  unfold Format.read
  simp only []
  rw [h1, h2]
  split
  · rfl
  · split
    · rfl
    · split <;> rfl

theorem word_neg (k : FloatKind) (s : Bool) (r : Nat) (h : r < k.format.signWeight) : Op.negFloat k (k.format.word s r) = k.format.word (!s) r := by
  have hw : okK k (k.format.word s r) := by
    unfold okK; rw [width_two]; unfold Format.word; split <;> omega
  have hw' : okK k (k.format.word (!s) r) := by
    unfold okK; rw [width_two]; unfold Format.word; split <;> omega
  obtain ⟨h1, h2, h3⟩ := neg_facts k _ hw
  rw [same_iff k _ _ h3 hw', h2, h1]
  unfold rgK ngK
  rw [rg_word _ _ _ h, rg_word _ _ _ h, ng_word _ _ _ h, ng_word _ _ _ h]
  exact ⟨rfl, rfl⟩

theorem mul_neg_neg (k : FloatKind) (x y : Nat) (hx : okK k x) (hy : okK k y) : floatBits .mul k (Op.negFloat k x) (Op.negFloat k y) = floatBits .mul k x y := by
  show k.format.mul _ _ = k.format.mul _ _
  unfold Format.mul
  rw [read_neg k x hx, read_neg k y hy]
  congr 1
  cases k.format.read x <;> cases k.format.read y <;> simp [Datum.opposite, Datum.product]

theorem sub_is_add (k : FloatKind) (x y : Nat) (hy : okK k y) : floatBits .sub k x y = floatBits .add k x (Op.negFloat k y) := by
  show k.format.sub _ _ = k.format.add _ _
  unfold Format.sub Format.add
  rw [read_neg k y hy]

theorem nearest_le (f : Format) (s : Bool) (m : Nat) (p : Int) : ∃ r, r ≤ f.infRung ∧ ∀ s, f.nearest s m p = f.word s r := by
  by_cases hm : m = 0
  · exact ⟨0, Nat.zero_le _, fun s => by unfold Format.nearest; rw [if_pos hm]⟩
  · refine ⟨min ((max (p + (m.log2 : Int) - (f.fractionBits : Int)) f.leastPlace - f.leastPlace).toNat * f.binade + Toward.even.cut false (m <<< (p - max (p + (m.log2 : Int) - (f.fractionBits : Int)) f.leastPlace).toNat) (max (p + (m.log2 : Int) - (f.fractionBits : Int)) f.leastPlace - p).toNat) f.infRung, Nat.min_le_right _ _, fun s => ?_⟩
    unfold Format.nearest
    rw [if_neg hm]
    rfl

/-- a product with a sign turned -/
theorem mul_neg_l (k : FloatKind) (x y : Nat) (hx : okK k x) : floatBits .mul k (Op.negFloat k x) y = (floatBits .mul k x y).map (Op.negFloat k) := by
  show k.format.mul _ _ = (k.format.mul _ _).map _
  unfold Format.mul
  rw [read_neg k x hx, Option.map_map]
  have hi : k.format.infRung < k.format.signWeight := inf_lt_sign _
  have hinf : ∀ s, Op.negFloat k (k.format.write (.infinity s)) = k.format.write (.infinity (!s)) := fun s => word_neg k s _ hi
  have hnum : ∀ s m p, Op.negFloat k (k.format.write (.number s m p)) = k.format.write (.number (!s) m p) := fun s m p => by
    obtain ⟨r, hr, h⟩ := nearest_le k.format s m p
    show Op.negFloat k (k.format.nearest s m p) = k.format.nearest (!s) m p
    rw [h, h]
    exact word_neg k s r (by omega)
  cases k.format.read x <;> cases k.format.read y <;> simp only [Datum.opposite, Datum.product, Option.map_some, Option.map_none, Function.comp] <;> (try rfl)
  · rw [hnum]; simp
  · split
    · rfl
    · simp [hinf, Bool.xor_comm]
  · split
    · rfl
    · simp [hinf]
  · simp [hinf]

theorem mul_spec (x y : Nat) (hx : finK .f64 x = true) (hy : finK .f64 y = true) :
    floatBits .mul .f64 x y = some (FloatKind.f64.format.word (ngK .f64 x ^^ ngK .f64 y) (min (rr FloatKind.f64.format (vl FloatKind.f64.format (rgK .f64 x) * vl FloatKind.f64.format (rgK .f64 y)) 1074) (infK .f64))) := by
  have hx : rgK .f64 x < infK .f64 := of_decide_eq_true hx
  have hy : rgK .f64 y < infK .f64 := of_decide_eq_true hy
  obtain ⟨m, p, e, hv⟩ := read_num FloatKind.f64.format x hx
  obtain ⟨n, q, e', hv'⟩ := read_num FloatKind.f64.format y hy
  show FloatKind.f64.format.mul _ _ = _
  unfold Format.mul
  rw [e, e']
  simp only [Datum.product, Option.map_some, Format.write]
  congr 1
  have e1 : FloatKind.f64.format.leastPlace + (p : Int) + (FloatKind.f64.format.leastPlace + (q : Int)) = FloatKind.f64.format.leastPlace - ((1074 : Nat) : Int) + ((p + q : Nat) : Int) := by rw [least64]; omega
  rw [e1, nearest_shift, nearest_rr]
  have e2 : m * n * 2 ^ (p + q) = vl FloatKind.f64.format (rgK .f64 x) * vl FloatKind.f64.format (rgK .f64 y) := by
    show _ = vl FloatKind.f64.format (rg FloatKind.f64.format x) * vl FloatKind.f64.format (rg FloatKind.f64.format y)
    rw [← hv, ← hv', Nat.pow_add]; grind
  rw [e2]
  rfl

theorem signed_sv (f : Format) (s : Bool) (m k v : Nat) (h : m * 2 ^ k = v) : signed s m k = if s then -(v : Int) else (v : Int) := by rw [signed_shift, h]

theorem add_spec (k : FloatKind) (x y : Nat) (hx : finK k x = true) (hy : finK k y = true) :
    floatBits .add k x y = some (k.format.word (if svK k x + svK k y = 0 then ngK k x && ngK k y else decide (svK k x + svK k y < 0)) (min (rr k.format (svK k x + svK k y).natAbs 0) (infK k))) := by
  have hx : rgK k x < infK k := of_decide_eq_true hx
  have hy : rgK k y < infK k := of_decide_eq_true hy
  obtain ⟨m, p, e, hv⟩ := read_num k.format x hx
  obtain ⟨n, q, e', hv'⟩ := read_num k.format y hy
  show k.format.add _ _ = _
  unfold Format.add
  rw [e, e']
  simp only [Datum.sum, Option.map_some, Format.write]
  congr 1
  have hb : min (k.format.leastPlace + (p : Int)) (k.format.leastPlace + (q : Int)) = k.format.leastPlace + ((min p q : Nat) : Int) := by omega
  rw [hb]
  have e1 : (k.format.leastPlace + (p : Int) - (k.format.leastPlace + ((min p q : Nat) : Int))).toNat = p - min p q := by omega
  have e2 : (k.format.leastPlace + (q : Int) - (k.format.leastPlace + ((min p q : Nat) : Int))).toNat = q - min p q := by omega
  rw [e1, e2]
  generalize hT : signed (ng k.format x) m (p - min p q) + signed (ng k.format y) n (q - min p q) = T
  have hS : svK k x + svK k y = T * 2 ^ (min p q) := by
    rw [← hT, Int.add_mul, ← signed_scale, ← signed_scale, show p - min p q + min p q = p by omega, show q - min p q + min p q = q by omega]
    rw [signed_shift, signed_shift]
    rw [hv, hv']
    rfl
  have hP : (0 : Int) < 2 ^ (min p q) := Int.pow_pos (by omega)
  have z : (svK k x + svK k y = 0) ↔ T = 0 := by
    rw [hS]
    constructor
    · intro h; rcases Int.mul_eq_zero.1 h with h | h
      · exact h
      · omega
    · intro h; rw [h]; simp
  have l : (svK k x + svK k y < 0) ↔ T < 0 := by
    rw [hS]
    constructor
    · intro h
      apply Decidable.byContradiction
      intro g
      have := Int.mul_nonneg (show 0 ≤ T by omega) (Int.le_of_lt hP)
      omega
    · intro h; exact Int.mul_neg_of_neg_of_pos h hP
  rw [nearest_shift]
  have e3 := nearest_rr k.format (if T = 0 then ng k.format x && ng k.format y else decide (T < 0)) (T.natAbs * 2 ^ min p q) 0
  have e4 : k.format.leastPlace - ((0 : Nat) : Int) = k.format.leastPlace := by omega
  rw [e4] at e3
  rw [e3]
  have e5 : T.natAbs * 2 ^ min p q = (svK k x + svK k y).natAbs := by
    rw [hS, Int.natAbs_mul, Int.natAbs_pow]
    rfl
  rw [e5]
  congr 1
  by_cases hz : T = 0
  · rw [if_pos hz, if_pos (z.2 hz)]; rfl
  · rw [if_neg hz, if_neg (fun h => hz (z.1 h))]
    rw [decide_eq_decide]
    exact l.symm
end Go.Proofs.Ytoofbfjlgablkaa
namespace Go.Proofs.Ytoofbfjlgablkaa
open Ieee Go.RowKit
set_option linter.unusedSimpArgs false
set_option linter.unusedVariables false

/-! ### What follows of products in either order, of ways turned round -/
theorem dot_comm {ax ay bx b_y r : Nat} (h : DotR ax ay bx b_y r) : DotR bx b_y ax ay r := by
  obtain ⟨p, q, h1, h2, h3⟩ := h
  exact ⟨p, q, res_mul_comm h1, res_mul_comm h2, h3⟩
theorem dot_comm_sm {ax ay bx b_y r r' : Nat} (h : DotR ax ay bx b_y r) (g : DotR bx b_y ax ay r') : smK .f64 r r' = true := h.sm (dot_comm g)
theorem res_neg_neg {x r : Nat} (hx : okK .f64 x) (h : resK .mul .f64 (Op.negFloat .f64 x) (Op.negFloat .f64 x) r) : resK .mul .f64 x x r := by
  unfold resK at *; rwa [mul_neg_neg .f64 x x hx hx] at h
theorem square_left {ax ay r : Nat} (hy : okK .f64 ay) (h : DotR (Op.negFloat .f64 ay) ax (Op.negFloat .f64 ay) ax r) : DotR ax ay ax ay r := by
  obtain ⟨p, q, h1, h2, h3⟩ := h
  exact ⟨q, p, h2, res_neg_neg hy h1, res_add_comm h3⟩
theorem square_right {ax ay r : Nat} (hx : okK .f64 ax) (h : DotR ay (Op.negFloat .f64 ax) ay (Op.negFloat .f64 ax) r) : DotR ax ay ax ay r := by
  obtain ⟨p, q, h1, h2, h3⟩ := h
  exact ⟨q, p, res_neg_neg hx h2, h1, res_add_comm h3⟩
theorem square_neg {ax ay r : Nat} (hx : okK .f64 ax) (hy : okK .f64 ay) (h : DotR (Op.negFloat .f64 ax) (Op.negFloat .f64 ay) (Op.negFloat .f64 ax) (Op.negFloat .f64 ay) r) : DotR ax ay ax ay r := by
  obtain ⟨p, q, h1, h2, h3⟩ := h
  exact ⟨p, q, res_neg_neg hx h1, res_neg_neg hy h2, h3⟩
theorem length_left {ax ay r : Nat} (hy : okK .f64 ay) (h : LengthR (Op.negFloat .f64 ay) ax r) : LengthR ax ay r := by
  obtain ⟨s, h1, h2⟩ := h; exact ⟨s, square_left hy h1, h2⟩
theorem length_right {ax ay r : Nat} (hx : okK .f64 ax) (h : LengthR ay (Op.negFloat .f64 ax) r) : LengthR ax ay r := by
  obtain ⟨s, h1, h2⟩ := h; exact ⟨s, square_right hx h1, h2⟩
theorem length_neg {ax ay r : Nat} (hx : okK .f64 ax) (hy : okK .f64 ay) (h : LengthR (Op.negFloat .f64 ax) (Op.negFloat .f64 ay) r) : LengthR ax ay r := by
  obtain ⟨s, h1, h2⟩ := h; exact ⟨s, square_neg hx hy h1, h2⟩
theorem len_left_sm {ax ay r r' : Nat} (h : LengthR (Op.negFloat .f64 ay) ax r) (g : LengthR ax ay r') (hy : okK .f64 ay) : smK .f64 r r' = true := (length_left hy h).sm g
theorem len_right_sm {ax ay r r' : Nat} (h : LengthR ay (Op.negFloat .f64 ax) r) (g : LengthR ax ay r') (hx : okK .f64 ax) : smK .f64 r r' = true := (length_right hx h).sm g
theorem len_neg_sm {ax ay r r' : Nat} (h : LengthR (Op.negFloat .f64 ax) (Op.negFloat .f64 ay) r) (g : LengthR ax ay r') (hx : okK .f64 ax) (hy : okK .f64 ay) : smK .f64 r r' = true := (length_neg hx hy h).sm g
theorem rot_four (x y : Nat) : rotP 4 (x, y) = (x, y) := by
  show (Op.negFloat .f64 (rotP 3 (x, y)).2, (rotP 3 (x, y)).1) = _
  rw [rot_three]
  simp only [neg_neg]

theorem fin_num {k : FloatKind} {x : Nat} (h : finK k x = true) : nanK k x = false := by
  have h : rgK k x < infK k := of_decide_eq_true h
  rw [nanK_eq]; exact decide_eq_false (by omega)
theorem fin_inf {k : FloatKind} {x : Nat} (h : finK k x = false) (n : nanK k x = false) : rgK k x = infK k := by
  have h : ¬ rgK k x < infK k := of_decide_eq_false h
  have n : ¬ infK k < rgK k x := of_decide_eq_false n
  omega
theorem fin_word (k : FloatKind) (s : Bool) (r : Nat) : finK k (k.format.word s (min r (infK k))) = decide (r < infK k) := by
  unfold finK
  rw [rgK_word _ _ _ (Nat.min_le_right _ _)]
  by_cases h : r < infK k
  · rw [Nat.min_eq_left (Nat.le_of_lt h)]
  · rw [Nat.min_eq_right (by omega)]; simp [h]
theorem inf_not_fin (k : FloatKind) (s : Bool) : finK k (k.format.word s (infK k)) = false := by
  unfold finK; rw [rgK_word _ _ _ (Nat.le_refl _)]; simp
/-- no number, of two that are the same -/
theorem nan_sm {x y : Nat} (h : smK .f64 x y = true) : nanK .f64 x = nanK .f64 y := by
  rcases smK_cases h with rfl | ⟨h1, h2⟩
  · rfl
  · rw [h1, h2]
theorem eq_sm {x y : Nat} (h : smK .f64 x y = true) : eqK .f64 x y = !nanK .f64 x := by
  rcases smK_cases h with rfl | ⟨h1, h2⟩
  · exact eqK_self _ _
  · unfold eqK; rw [h1]; rfl

/-- a sum of two is the sum of both turned, turned: but for noughts -/
theorem res_nan {op : BinOp} {k : FloatKind} {x y r : Nat} (h : resK op k x y r) (e : floatBits op k x y = none) : nanK k r = true := by
  rcases h.2 with h1 | ⟨_, h1⟩
  · rw [e] at h1; cases h1
  · exact h1

theorem sum_opposite (a b : Datum) : (Datum.sum a b = none ∧ Datum.sum a.opposite b.opposite = none) ∨
    (∃ s m p, Datum.sum a b = some (.number s m p) ∧ ∃ s', Datum.sum a.opposite b.opposite = some (.number s' m p) ∧ (m ≠ 0 → s' = !s)) ∨
    (∃ s, Datum.sum a b = some (.infinity s) ∧ Datum.sum a.opposite b.opposite = some (.infinity (!s))) := by
  cases a <;> cases b <;> simp only [Datum.opposite, Datum.sum]
  · rename_i s m i t n j
    refine .inr (.inl ⟨_, _, _, rfl, if signed s m (i - min i j).toNat + signed t n (j - min i j).toNat = 0 then !s && !t else decide (-(signed s m (i - min i j).toNat + signed t n (j - min i j).toNat) < 0), ?_, ?_⟩)
    · have h1 : ∀ (s : Bool) m k, signed (!s) m k = -signed s m k := fun s m k => by cases s <;> simp [signed]
      rw [h1, h1, ← Int.neg_add, Int.natAbs_neg]
      congr 2
      by_cases h : signed s m (i - min i j).toNat + signed t n (j - min i j).toNat = 0
      · rw [if_pos h, if_pos (by omega)]
      · rw [if_neg h, if_neg (by omega)]
    · intro h
      generalize signed s m (i - min i j).toNat + signed t n (j - min i j).toNat = T at *
      have hT : T ≠ 0 := by omega
      rw [if_neg hT, if_neg hT]
      rw [Bool.eq_iff_iff]
      simp
      omega
  · exact .inr (.inr ⟨_, rfl, rfl⟩)
  · exact .inl (by simp)
  · exact .inr (.inr ⟨_, rfl, rfl⟩)
  · rename_i s t
    by_cases h : s = t
    · subst h; exact .inr (.inr ⟨s, by simp, by simp⟩)
    · exact .inl ⟨by simp [h], by simp [h]⟩
  · exact .inl (by simp)
  · exact .inl (by simp)
  · exact .inl (by simp)
  · exact .inl (by simp)

theorem opp_opp (d : Datum) : d.opposite.opposite = d := by cases d <;> simp [Datum.opposite]

theorem wo_word (k : FloatKind) (s : Bool) (r : Nat) (h : r ≤ infK k) : woK k (k.format.word s r) = if s then -(r : Int) else (r : Int) := by
  rw [woK_eq, ngK_word k s r h, rgK_word k s r h]
theorem nan_word (k : FloatKind) (s : Bool) (r : Nat) (h : r ≤ infK k) : nanK k (k.format.word s r) = false := by
  rw [nanK_eq, rgK_word k s r h]; simp; exact h
theorem word_okK (k : FloatKind) (s : Bool) (r : Nat) (h : r ≤ infK k) : okK k (k.format.word s r) := by
  have := inf_lt_sign k.format
  unfold okK; rw [width_two]; unfold Format.word
  have : infK k = k.format.infRung := rfl
  split <;> omega

/-- a difference and the difference the other way round -/
theorem sub_anti {x y c d : Nat} (h : resK .sub .f64 x y c) (g : resK .sub .f64 y x d) : nanK .f64 d = nanK .f64 c ∧ eqK .f64 c (Op.negFloat .f64 d) = !nanK .f64 c := by
  have hd := g.1
  have e1 : floatBits .sub .f64 x y = ((FloatKind.f64.format.read x).sum (FloatKind.f64.format.read y).opposite).map FloatKind.f64.format.write := rfl
  have e2 : floatBits .sub .f64 y x = (((FloatKind.f64.format.read x).opposite).sum (FloatKind.f64.format.read y).opposite.opposite).map FloatKind.f64.format.write := by
    rw [opp_opp]
    show ((FloatKind.f64.format.read y).sum (FloatKind.f64.format.read x).opposite).map _ = _
    congr 1
    cases FloatKind.f64.format.read x <;> cases FloatKind.f64.format.read y <;> simp only [Datum.sum, Datum.opposite]
    · rename_i s m i t n j
      rw [Int.min_comm, Int.add_comm, Bool.and_comm]
    · rename_i s t
      by_cases h : t = !s
      · subst h; simp
      · rw [if_neg h, if_neg (fun e => h e.symm)]
  have hi := infK_pos .f64
  rcases sum_opposite (FloatKind.f64.format.read x) (FloatKind.f64.format.read y).opposite with ⟨h1, h2⟩ | ⟨s, m, p, h1, s', h2, h3⟩ | ⟨s, h1, h2⟩
  · rw [h1] at e1; rw [h2] at e2
    have n1 := res_nan h e1
    have n2 := res_nan g e2
    rw [n1, n2]
    exact ⟨rfl, by unfold eqK; rw [n1]; rfl⟩
  · rw [h1] at e1; rw [h2] at e2
    obtain ⟨r, hr, hw⟩ := nearest_le FloatKind.f64.format s m p
    have hr : r ≤ infK .f64 := hr
    have c1 := res_is h e1
    have c2 := res_is g e2
    rw [show FloatKind.f64.format.write (.number s m p) = FloatKind.f64.format.nearest s m p from rfl, hw] at c1
    rw [show FloatKind.f64.format.write (.number s' m p) = FloatKind.f64.format.nearest s' m p from rfl, hw] at c2
    have n1 : nanK .f64 c = false := by rw [c1]; exact nan_word _ _ _ hr
    have n2 : nanK .f64 d = false := by rw [c2]; exact nan_word _ _ _ hr
    rw [n1, n2]
    refine ⟨rfl, ?_⟩
    unfold eqK
    rw [neg_nan _ _ hd, neg_wo _ _ hd, n1, n2, c1, c2, wo_word _ _ _ hr, wo_word _ _ _ hr]
    by_cases hm : m = 0
    · have hr0 : r = 0 := by
        have := hw false
        unfold Format.nearest at this
        rw [if_pos hm] at this
        have e : rgK .f64 (FloatKind.f64.format.word false 0) = rgK .f64 (FloatKind.f64.format.word false r) := by rw [this]
        rw [rgK_word _ _ _ (Nat.zero_le _), rgK_word _ _ _ hr] at e
        exact e.symm
      subst hr0
      cases s <;> cases s' <;> simp
    · rw [h3 hm]
      cases s <;> simp
  · rw [h1] at e1; rw [h2] at e2
    have hr : infK .f64 ≤ infK .f64 := Nat.le_refl _
    have c1 : c = FloatKind.f64.format.word s (infK .f64) := res_is h e1
    have c2 : d = FloatKind.f64.format.word (!s) (infK .f64) := res_is g e2
    have n1 : nanK .f64 c = false := by rw [c1]; exact nan_word _ _ _ hr
    have n2 : nanK .f64 d = false := by rw [c2]; exact nan_word _ _ _ hr
    rw [n1, n2]
    refine ⟨rfl, ?_⟩
    unfold eqK
    rw [neg_nan _ _ hd, neg_wo _ _ hd, n1, n2, c1, c2, wo_word _ _ _ hr, wo_word _ _ _ hr]
    cases s <;> simp

theorem cross_anti {ax ay bx b_y c d : Nat} (h : CrossR ax ay bx b_y c) (g : CrossR bx b_y ax ay d) : nanK .f64 d = nanK .f64 c ∧ eqK .f64 c (Op.negFloat .f64 d) = !nanK .f64 c := by
  obtain ⟨p, q, h1, h2, h3⟩ := h
  obtain ⟨p', q', g1, g2, g3⟩ := g
  -- the same products, the other way round
  have s1 : smK .f64 p' q = true := res_congr (smK_self _ _) (smK_self _ _) (res_mul_comm g1) h2
  have s2 : smK .f64 q' p = true := res_congr (smK_self _ _) (smK_self _ _) (res_mul_comm g2) h1
  have g4 : ∃ d', resK .sub .f64 q p d' := by
    cases e : floatBits .sub .f64 q p with
    | some v => exact ⟨v, floatBits_ok e, .inl e⟩
    | none => exact ⟨9221120237041090561, by rw [okK64]; omega, .inr ⟨e, by decide +kernel⟩⟩
  obtain ⟨d', g4⟩ := g4
  have s3 := res_congr s1 s2 g3 g4
  obtain ⟨a1, a2⟩ := sub_anti h3 g4
  refine ⟨(nan_sm s3).trans a1, ?_⟩
  rcases smK_cases s3 with rfl | ⟨n1, n2⟩
  · exact a2
  · rw [← a1, n2]
    unfold eqK
    rw [neg_nan _ _ g3.1, n1]; simp

theorem cross_dot {ax ay bx b_y c e : Nat} (oy : okK .f64 ay) (h : CrossR ax ay bx b_y c) (g : DotR (Op.negFloat .f64 ay) ax bx b_y e) : smK .f64 c e = true := by
  obtain ⟨p, q, h1, h2, h3⟩ := h
  obtain ⟨p', q', g1, g2, g3⟩ := g
  have s1 : smK .f64 p q' = true := res_congr (smK_self _ _) (smK_self _ _) h1 g2
  have s2 : smK .f64 (Op.negFloat .f64 q) p' = true := by
    have e1 := mul_neg_l .f64 ay bx oy
    rcases h2.2 with k1 | ⟨k1, k2⟩
    · rw [k1] at e1
      rw [res_is g1 e1]
      exact smK_self _ _
    · rw [k1] at e1
      exact smK_nans (by rw [neg_nan _ _ h2.1]; exact k2) (res_nan g1 e1)
  have h4 : resK .add .f64 p (Op.negFloat .f64 q) c := by
    unfold resK at h3 ⊢
    rwa [sub_is_add .f64 p q h2.1] at h3
  exact res_congr s1 s2 h4 (res_add_comm g3)

/-! ### A way and the way turned by a quarter are square to each other -/
theorem add_fin {x y r : Nat} (h : resK .add .f64 x y r) (hr : finK .f64 r = true) : finK .f64 x = true ∧ finK .f64 y = true := by
  have hn := fin_num hr
  rcases h.2 with e | ⟨_, e⟩
  · have nx : nanK .f64 x = false := by
      cases c : nanK .f64 x
      · rfl
      · rw [floatBits_nan_l _ _ _ _ c] at e; cases e
    have ny : nanK .f64 y = false := by
      cases c : nanK .f64 y
      · rfl
      · rw [floatBits_nan_r _ _ _ _ c] at e; cases e
    have e0 : floatBits .add .f64 x y = ((FloatKind.f64.format.read x).sum (FloatKind.f64.format.read y)).map FloatKind.f64.format.write := rfl
    have inf_no : ∀ s, r ≠ FloatKind.f64.format.write (.infinity s) := fun s hs => by
      have hs : r = FloatKind.f64.format.word s (infK .f64) := hs
      rw [hs, inf_not_fin] at hr
      cases hr
    have hx : finK .f64 x = true := by
      cases c : finK .f64 x
      · exfalso
        rw [e0, read_inf _ (okF .f64) x (fin_inf c nx)] at e
        cases d : FloatKind.f64.format.read y <;> rw [d] at e <;> simp only [Datum.sum] at e
        · exact inf_no _ (Option.some.inj e).symm
        · split at e
          · exact inf_no _ (Option.some.inj e).symm
          · cases e
        · cases e
      · rfl
    refine ⟨hx, ?_⟩
    cases c : finK .f64 y
    · exfalso
      rw [e0, read_inf _ (okF .f64) y (fin_inf c ny)] at e
      cases d : FloatKind.f64.format.read x <;> rw [d] at e <;> simp only [Datum.sum] at e
      · exact inf_no _ (Option.some.inj e).symm
      · split at e
        · exact inf_no _ (Option.some.inj e).symm
        · cases e
      · cases e
    · rfl
  · rw [e] at hn; cases hn

theorem square_fin {x p : Nat} (h : resK .mul .f64 x x p) (hp : finK .f64 p = true) : finK .f64 x = true := by
  have hn := fin_num hp
  rcases h.2 with e | ⟨_, e⟩
  · have nx : nanK .f64 x = false := by
      cases c : nanK .f64 x
      · rfl
      · rw [floatBits_nan_l _ _ _ _ c] at e; cases e
    cases c : finK .f64 x
    · exfalso
      have hi := fin_inf c nx
      have e0 : floatBits .mul .f64 x x = ((FloatKind.f64.format.read x).product (FloatKind.f64.format.read x)).map FloatKind.f64.format.write := rfl
      rw [e0, read_inf _ (okF .f64) x hi] at e
      simp only [Datum.product, Option.map_some] at e
      have hs : p = FloatKind.f64.format.word (ng FloatKind.f64.format x ^^ ng FloatKind.f64.format x) (infK .f64) := (Option.some.inj e).symm
      rw [hs, inf_not_fin] at hp
      cases hp
    · rfl
  · rw [e] at hn; cases hn

theorem fb1 : 1 ≤ FloatKind.f64.format.fractionBits := by decide

/-- the product of two whose squares are finite is finite -/
theorem prod_fin {x y p q r : Nat} (hx : finK .f64 x = true) (hy : finK .f64 y = true) (h1 : resK .mul .f64 x x p) (h2 : resK .mul .f64 y y q) (hp : finK .f64 p = true) (hq : finK .f64 q = true) (h : resK .mul .f64 x y r) : finK .f64 r = true := by
  have a1 := res_is h1 (mul_spec x x hx hx)
  have a2 := res_is h2 (mul_spec y y hy hy)
  have a3 := res_is h (mul_spec x y hx hy)
  rw [a1, fin_word] at hp
  rw [a2, fin_word] at hq
  rw [a3, fin_word]
  have hp := of_decide_eq_true hp
  have hq := of_decide_eq_true hq
  refine decide_eq_true ?_
  generalize vl FloatKind.f64.format (rgK .f64 x) = X at *
  generalize vl FloatKind.f64.format (rgK .f64 y) = Y at *
  rcases Nat.le_total X Y with g | g
  · exact Nat.lt_of_le_of_lt (rr_mono FloatKind.f64.format fb1 1074 (Nat.mul_le_mul_right Y g)) hq
  · exact Nat.lt_of_le_of_lt (rr_mono FloatKind.f64.format fb1 1074 (Nat.mul_le_mul_left X g)) hp

theorem sv_neg (x : Nat) (h : okK .f64 x) : svK .f64 (Op.negFloat .f64 x) = -svK .f64 x := by
  obtain ⟨h1, h2, _⟩ := neg_facts .f64 x h
  unfold svK
  rw [h1, h2]
  cases ngK .f64 x <;> simp
theorem fin_neg (x : Nat) (h : okK .f64 x) : finK .f64 (Op.negFloat .f64 x) = finK .f64 x := by
  unfold finK; rw [(neg_facts .f64 x h).1]

theorem square_on {ax ay s z : Nat} (oy : okK .f64 ay) (h : DotR ax ay ax ay s) (hs : finK .f64 s = true) (g : DotR ax ay (Op.negFloat .f64 ay) ax z) : eqK .f64 z 0 = true := by
  obtain ⟨p, q, h1, h2, h3⟩ := h
  obtain ⟨p', q', g1, g2, g3⟩ := g
  obtain ⟨fp, fq⟩ := add_fin h3 hs
  have fx := square_fin h1 fp
  have fy := square_fin h2 fq
  have f1 : finK .f64 q' = true := prod_fin fy fx h2 h1 fq fp g2
  -- p' is q' with its sign turned
  have e1 := mul_neg_l .f64 ay ax oy
  rcases g2.2 with k1 | ⟨_, k2⟩
  · rw [k1] at e1
    have hp : p' = Op.negFloat .f64 q' := res_is (res_mul_comm g1) e1
    subst hp
    have f2 : finK .f64 (Op.negFloat .f64 q') = true := by rw [fin_neg _ g2.1]; exact f1
    have e2 := add_spec .f64 _ _ f2 f1
    rw [sv_neg _ g2.1, Int.add_left_neg] at e2
    have e3 := res_is g3 e2
    simp only [Int.natAbs_zero, rr_zero, Nat.zero_min] at e3
    rw [eqK_nought, e3, rgK_word _ _ _ (Nat.zero_le _)]
    rfl
  · rw [fin_num f1] at k2; cases k2
theorem self_sub_bits (s : Nat) (h : finK .f64 s = true) (os : okK .f64 s) : floatBits .sub .f64 s s = some 0 := by
  rw [sub_is_add .f64 s s os]
  have f2 : finK .f64 (Op.negFloat .f64 s) = true := by rw [fin_neg _ os]; exact h
  have e2 := add_spec .f64 _ _ h f2
  rw [sv_neg _ os, Int.add_right_neg] at e2
  rw [e2]
  simp only [Int.natAbs_zero, rr_zero, Nat.zero_min, if_true]
  obtain ⟨_, h2, _⟩ := neg_facts .f64 s os
  rw [h2]
  cases ngK .f64 s <;> rfl
end Go.Proofs.Ytoofbfjlgablkaa
