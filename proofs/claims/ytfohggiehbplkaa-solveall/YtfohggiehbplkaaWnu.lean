/-
  Plain facts that go together.
-/
import Derived.Test.YtfohggiehbplkaaFlt
import Derived.Test.YtfohggiehbplkaaWrow
namespace Go.Proofs.Ytfohggiehbplkaa
open Ieee Go.RowKit
set_option linter.unusedSimpArgs false
set_option linter.unusedVariables false
theorem cut_neg (s : Bool) (n d : Nat) : Toward.even.cut s n d = Toward.even.cut false n d := rfl
theorem cut_spec (n d : Nat) : 2 * Toward.even.cut false n d * 2 ^ d ≤ 2 * n + 2 ^ d ∧ 2 * n ≤ 2 * Toward.even.cut false n d * 2 ^ d + 2 ^ d ∧
  (Toward.even.cut false n d % 2 = 1 → 2 * Toward.even.cut false n d * 2 ^ d < 2 * n + 2 ^ d ∧ 2 * n < 2 * Toward.even.cut false n d * 2 ^ d + 2 ^ d) := by
 unfold Toward.cut
 simp only [Nat.one_shiftLeft]
 by_cases hd : d ≤ n.log2 + 2
 ·rw [Nat.min_eq_left hd]
  have hp := Nat.two_pow_pos d
  have h1 := Nat.div_add_mod n (2 ^ d)
  have h2 := Nat.mod_lt n hp
  generalize n / 2 ^ d = low at *
  generalize n % 2 ^ d = rest at *
  generalize 2 ^ d = G at *
  by_cases c1 : G < 2 * rest
  ·have e : (decide (G < 2 * rest) || (G == 2 * rest && low % 2 == 1)).toNat = 1 := by simp [c1]
   rw [e]
   have e2 : 2 * (low + 1) * G = 2 * (G * low) + 2 * G := by rw [Nat.mul_comm G low, Nat.mul_assoc, Nat.add_mul]; omega
   rw [e2]; omega
  ·by_cases c2 : G = 2 * rest
   ·by_cases c3 : low % 2 = 1
    ·have e : (decide (G < 2 * rest) || (G == 2 * rest && low % 2 == 1)).toNat = 1 := by simp [c2, c3]
     rw [e]
     have e2 : 2 * (low + 1) * G = 2 * (G * low) + 2 * G := by rw [Nat.mul_comm G low, Nat.mul_assoc, Nat.add_mul]; omega
     rw [e2]; omega
    ·have e : (decide (G < 2 * rest) || (G == 2 * rest && low % 2 == 1)).toNat = 0 := by simp [c1, c3]
     rw [e]
     have e2 : 2 * (low + 0) * G = 2 * (G * low) := by rw [Nat.mul_comm G low, Nat.mul_assoc]; rfl
     rw [e2]; omega
   ·have e : (decide (G < 2 * rest) || (G == 2 * rest && low % 2 == 1)).toNat = 0 := by
     have : (G == 2 * rest) = false := by simpa using c2
     simp [c1, this]
    rw [e]
    have e2 : 2 * (low + 0) * G = 2 * (G * low) := by rw [Nat.mul_comm G low, Nat.mul_assoc]; rfl
    rw [e2]; omega
 ·rw [Nat.min_eq_right (by omega)]
  have hl := lt_log2 n
  have h3 : 2 ^ (n.log2 + 2) ≤ 2 ^ d := Nat.pow_le_pow_right (by omega) (by omega)
  have h4 : 2 ^ (n.log2 + 2) = 2 * 2 ^ (n.log2 + 1) := by rw [Nat.pow_succ]; omega
  have hlt : n < 2 ^ (n.log2 + 2) := by omega
  rw [Nat.div_eq_of_lt hlt, Nat.mod_eq_of_lt hlt]
  have e : (decide (2 ^ (n.log2 + 2) < 2 * n) || (2 ^ (n.log2 + 2) == 2 * n && 0 % 2 == 1)).toNat = 0 := by
   have : ¬ 2 ^ (n.log2 + 2) < 2 * n := by omega
   simp [this]
  rw [e]
  omega
/-- the rung nearest to m / 2 ^ t least places, infinity left out of account -/
def rr (f : Format) (m t : Nat) : Nat := (m.log2 - (t + f.fractionBits)) * f.binade + Toward.even.cut false m (t + (m.log2 - (t + f.fractionBits)))
theorem rr_zero (f : Format) (t : Nat) : rr f 0 t = 0 := by
 unfold rr Toward.cut
 simp
theorem nearest_rr (f : Format) (s : Bool) (m t : Nat) : f.nearest s m (f.leastPlace - (t : Nat)) = f.word s (min (rr f m t) f.infRung) := by
 by_cases hm : m = 0
 ·subst hm; rw [rr_zero]; unfold Format.nearest; simp
 ·unfold Format.nearest
  rw [if_neg hm]
  simp only []
  have hlast : max (f.leastPlace - (t : Int) + (m.log2 : Int) - (f.fractionBits : Int)) f.leastPlace = f.leastPlace + ((m.log2 - (t + f.fractionBits) : Nat) : Int) := by omega
  rw [hlast]
  generalize he : m.log2 - (t + f.fractionBits) = e
  have e0 : (f.leastPlace - (t : Int) - (f.leastPlace + (e : Int))).toNat = 0 := by omega
  have e1 : (f.leastPlace + (e : Int) - (f.leastPlace - (t : Int))).toNat = t + e := by omega
  have e2 : (f.leastPlace + (e : Int) - f.leastPlace).toNat = e := by omega
  rw [e0, e1, e2, Nat.shiftLeft_zero, cut_neg]
  unfold rr
  rw [he]
/-- to write a number in units of one place or of another: the same -/
theorem nearest_shift (f : Format) (s : Bool) (m q : Nat) (p : Int) : f.nearest s m (p + (q : Nat)) = f.nearest s (m * 2 ^ q) p := by
 by_cases hm : m = 0
 ·subst hm; unfold Format.nearest; simp
 ·have hm' : m * 2 ^ q ≠ 0 := Nat.mul_ne_zero hm (Nat.ne_of_gt (Nat.two_pow_pos _))
  unfold Format.nearest
  rw [if_neg hm, if_neg hm']
  simp only []
  rw [log2_mul_pow m q hm]
  have hlast : max (p + ((m.log2 + q : Nat) : Int) - (f.fractionBits : Int)) f.leastPlace = max (p + (q : Int) + (m.log2 : Int) - (f.fractionBits : Int)) f.leastPlace := by omega
  rw [hlast]
  generalize max (p + (q : Int) + (m.log2 : Int) - (f.fractionBits : Int)) f.leastPlace = last
  congr 1
  congr 1
  congr 1
  by_cases h1 : last ≤ p
  ·have e2 : (p + (q : Int) - last).toNat = q + (p - last).toNat := by omega
   have e3 : (last - (p + (q : Int))).toNat = 0 := by omega
   have e4 : (last - p).toNat = 0 := by omega
   rw [e2, e3, e4, cut_none, cut_none, Nat.shiftLeft_eq, Nat.shiftLeft_eq, Nat.pow_add, Nat.mul_assoc]
  ·by_cases h2 : last ≤ p + (q : Int)
   ·have e3 : (last - (p + (q : Int))).toNat = 0 := by omega
    have e4 : (p - last).toNat = 0 := by omega
    rw [e3, e4, cut_none, Nat.shiftLeft_zero, Nat.shiftLeft_eq]
    have e5 : m * 2 ^ q = m * 2 ^ (p + (q : Int) - last).toNat * 2 ^ (last - p).toNat := by rw [Nat.mul_assoc, ← Nat.pow_add]; congr 2; omega
    rw [e5, cut_exact]
   ·have e2 : (p + (q : Int) - last).toNat = 0 := by omega
    have e4 : (p - last).toNat = 0 := by omega
    have e5 : (last - p).toNat = (last - (p + (q : Int))).toNat + q := by omega
    rw [e2, e4, e5, Nat.shiftLeft_zero, Nat.shiftLeft_zero, cut_scale _ _ _ _ hm]
/-- numbers of rungs, up to the next binade's first -/
theorem vl_mk2 (f : Format) (e K : Nat) (h1 : K ≤ 2 * f.binade) (h2 : 0 < e → f.binade ≤ K) : vl f (e * f.binade + K) = K * 2 ^ e := by
 by_cases h : K < 2 * f.binade
 ·exact vl_mk f e K h h2
 ·have hB := binade_pos f
  have hK : K = 2 * f.binade := by omega
  subst hK
  have e1 : e * f.binade + 2 * f.binade = (e + 1) * f.binade + f.binade := by rw [Nat.add_mul]; omega
  rw [e1, vl_mk f (e + 1) f.binade (by omega) (fun _ => Nat.le_refl _), Nat.pow_succ]
  rw [Nat.mul_comm 2 f.binade, Nat.mul_assoc, Nat.mul_comm 2 (2 ^ e)]
theorem rr_arith (V : Nat → Nat) (B X Y e c m : Nat) (hB : 0 < B) (hB2 : B % 2 = 0) (hX : 0 < X) (hY : 0 < Y)
  (hV : ∀ K, K ≤ 2 * B → (0 < e → B ≤ K) → V (e * B + K) = K * Y) (hM : ∀ r, V r < V (r + 1))
  (s1 : 2 * c * (X * Y) ≤ 2 * m + X * Y) (s2 : 2 * m ≤ 2 * c * (X * Y) + X * Y) (s3 : c % 2 = 1 → 2 * c * (X * Y) < 2 * m + X * Y ∧ 2 * m < 2 * c * (X * Y) + X * Y)
  (hup : m < 2 * B * Y * X) (hdn : 0 < e → B * Y * X ≤ m) :
  (e * B + c = 0 ∨ (V (e * B + c - 1) + V (e * B + c)) * X ≤ 2 * m) ∧ 2 * m ≤ (V (e * B + c) + V (e * B + c + 1)) * X ∧
  ((e * B + c) % 2 = 1 → (V (e * B + c - 1) + V (e * B + c)) * X < 2 * m ∧ 2 * m < (V (e * B + c) + V (e * B + c + 1)) * X) := by
 have hXYp : 0 < X * Y := Nat.mul_pos hX hY
 have c2 : c ≤ 2 * B := by
  apply Decidable.byContradiction
  intro h
  have h1 : 2 * (2 * B + 1) * (X * Y) ≤ 2 * c * (X * Y) := Nat.mul_le_mul_right _ (by omega)
  have h2 : 2 * (2 * B + 1) * (X * Y) = 2 * (2 * B * Y * X) + 2 * (X * Y) := by grind
  omega
 have c1 : 0 < e → B ≤ c := by
  intro h
  apply Decidable.byContradiction
  intro g
  have h0 := hdn h
  have h1 : 2 * c * (X * Y) ≤ 2 * (B - 1) * (X * Y) := Nat.mul_le_mul_right _ (by omega)
  have h2 : 2 * (B - 1) * (X * Y) + 2 * (X * Y) = 2 * (B * Y * X) := by
   obtain ⟨b, rfl⟩ : ∃ b, B = b + 1 := ⟨B - 1, by omega⟩
   simp only [Nat.add_sub_cancel]
   grind
  omega
 have hpar : (e * B + c) % 2 = c % 2 := by
  rw [Nat.add_mod, Nat.mul_mod, hB2]; simp
 have v0 := hV c c2 c1
 -- upper
 have hU : 2 * m ≤ (V (e * B + c) + V (e * B + c + 1)) * X ∧ (c % 2 = 1 → 2 * m < (V (e * B + c) + V (e * B + c + 1)) * X) := by
  by_cases h : c < 2 * B
  ·have v1 := hV (c + 1) (by omega) (fun h => by have := c1 h; omega)
   rw [← Nat.add_assoc] at v1
   rw [v0, v1]
   have e1 : (c * Y + (c + 1) * Y) * X = 2 * c * (X * Y) + X * Y := by grind
   rw [e1]
   exact ⟨s2, fun h => (s3 h).2⟩
  ·have hc : c = 2 * B := by omega
   have h1 := hM (e * B + c)
   have h2 : (V (e * B + c) + V (e * B + c)) * X < (V (e * B + c) + V (e * B + c + 1)) * X := Nat.mul_lt_mul_of_pos_right (by omega) hX
   have h3 : (V (e * B + c) + V (e * B + c)) * X = 2 * (2 * B * Y * X) := by rw [v0, hc]; grind
   omega
 have hL : (e * B + c = 0 ∨ (V (e * B + c - 1) + V (e * B + c)) * X ≤ 2 * m) ∧ (c % 2 = 1 → (V (e * B + c - 1) + V (e * B + c)) * X < 2 * m) := by
  by_cases hz : c = 0
  ·have he : e = 0 := by
    apply Decidable.byContradiction
    intro h
    have := c1 (by omega)
    omega
   subst hz; subst he
   exact ⟨.inl (by simp), by simp⟩
  ·by_cases h : 0 < e ∧ c = B
   ·have h0 := hdn h.1
    obtain ⟨r, hr⟩ : ∃ r, e * B + c = r + 1 := ⟨e * B + c - 1, by omega⟩
    have h1 := hM r
    have h2 : (V r + V (r + 1)) * X < (V (r + 1) + V (r + 1)) * X := Nat.mul_lt_mul_of_pos_right (by omega) hX
    have h3 : (V (r + 1) + V (r + 1)) * X = 2 * (B * Y * X) := by rw [← hr, v0, h.2]; grind
    rw [hr, Nat.add_sub_cancel]
    exact ⟨.inr (by omega), fun _ => by omega⟩
   ·obtain ⟨b, rfl⟩ : ∃ b, c = b + 1 := ⟨c - 1, by omega⟩
    have v1 := hV b (by omega) (fun h' => by have := c1 h'; omega)
    have e0 : e * B + (b + 1) - 1 = e * B + b := by omega
    rw [e0, v0, v1]
    have e1 : (b * Y + (b + 1) * Y) * X + X * Y = 2 * (b + 1) * (X * Y) := by grind
    exact ⟨.inr (by omega), fun h => by have := (s3 h).1; omega⟩
 exact ⟨hL.1, hU.1, fun h => by rw [hpar] at h; exact ⟨hL.2 h, hU.2 h⟩⟩
theorem rr_spec (f : Format) (hf : 1 ≤ f.fractionBits) (m t : Nat) :
  (rr f m t = 0 ∨ (vl f (rr f m t - 1) + vl f (rr f m t)) * 2 ^ t ≤ 2 * m) ∧ 2 * m ≤ (vl f (rr f m t) + vl f (rr f m t + 1)) * 2 ^ t ∧
  (rr f m t % 2 = 1 → (vl f (rr f m t - 1) + vl f (rr f m t)) * 2 ^ t < 2 * m ∧ 2 * m < (vl f (rr f m t) + vl f (rr f m t + 1)) * 2 ^ t) := by
 by_cases hm : m = 0
 ·subst hm
  rw [rr_zero]
  refine ⟨.inl rfl, by simp, by simp⟩
 have hB := binade_pos f
 obtain ⟨s1, s2, s3⟩ := cut_spec m (t + (m.log2 - (t + f.fractionBits)))
 have hlo := log2_le m hm
 have hhi := lt_log2 m
 unfold rr
 generalize hc : Toward.even.cut false m (t + (m.log2 - (t + f.fractionBits))) = c at *
 have hBB : f.binade = 2 ^ f.fractionBits := rfl
 have hB2 : f.binade % 2 = 0 := by
  obtain ⟨k, hk⟩ : ∃ k, f.fractionBits = k + 1 := ⟨f.fractionBits - 1, by omega⟩
  rw [hBB, hk, Nat.pow_succ]; omega
 generalize he : m.log2 - (t + f.fractionBits) = e at *
 rw [show 2 ^ (t + e) = 2 ^ t * 2 ^ e from Nat.pow_add _ _ _] at s1 s2 s3
 refine rr_arith (vl f) f.binade (2 ^ t) (2 ^ e) e c m hB hB2 (Nat.two_pow_pos t) (Nat.two_pow_pos e) (fun K h1 h2 => vl_mk2 f e K h1 h2) (vl_succ f) s1 s2 s3 ?_ ?_
 ·have : m.log2 + 1 ≤ 1 + f.fractionBits + e + t := by omega
  have h := Nat.lt_of_lt_of_le hhi (Nat.pow_le_pow_right (by omega) this)
  rw [Nat.pow_add, Nat.pow_add, Nat.pow_add] at h
  rw [hBB]; exact h
 ·intro h
  have : m.log2 = f.fractionBits + e + t := by omega
  rw [this, Nat.pow_add, Nat.pow_add] at hlo
  rw [hBB]; exact hlo
theorem vl_le (f : Format) {r s : Nat} (h : r ≤ s) : vl f r ≤ vl f s := by
 rcases Nat.lt_or_eq_of_le h with h | h
 ·exact Nat.le_of_lt (vl_lt f h)
 ·rw [h]; exact Nat.le_refl _
theorem rr_exact (f : Format) (hf : 1 ≤ f.fractionBits) (r t : Nat) : rr f (vl f r * 2 ^ t) t = r := by
 obtain ⟨a1, a2, _⟩ := rr_spec f hf (vl f r * 2 ^ t) t
 generalize rr f (vl f r * 2 ^ t) t = s at *
 have hX := Nat.two_pow_pos t
 apply Decidable.byContradiction
 intro g
 rcases Nat.lt_or_gt_of_ne g with g | g
 ·have h1 := vl_lt f g
  have h2 : vl f (s + 1) ≤ vl f r := vl_le f (by omega)
  have h3 : (vl f s + vl f (s + 1)) * 2 ^ t < (vl f r + vl f r) * 2 ^ t := Nat.mul_lt_mul_of_pos_right (by omega) hX
  have h4 : (vl f r + vl f r) * 2 ^ t = 2 * (vl f r * 2 ^ t) := by grind
  omega
 ·have a1 := a1.resolve_left (by omega)
  have h1 := vl_lt f g
  have h2 : vl f r ≤ vl f (s - 1) := vl_le f (by omega)
  have h3 : (vl f r + vl f r) * 2 ^ t < (vl f (s - 1) + vl f s) * 2 ^ t := Nat.mul_lt_mul_of_pos_right (by omega) hX
  have h4 : (vl f r + vl f r) * 2 ^ t = 2 * (vl f r * 2 ^ t) := by grind
  omega
def svK (k : FloatKind) (x : Nat) : Int := if ngK k x then -(vl k.format (rgK k x) : Int) else (vl k.format (rgK k x) : Int)
theorem least64 : FloatKind.f64.format.leastPlace = -1074 := by decide +kernel
theorem read_neg (k : FloatKind) (x : Nat) (h : okK k x) : k.format.read (Op.negFloat k x) = (k.format.read x).opposite := by
 obtain ⟨h1, h2, _⟩ := neg_facts k x h
 have h1 : Op.negFloat k x % k.format.signWeight = x % k.format.signWeight := h1
 have h2 : (Op.negFloat k x / k.format.signWeight % 2 == 1) = !(x / k.format.signWeight % 2 == 1) := h2
 unfold Format.read
 simp only []
 rw [h1, h2]
 split
 ·rfl
 ·split
  ·rfl
  ·split <;> rfl
theorem sub_is_add (k : FloatKind) (x y : Nat) (hy : okK k y) : floatBits .sub k x y = floatBits .add k x (Op.negFloat k y) := by
 show k.format.sub _ _ = k.format.add _ _
 unfold Format.sub Format.add
 rw [read_neg k y hy]
theorem mul_spec (x y : Nat) (hx : finK .f64 x = true) (hy : finK .f64 y = true) :
  floatBits .mul .f64 x y = some (FloatKind.f64.format.word (ngK .f64 x ^^ ngK .f64 y) (min (rr FloatKind.f64.format (vl FloatKind.f64.format (rgK .f64 x) * vl FloatKind.f64.format (rgK .f64 y)) 1074) (infK .f64))) := by
 have hx : rgK .f64 x < infK .f64 := of_decide_eq_true hx
 have hy : rgK .f64 y < infK .f64 := of_decide_eq_true hy
 obtain ⟨m, p, e, hv⟩ := read_num FloatKind.f64.format x hx
 obtain ⟨n, q, e', hv'⟩ := read_num FloatKind.f64.format y hy
 show FloatKind.f64.format.mul _ _ = _
 unfold Format.mul
 rw [e, e']
 simp only [Datum.product, Option.map_some, Format.write]
 congr 1
 have e1 : FloatKind.f64.format.leastPlace + (p : Int) + (FloatKind.f64.format.leastPlace + (q : Int)) = FloatKind.f64.format.leastPlace - ((1074 : Nat) : Int) + ((p + q : Nat) : Int) := by rw [least64]; omega
 rw [e1, nearest_shift, nearest_rr]
 have e2 : m * n * 2 ^ (p + q) = vl FloatKind.f64.format (rgK .f64 x) * vl FloatKind.f64.format (rgK .f64 y) := by
  show _ = vl FloatKind.f64.format (rg FloatKind.f64.format x) * vl FloatKind.f64.format (rg FloatKind.f64.format y)
  rw [← hv, ← hv', Nat.pow_add]; grind
 rw [e2]
 rfl
theorem add_spec (k : FloatKind) (x y : Nat) (hx : finK k x = true) (hy : finK k y = true) :
  floatBits .add k x y = some (k.format.word (if svK k x + svK k y = 0 then ngK k x && ngK k y else decide (svK k x + svK k y < 0)) (min (rr k.format (svK k x + svK k y).natAbs 0) (infK k))) := by
 have hx : rgK k x < infK k := of_decide_eq_true hx
 have hy : rgK k y < infK k := of_decide_eq_true hy
 obtain ⟨m, p, e, hv⟩ := read_num k.format x hx
 obtain ⟨n, q, e', hv'⟩ := read_num k.format y hy
 show k.format.add _ _ = _
 unfold Format.add
 rw [e, e']
 simp only [Datum.sum, Option.map_some, Format.write]
 congr 1
 have hb : min (k.format.leastPlace + (p : Int)) (k.format.leastPlace + (q : Int)) = k.format.leastPlace + ((min p q : Nat) : Int) := by omega
 rw [hb]
 have e1 : (k.format.leastPlace + (p : Int) - (k.format.leastPlace + ((min p q : Nat) : Int))).toNat = p - min p q := by omega
 have e2 : (k.format.leastPlace + (q : Int) - (k.format.leastPlace + ((min p q : Nat) : Int))).toNat = q - min p q := by omega
 rw [e1, e2]
 generalize hT : signed (ng k.format x) m (p - min p q) + signed (ng k.format y) n (q - min p q) = T
 have hS : svK k x + svK k y = T * 2 ^ (min p q) := by
  rw [← hT, Int.add_mul, ← signed_scale, ← signed_scale, show p - min p q + min p q = p by omega, show q - min p q + min p q = q by omega]
  rw [signed_shift, signed_shift]
  rw [hv, hv']
  rfl
 have hP : (0 : Int) < 2 ^ (min p q) := Int.pow_pos (by omega)
 have z : (svK k x + svK k y = 0) ↔ T = 0 := by
  rw [hS]
  constructor
  ·intro h; rcases Int.mul_eq_zero.1 h with h | h
   ·exact h
   ·omega
  ·intro h; rw [h]; simp
 have l : (svK k x + svK k y < 0) ↔ T < 0 := by
  rw [hS]
  constructor
  ·intro h
   apply Decidable.byContradiction
   intro g
   have := Int.mul_nonneg (show 0 ≤ T by omega) (Int.le_of_lt hP)
   omega
  ·intro h; exact Int.mul_neg_of_neg_of_pos h hP
 rw [nearest_shift]
 have e3 := nearest_rr k.format (if T = 0 then ng k.format x && ng k.format y else decide (T < 0)) (T.natAbs * 2 ^ min p q) 0
 have e4 : k.format.leastPlace - ((0 : Nat) : Int) = k.format.leastPlace := by omega
 rw [e4] at e3
 rw [e3]
 have e5 : T.natAbs * 2 ^ min p q = (svK k x + svK k y).natAbs := by
  rw [hS, Int.natAbs_mul, Int.natAbs_pow]
  rfl
 rw [e5]
 congr 1
 by_cases hz : T = 0
 ·rw [if_pos hz, if_pos (z.2 hz)]; rfl
 ·rw [if_neg hz, if_neg (fun h => hz (z.1 h))]
  rw [decide_eq_decide]
  exact l.symm
theorem fin_num {k : FloatKind} {x : Nat} (h : finK k x = true) : nanK k x = false := by
 have h : rgK k x < infK k := of_decide_eq_true h
 rw [nanK_eq]; exact decide_eq_false (by omega)
theorem fin_inf {k : FloatKind} {x : Nat} (h : finK k x = false) (n : nanK k x = false) : rgK k x = infK k := by
 have h : ¬ rgK k x < infK k := of_decide_eq_false h
 have n : ¬ infK k < rgK k x := of_decide_eq_false n
 omega
theorem fb1 : 1 ≤ FloatKind.f64.format.fractionBits := by decide
theorem sv_neg (x : Nat) (h : okK .f64 x) : svK .f64 (Op.negFloat .f64 x) = -svK .f64 x := by
 obtain ⟨h1, h2, _⟩ := neg_facts .f64 x h
 unfold svK
 rw [h1, h2]
 cases ngK .f64 x <;> simp
theorem fin_neg (x : Nat) (h : okK .f64 x) : finK .f64 (Op.negFloat .f64 x) = finK .f64 x := by
 unfold finK; rw [(neg_facts .f64 x h).1]
/-- the number of a float without its sign, in units of the least place -/
def mg (x : Nat) : Nat := vl FloatKind.f64.format (rgK .f64 x)
/-- .. as a number -/
def av (x : Nat) : Rat := (mg x : Rat) / 2 ^ 1074
theorem pow2_cast (n : Nat) : ((2 ^ n : Nat) : Rat) = 2 ^ n := by rw [Rat.natCast_pow]; rfl
theorem W_pos : (0 : Rat) < 2 ^ 1074 := Rat.pow_pos (by decide)
/-- x' is x times 2 ^ (j - i) -/
def Sc (i j x x' : Nat) : Prop := finK .f64 x = true ∧ finK .f64 x' = true ∧ okK .f64 x ∧ okK .f64 x' ∧ ngK .f64 x' = ngK .f64 x ∧ mg x' * 2 ^ i = mg x * 2 ^ j
/-- nought, or of a size -/
def Rg (a b x : Nat) : Prop := mg x = 0 ∨ (2 ^ a ≤ mg x ∧ mg x ≤ 2 ^ b)
theorem Sc.refl {x : Nat} (h : finK .f64 x = true) (o : okK .f64 x) : Sc 0 0 x x := ⟨h, h, o, o, rfl, rfl⟩
def oneB : Nat := 4607182418800017408
theorem one_mg : mg oneB = 2 ^ 1074 := by decide +kernel
theorem one_fin : finK .f64 oneB = true := by decide +kernel
theorem one_ng : ngK .f64 oneB = false := by decide +kernel
theorem mul_one (x : Nat) (h : finK .f64 x = true) (o : okK .f64 x) : floatBits .mul .f64 x oneB = some x := by
 rw [mul_spec x oneB h one_fin, one_ng, Bool.xor_false]
 have e : vl FloatKind.f64.format (rgK .f64 x) * vl FloatKind.f64.format (rgK .f64 oneB) = vl FloatKind.f64.format (rgK .f64 x) * 2 ^ 1074 := congrArg _ one_mg
 have e2 := (congrArg (fun m => rr FloatKind.f64.format m 1074) e).trans (rr_exact FloatKind.f64.format fb1 (rgK .f64 x) 1074)
 rw [show rr FloatKind.f64.format (vl FloatKind.f64.format (rgK .f64 x) * vl FloatKind.f64.format (rgK .f64 oneB)) 1074 = rgK .f64 x from e2]
 have h : rgK .f64 x < infK .f64 := of_decide_eq_true h
 rw [Nat.min_eq_left (Nat.le_of_lt h)]
 exact congrArg some (word_eq _ x o).symm
theorem Sc.zero {i j x x' : Nat} (h : Sc i j x x') : mg x' = 0 ↔ mg x = 0 := by
 obtain ⟨_, _, _, _, _, m⟩ := h
 constructor
 ·intro h; rw [h, Nat.zero_mul] at m; exact (Nat.mul_eq_zero.1 m.symm).resolve_right (Nat.ne_of_gt (Nat.two_pow_pos _))
 ·intro h; rw [h, Nat.zero_mul] at m; exact (Nat.mul_eq_zero.1 m).resolve_right (Nat.ne_of_gt (Nat.two_pow_pos _))
theorem Sc.neg {i j x x' : Nat} (h : Sc i j x x') : Sc i j (Op.negFloat .f64 x) (Op.negFloat .f64 x') := by
 obtain ⟨f1, f2, o1, o2, n, m⟩ := h
 have g1 := neg_facts .f64 x o1
 have g2 := neg_facts .f64 x' o2
 refine ⟨by rw [fin_neg _ o1]; exact f1, by rw [fin_neg _ o2]; exact f2, g1.2.2, g2.2.2, by rw [g1.2.1, g2.2.1, n], ?_⟩
 unfold mg
 rw [g1.1, g2.1]
 exact m
theorem Rg.neg {a b x : Nat} (h : Rg a b x) (o : okK .f64 x) : Rg a b (Op.negFloat .f64 x) := by
 unfold Rg mg at *
 rw [(neg_facts .f64 x o).1]
 exact h
def Dv (op : BinOp) (x y : Nat) : Nat := (floatBits op .f64 x y).getD 0
theorem some_add {x y : Nat} (hx : finK .f64 x = true) (hy : finK .f64 y = true) : (floatBits .add .f64 x y).isSome = true := by rw [add_spec .f64 x y hx hy]; rfl
theorem some_sub {x y : Nat} (hx : finK .f64 x = true) (hy : finK .f64 y = true) (oy : okK .f64 y) : (floatBits .sub .f64 x y).isSome = true := by
 rw [sub_is_add .f64 x y oy]; exact some_add hx (by rw [fin_neg _ oy]; exact hy)
theorem Sc.two {j r t u : Nat} (h : Sc 100 j r t) (g : Sc 100 j t u) : Sc (100 + 100) (j + j) r u := by
 obtain ⟨f1, f2, o1, o2, n1, m1⟩ := h
 obtain ⟨_, f3, _, o3, n2, m2⟩ := g
 refine ⟨f1, f3, o1, o3, n2.trans n1, ?_⟩
 rw [Nat.pow_add, Nat.pow_add]
 generalize 2 ^ 100 = A at *
 generalize 2 ^ j = B at *
 have : mg u * (A * A) = mg u * A * A := by grind
 rw [this, m2]
 have : mg t * B * A = mg t * A * B := by grind
 rw [this, m1]; grind
def rv (x : Nat) : Rat := if ngK .f64 x then -av x else av x
def ab (a : Rat) : Rat := if a < 0 then -a else a
theorem rv_sv (x : Nat) : rv x = (svK .f64 x : Rat) / 2 ^ 1074 := by
 unfold rv svK av mg
 cases ngK .f64 x
 ·simp only [Bool.false_eq_true, if_false, Rat.intCast_natCast]
 ·simp only [if_true, Rat.intCast_neg, Rat.intCast_natCast]
  rw [Rat.div_def, Rat.div_def]; grind
def Bd (n x : Nat) : Prop := okK .f64 x ∧ finK .f64 x = true ∧ av x ≤ 2 ^ n
theorem two_le {m n : Nat} (h : m ≤ n) : (2 : Rat) ^ m ≤ 2 ^ n := by
 obtain ⟨d, rfl⟩ := Nat.le.dest h
 rw [← pow2_cast, ← pow2_cast]
 exact Rat.natCast_le_natCast.2 (Nat.pow_le_pow_right (by decide) (by omega))
theorem bd_mono {m n x : Nat} (h : Bd m x) (hn : m ≤ n) : Bd n x := ⟨h.1, h.2.1, Rat.le_trans h.2.2 (two_le hn)⟩
def crK (ax ay bx b_y : Nat) : Nat := Dv .sub (Dv .mul ax b_y) (Dv .mul ay bx)
/-- a triangle of a fan: twice its area, and the way to its middle by that -/
def tA (fx fy px p_y qx qy : Nat) : Nat := crK (Dv .sub px fx) (Dv .sub p_y fy) (Dv .sub qx fx) (Dv .sub qy fy)
/-- sums of the first k + 1 triangles -/
def sA (xs ys : Nat → Nat) : Nat → Nat
 | 0 => tA (xs 0) (ys 0) (xs 1) (ys 1) (xs 2) (ys 2)
 | k + 1 => Dv .add (sA xs ys k) (tA (xs 0) (ys 0) (xs (k + 2)) (ys (k + 2)) (xs (k + 3)) (ys (k + 3)))
theorem run_sub_dv (P : Program) (t : TypeId) (x y : Nat) (w : World) (hx : finK .f64 x = true) (hy : finK .f64 y = true) (oy : okK .f64 y) : (binOp .sub t (.float .f64 x) (.float .f64 y)).run P w = .ok (.float .f64 (Dv .sub x y)) w := by
 obtain ⟨v, hv⟩ := Option.isSome_iff_exists.1 (some_sub hx hy oy)
 rw [run_sub, show fd .sub .f64 x y = 0 by unfold fd; rw [hv]; rfl]
 unfold fv Dv
 rw [hv]; rfl
theorem wo_sv (x y : Nat) : woK .f64 x ≤ woK .f64 y ↔ svK .f64 x ≤ svK .f64 y := by
 have hx := woK_eq .f64 x
 have hy := woK_eq .f64 y
 have vz : vl FloatKind.f64.format 0 = 0 := vl_zero _
 have le : ∀ {r s : Nat}, vl FloatKind.f64.format r ≤ vl FloatKind.f64.format s ↔ r ≤ s := fun {r s} => by
  rw [← Nat.not_lt, ← Nat.not_lt, vl_lt_iff]
 have pos : ∀ r, vl FloatKind.f64.format r = 0 ↔ r = 0 := fun r => ⟨fun h => vl_inj _ (h.trans vz.symm), fun h => by rw [h]; exact vz⟩
 rw [hx, hy]
 show (if ngK .f64 x then -(rgK .f64 x : Int) else (rgK .f64 x : Int)) ≤ (if ngK .f64 y then -(rgK .f64 y : Int) else (rgK .f64 y : Int)) ↔ (if ngK .f64 x then -(vl FloatKind.f64.format (rgK .f64 x) : Int) else (vl FloatKind.f64.format (rgK .f64 x) : Int)) ≤ (if ngK .f64 y then -(vl FloatKind.f64.format (rgK .f64 y) : Int) else (vl FloatKind.f64.format (rgK .f64 y) : Int))
 generalize rgK .f64 x = a
 generalize rgK .f64 y = b
 have l1 := @le a b
 have l2 := @le b a
 have p1 := pos a
 have p2 := pos b
 generalize vl FloatKind.f64.format a = u at *
 generalize vl FloatKind.f64.format b = v at *
 cases ngK .f64 x <;> cases ngK .f64 y <;> simp <;> omega
theorem rv_le (x y : Nat) : rv x ≤ rv y ↔ svK .f64 x ≤ svK .f64 y := by
 rw [rv_sv, rv_sv]
 constructor
 ·intro h
  have := Rat.mul_le_mul_of_nonneg_right h (Rat.le_of_lt W_pos)
  rw [Rat.div_mul_cancel (Rat.ne_of_gt W_pos), Rat.div_mul_cancel (Rat.ne_of_gt W_pos)] at this
  exact Rat.intCast_le_intCast.1 this
 ·intro h
  rw [Rat.div_def, Rat.div_def]
  exact Rat.mul_le_mul_of_nonneg_right (Rat.intCast_le_intCast.2 h) (Rat.le_of_lt (Rat.inv_pos.2 W_pos))
theorem le_rv {x y : Nat} (hx : nanK .f64 x = false) (hy : nanK .f64 y = false) : leK .f64 x y = true ↔ rv x ≤ rv y := by
 unfold leK
 rw [hx, hy, rv_le, ← wo_sv]
 simp
end Go.Proofs.Ytfohggiehbplkaa
namespace Go.Proofs.Ytfohggiehbplkaa
open Ieee Go.RowKit
set_option linter.unusedVariables false
theorem res_sub_add {x y r : Nat} (oy : okK .f64 y) (h : resK .sub .f64 x y r) : resK .add .f64 x (Op.negFloat .f64 y) r := by
 unfold resK at *; rwa [← sub_is_add _ _ _ oy]
theorem sv_word (s : Bool) {r : Nat} (h : r < infK .f64) : finK .f64 (FloatKind.f64.format.word s r) = true ∧ svK .f64 (FloatKind.f64.format.word s r) = if s then -(vl FloatKind.f64.format r : Int) else (vl FloatKind.f64.format r : Int) := by
 have h' := Nat.le_of_lt h
 refine ⟨by unfold finK; rw [rgK_word _ _ _ h']; exact decide_eq_true h, by unfold svK; rw [ngK_word _ _ _ h', rgK_word _ _ _ h']⟩
theorem sv_abs (c : Nat) : (svK .f64 c).natAbs = vl FloatKind.f64.format (rgK .f64 c) := by unfold svK; split <;> simp
theorem add_exact {p q r c : Nat} (fp : finK .f64 p = true) (fq : finK .f64 q = true) (fc : finK .f64 c = true) (h : resK .add .f64 p q r) (e : svK .f64 p + svK .f64 q = svK .f64 c) : finK .f64 r = true ∧ svK .f64 r = svK .f64 c := by
 have k := add_spec .f64 p q fp fq
 rw [e, sv_abs] at k
 have re := rr_exact FloatKind.f64.format fb1 (rgK .f64 c) 0
 rw [Nat.pow_zero, Nat.mul_one] at re
 have hc : rgK .f64 c < infK .f64 := of_decide_eq_true fc
 rw [re, Nat.min_eq_left (Nat.le_of_lt hc)] at k
 have e2 := res_is h k
 obtain ⟨k1, k2⟩ := sv_word (if svK .f64 c = 0 then ngK .f64 p && ngK .f64 q else decide (svK .f64 c < 0)) hc
 rw [← e2] at k1 k2
 refine ⟨k1, ?_⟩
 rw [k2, ← sv_abs]
 by_cases z : svK .f64 c = 0
 ·rw [z]; simp
 ·rw [if_neg z]
  by_cases l : svK .f64 c < 0
  ·rw [if_pos (decide_eq_true l)]; omega
  ·rw [if_neg (by simpa using l)]; omega
theorem lt_sv {a b : Nat} (fa : finK .f64 a = true) (fb : finK .f64 b = true) : ltK .f64 a b = decide (svK .f64 a < svK .f64 b) := by
 have h2 := wo_sv b a
 unfold ltK
 rw [fin_num fa, fin_num fb]
 simp only [Bool.not_false, Bool.true_and]
 rw [decide_eq_decide]
 omega
end Go.Proofs.Ytfohggiehbplkaa
namespace Go.Proofs.Ytfohggiehbplkaa
open Ieee Go.RowKit
set_option linter.unusedSimpArgs false
theorem fin_nan {x : Nat} (h : finK .f64 x = true) : nanK .f64 x = false := by
 have h1 := h
 unfold finK at h1
 rw [nanK_eq]
 simp only [decide_eq_true_eq] at h1
 simp only [decide_eq_false_iff_not]
 exact Nat.not_lt.2 (Nat.le_of_lt h1)
def BdP (n : Nat) (p : Vp) : Prop := Bd n p.1 ∧ Bd n p.2
theorem BdP.mono {m n : Nat} {p : Vp} (h : BdP m p) (hn : m ≤ n) : BdP n p := ⟨bd_mono h.1 hn, bd_mono h.2 hn⟩
theorem oF_ok (op : BinOp) (x y : Nat) : okK .f64 (oF op x y) := by
 unfold oF bitsK
 split
 ·exact none_ok
 ·exact (res_o op x y).1
end Go.Proofs.Ytfohggiehbplkaa
namespace Go.Proofs.Ytfohggiehbplkaa
open Ieee Go.RowKit
set_option linter.unusedSimpArgs false
set_option linter.unusedVariables false
theorem rg_ok (x : Nat) : okK .f64 (rgK .f64 x) := by rw [okK64, rg64]; omega
theorem nan_l9 {op : BinOp} {x y r : Nat} (ho : op = .add ∨ op = .mul) (hx : nanK .f64 x = true) (h : resK op .f64 x y r) : nanK .f64 r = true := by
 rcases h.2 with e | e
 ·exfalso
  have hr := read_nan _ (okF .f64) x hx
  rcases ho with rfl | rfl
  ·have : floatBits .add .f64 x y = none := by
    show FloatKind.f64.format.add x y = none
    unfold Format.add; rw [hr]; cases FloatKind.f64.format.read y <;> rfl
   rw [this] at e; cases e
  ·have : floatBits .mul .f64 x y = none := by
    show FloatKind.f64.format.mul x y = none
    unfold Format.mul; rw [hr]; cases FloatKind.f64.format.read y <;> rfl
   rw [this] at e; cases e
 ·exact e.2
theorem nan_r9 {op : BinOp} {x y r : Nat} (ho : op = .add ∨ op = .mul) (hy : nanK .f64 y = true) (h : resK op .f64 x y r) : nanK .f64 r = true := by
 rcases h.2 with e | e
 ·exfalso
  have hr := read_nan _ (okF .f64) y hy
  rcases ho with rfl | rfl
  ·have : floatBits .add .f64 x y = none := by
    show FloatKind.f64.format.add x y = none
    unfold Format.add; rw [hr]; cases FloatKind.f64.format.read x <;> rfl
   rw [this] at e; cases e
  ·have : floatBits .mul .f64 x y = none := by
    show FloatKind.f64.format.mul x y = none
    unfold Format.mul; rw [hr]; cases FloatKind.f64.format.read x <;> rfl
   rw [this] at e; cases e
 ·exact e.2
def Zn (z : Nat) : Prop := rgK .f64 z = 0 ∨ nanK .f64 z = true
theorem zn_fin {z : Nat} (hz : rgK .f64 z = 0) : finK .f64 z = true := by unfold finK; rw [hz]; decide +kernel
theorem zn_mul {z x r : Nat} (hz : rgK .f64 z = 0) (h : resK .mul .f64 z x r) : Zn r := by
 cases hf : finK .f64 x
 ·right
  cases hn : nanK .f64 x
  ·rcases h.2 with e | e
   ·exfalso
    have h1 := read_inf _ (okF .f64) x (fin_inf hf hn)
    obtain ⟨m', p', e', hv'⟩ := read_num FloatKind.f64.format z (by rw [show rg FloatKind.f64.format z = 0 from hz]; exact infK_pos .f64)
    have hm' : m' = 0 := by
     rw [show rg FloatKind.f64.format z = 0 from hz, vl_zero] at hv'
     rcases Nat.mul_eq_zero.1 hv' with h | h
     ·exact h
     ·exact absurd h (Nat.ne_of_gt (Nat.two_pow_pos _))
    subst hm'
    have : floatBits .mul .f64 z x = none := by
     show FloatKind.f64.format.mul z x = none
     unfold Format.mul; rw [h1, e']; simp [Datum.product]
    rw [this] at e; cases e
   ·exact e.2
  ·exact nan_r9 (.inr rfl) hn h
 ·left
  have hx : rgK .f64 x < infK .f64 := of_decide_eq_true hf
  obtain ⟨m, p, e, hv⟩ := read_num FloatKind.f64.format x hx
  obtain ⟨m', p', e', hv'⟩ := read_num FloatKind.f64.format z (by rw [show rg FloatKind.f64.format z = 0 from hz]; exact infK_pos .f64)
  have hm' : m' = 0 := by
   rw [show rg FloatKind.f64.format z = 0 from hz, vl_zero] at hv'
   rcases Nat.mul_eq_zero.1 hv' with h | h
   ·exact h
   ·exact absurd h (Nat.ne_of_gt (Nat.two_pow_pos _))
  subst hm'
  have key : ∃ s, floatBits .mul .f64 z x = some (FloatKind.f64.format.word s 0) := by
   show ∃ s, (((FloatKind.f64.format.read z).product (FloatKind.f64.format.read x)).map _) = _
   rw [e, e']
   simp only [Datum.product, Option.map_some, Format.write, Nat.zero_mul]
   exact ⟨_, by unfold Format.nearest; rw [if_pos rfl]⟩
  obtain ⟨s, hs⟩ := key
  have hr : r = FloatKind.f64.format.word s 0 := by
   rcases h.2 with h | ⟨h, _⟩
   ·rw [hs] at h; exact (Option.some.inj h).symm
   ·rw [hs] at h; cases h
  rw [hr]
  exact rgK_word .f64 s 0 (Nat.zero_le _)
theorem zn_add {a b r : Nat} (ha : Zn a) (hb : Zn b) (h : resK .add .f64 a b r) : Zn r := by
 rcases ha with ha | ha
 ·rcases hb with hb | hb
  ·left
   have g := add_nought .f64 a b r (zn_fin ha) hb h
   unfold eqK at g
   simp only [Bool.and_eq_true, Bool.not_eq_true', decide_eq_true_eq] at g
   have h1 := g.2
   rw [woK_eq, woK_eq, ha] at h1
   cases ngK .f64 r <;> cases ngK .f64 a <;> simp at h1 <;> omega
  ·exact .inr (nan_r9 (.inl rfl) hb h)
 ·exact .inr (nan_l9 (.inl rfl) ha h)
theorem zn_bits {r : Nat} (h : Zn r) : Zn (bitsK r) := by
 cases hn : nanK .f64 r
 ·rw [bits_num hn]; exact h
 ·rw [bits_nan hn]; exact .inr none_nan
theorem zn_mulF {z x : Nat} (hz : rgK .f64 z = 0) : Zn (oF .mul z x) := zn_bits (zn_mul hz (res_o .mul z x))
theorem zn_addF {a b : Nat} (ha : Zn a) (hb : Zn b) : Zn (oF .add a b) := zn_bits (zn_add ha hb (res_o .add a b))
theorem zn_not {z : Nat} (h : Zn z) : ltK .f64 0 z = false := by
 unfold ltK
 rcases h with h | h
 ·rw [show woK .f64 0 = 0 by decide +kernel, woK_eq, h]; simp
 ·rw [h]; simp
/-- what can't be moved weighs nothing in a row -/
theorem mv_zero {m : Nat} (h : weB m = true) (g : ltK .f64 0 m = false) : rgK .f64 (bitsK m) = 0 := by
 have hn : nanK .f64 m = false := by
  unfold weB leK at h
  simp only [Bool.and_eq_true, Bool.not_eq_true'] at h
  exact h.1.1.2
 rw [bits_num hn]
 have e := we_ne h
 rw [g] at e
 rw [eqK_nought] at e
 exact of_decide_eq_true e
theorem wt_none {T : RD} {a b : SD} (h1 : stB a = true) (h2 : stB b = true) (n1 : ltK .f64 0 a.sm = false) (n2 : ltK .f64 0 a.si = false) (n3 : ltK .f64 0 b.sm = false) (n4 : ltK .f64 0 b.si = false) : ltK .f64 0 (wtF T a b) = false := by
 unfold stB at h1 h2
 rw [Bool.and_eq_true] at h1 h2
 unfold wtF
 exact zn_not (zn_addF (zn_addF (zn_addF (zn_mulF (mv_zero h1.1 n1)) (zn_mulF (mv_zero h1.2 n2))) (zn_mulF (mv_zero h2.1 n3))) (zn_mulF (mv_zero h2.2 n4)))
end Go.Proofs.Ytfohggiehbplkaa
