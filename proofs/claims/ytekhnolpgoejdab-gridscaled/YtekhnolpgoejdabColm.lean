/-
  Plain facts on floats, more: rounding to the nearest rung, sums and products of finite floats, signs turned. No program is named here.
-/
import Derived.Test.YtekhnolpgoejdabRndz
namespace Go.Proofs.Ytekhnolpgoejdab
open Ieee Go.RowKit
set_option linter.unusedSimpArgs false
set_option linter.unusedVariables false

/-! ### A quotient keeps the order -/
/-- what makes every float whole -/
def bigE : Nat := 1074
def bigU : Nat := 2 ^ bigE
theorem bigU_pow : ∃ E : Nat, FloatKind.f64.format.leastPlace = -(E : Int) ∧ bigU = 2 ^ E := ⟨bigE, by decide +kernel, rfl⟩
theorem four_of {a n : Nat} (h : 2 ≤ n) (b : Nat) : ∃ g, a * 2 ^ (n + b) = 4 * 2 ^ b * g := by
  obtain ⟨k, rfl⟩ : ∃ k, n = k + 2 := ⟨n - 2, by omega⟩
  exact ⟨a * 2 ^ k, by rw [show k + 2 + b = k + (2 + b) by omega, Nat.pow_add, Nat.pow_add]; generalize 2 ^ k = x; generalize 2 ^ b = y; grind⟩

/-- what lies halfway between two floats is a whole number of units, where what is rounded has digits enough -/
theorem rr_grid (A u t : Nat) (hA : 2 ^ 54 ≤ A) :
    (∃ h, (vl FloatKind.f64.format (rr FloatKind.f64.format (A * 2 ^ u) t) + vl FloatKind.f64.format (rr FloatKind.f64.format (A * 2 ^ u) t + 1)) * 2 ^ t = 4 * 2 ^ u * h) ∧
    ((∃ g, (vl FloatKind.f64.format (rr FloatKind.f64.format (A * 2 ^ u) t - 1) + vl FloatKind.f64.format (rr FloatKind.f64.format (A * 2 ^ u) t)) * 2 ^ t = 4 * 2 ^ u * g) ∨
      (rr FloatKind.f64.format (A * 2 ^ u) t % 2 = 0 ∧ (∃ g, vl FloatKind.f64.format (rr FloatKind.f64.format (A * 2 ^ u) t) * 2 ^ t = 2 * 2 ^ u * g) ∧ vl FloatKind.f64.format (rr FloatKind.f64.format (A * 2 ^ u) t) * 2 ^ t ≤ A * 2 ^ u)) := by
  have hA0 : A ≠ 0 := by intro h; subst h; simp at hA
  have hlA : 54 ≤ A.log2 := (Nat.le_log2 hA0).2 hA
  have hl : (A * 2 ^ u).log2 = A.log2 + u := log2_mul_pow A u hA0
  have hAu : A * 2 ^ u ≠ 0 := Nat.mul_ne_zero hA0 (Nat.ne_of_gt (Nat.two_pow_pos _))
  have hlo := log2_le (A * 2 ^ u) hAu
  have hhi := lt_log2 (A * 2 ^ u)
  have hfb : FloatKind.f64.format.fractionBits = 52 := rfl
  have hB : FloatKind.f64.format.binade = 2 ^ 52 := rfl
  obtain ⟨s1, s2, _⟩ := cut_spec (A * 2 ^ u) (t + ((A * 2 ^ u).log2 - (t + 52)))
  have hr : rr FloatKind.f64.format (A * 2 ^ u) t = ((A * 2 ^ u).log2 - (t + 52)) * 2 ^ 52 + Toward.even.cut false (A * 2 ^ u) (t + ((A * 2 ^ u).log2 - (t + 52))) := rfl
  rw [hr]
  generalize hc : Toward.even.cut false (A * 2 ^ u) (t + ((A * 2 ^ u).log2 - (t + 52))) = c at *
  generalize he : (A * 2 ^ u).log2 - (t + 52) = e at *
  by_cases e0 : e = 0
  · subst e0
    have ht : 2 + u ≤ t := by omega
    obtain ⟨k, hk⟩ : ∃ k, t = (k + 2) + u := ⟨t - 2 - u, by omega⟩
    refine ⟨?_, .inl ?_⟩
    · rw [hk]; exact four_of (by omega) u
    · rw [hk]; exact four_of (by omega) u
  · have hte : t + e = (A.log2 - 52) + u := by omega
    have hlog : (A * 2 ^ u).log2 = 52 + (t + e) := by omega
    rw [hlog] at hlo hhi
    rw [Nat.pow_add] at hlo
    rw [show 52 + (t + e) + 1 = 53 + (t + e) by omega, Nat.pow_add] at hhi
    have hX := Nat.two_pow_pos (t + e)
    have c1 : 2 ^ 52 ≤ c := by
      apply Decidable.byContradiction
      intro h
      have h' : c + 1 ≤ 2 ^ 52 := by omega
      have : (c + 1) * 2 ^ (t + e) ≤ 2 ^ 52 * 2 ^ (t + e) := Nat.mul_le_mul_right _ h'
      have e9 : (c + 1) * 2 ^ (t + e) = c * 2 ^ (t + e) + 2 ^ (t + e) := by rw [Nat.add_mul, Nat.one_mul]
      have e8 : 2 * c * 2 ^ (t + e) = 2 * (c * 2 ^ (t + e)) := by rw [Nat.mul_assoc]
      omega
    have c2 : c ≤ 2 ^ 53 := by
      apply Decidable.byContradiction
      intro h
      have h' : 2 ^ 53 + 1 ≤ c := by omega
      have : (2 ^ 53 + 1) * 2 ^ (t + e) ≤ c * 2 ^ (t + e) := Nat.mul_le_mul_right _ h'
      have e9 : (2 ^ 53 + 1) * 2 ^ (t + e) = 2 ^ 53 * 2 ^ (t + e) + 2 ^ (t + e) := by rw [Nat.add_mul, Nat.one_mul]
      have e8 : 2 * c * 2 ^ (t + e) = 2 * (c * 2 ^ (t + e)) := by rw [Nat.mul_assoc]
      omega
    have v0 : vl FloatKind.f64.format (e * 2 ^ 52 + c) = c * 2 ^ e := vl_mk2 FloatKind.f64.format e c (by rw [hB]; omega) (fun _ => by rw [hB]; exact c1)
    have v1 : ∃ d, vl FloatKind.f64.format (e * 2 ^ 52 + c + 1) = d * 2 ^ e := by
      by_cases h : c = 2 ^ 53
      · refine ⟨(2 ^ 52 + 1) * 2, ?_⟩
        have : e * 2 ^ 52 + c + 1 = (e + 1) * FloatKind.f64.format.binade + (2 ^ 52 + 1) := by rw [hB, h]; omega
        rw [this, vl_mk2 FloatKind.f64.format (e + 1) (2 ^ 52 + 1) (by rw [hB]; omega) (fun _ => by rw [hB]; omega), show 2 ^ (e + 1) = 2 ^ e * 2 from rfl, Nat.mul_assoc, Nat.mul_comm 2]
      · have h9 := vl_mk2 FloatKind.f64.format e (c + 1) (by rw [hB]; omega) (fun _ => by rw [hB]; omega)
        rw [hB] at h9
        rw [Nat.add_assoc]
        exact ⟨c + 1, h9⟩
    obtain ⟨d, v1⟩ := v1
    have hfour : ∀ a, ∃ g, a * 2 ^ e * 2 ^ t = 4 * 2 ^ u * g := fun a => by
      rw [Nat.mul_assoc, ← Nat.pow_add, show e + t = (A.log2 - 52) + u by omega]
      exact four_of (by omega) u
    refine ⟨?_, ?_⟩
    · rw [v0, v1, ← Nat.add_mul]
      exact hfour _
    · by_cases h : c = 2 ^ 52
      · refine .inr ⟨by rw [h]; omega, ?_, ?_⟩
        · rw [v0]
          obtain ⟨g, hg⟩ := hfour c
          exact ⟨2 * g, by rw [hg]; generalize 2 ^ u = x; grind⟩
        · rw [v0, h, Nat.mul_assoc, ← Nat.pow_add, show e + t = t + e by omega]
          exact hlo
      · refine .inl ?_
        have : e * 2 ^ 52 + c - 1 = e * 2 ^ 52 + (c - 1) := by omega
        have v2 : vl FloatKind.f64.format (e * 2 ^ 52 + (c - 1)) = (c - 1) * 2 ^ e := vl_mk2 FloatKind.f64.format e (c - 1) (by rw [hB]; omega) (fun _ => by rw [hB]; omega)
        rw [this, v2, v0, ← Nat.add_mul]
        exact hfour _

/-- the rung of a quotient: the nearest to what is exact -/
theorem quo_rung {x y : Nat} (hx : finK .f64 x = true) (hy : finK .f64 y = true) (h0 : mg y ≠ 0) : ∃ r,
    floatBits .quo .f64 x y = some (FloatKind.f64.format.word (ngK .f64 x ^^ ngK .f64 y) (min r (infK .f64))) ∧
    (r = 0 ∨ (vl FloatKind.f64.format (r - 1) + vl FloatKind.f64.format r) * mg y ≤ 2 * (mg x * bigU)) ∧
    2 * (mg x * bigU) ≤ (vl FloatKind.f64.format r + vl FloatKind.f64.format (r + 1)) * mg y ∧
    (r % 2 = 1 → (vl FloatKind.f64.format (r - 1) + vl FloatKind.f64.format r) * mg y < 2 * (mg x * bigU) ∧ 2 * (mg x * bigU) < (vl FloatKind.f64.format r + vl FloatKind.f64.format (r + 1)) * mg y) := by
  obtain ⟨m, p, e, hv, hm⟩ := read_num64 x hx
  obtain ⟨n, q, e', hv', hn⟩ := read_num64 y hy
  have hn0 : n ≠ 0 := fun h => h0 (by rw [← hv', h]; simp)
  obtain ⟨more, hmore⟩ : ∃ more, 54 + n.log2 - m.log2 = more := ⟨_, rfl⟩
  have hw : floatBits .quo .f64 x y = some (FloatKind.f64.format.nearest (ngK .f64 x ^^ ngK .f64 y) (2 * (m * 2 ^ more / n) + (m * 2 ^ more % n != 0).toNat) (FloatKind.f64.format.leastPlace + (p : Int) - (FloatKind.f64.format.leastPlace + (q : Int)) - (more : Int) - 1)) := by
    show FloatKind.f64.format.div _ _ = _
    unfold Format.div
    rw [e, e']
    simp only [Datum.quotient, if_neg hn0, Option.map_some, Format.write]
    rw [show FloatKind.f64.format.fractionBits + 2 = 54 from rfl, hmore, Nat.shiftLeft_eq]
  by_cases hm0 : m = 0
  · subst hm0
    refine ⟨0, ?_, .inl rfl, ?_, fun h => by omega⟩
    · rw [hw]; simpa using near_any0 _ _
    · rw [← hv]; simp
  have hD : 2 ^ 53 * n ≤ m * 2 ^ more := by
    have hl : m.log2 ≤ 52 := by
      have := (Nat.log2_lt hm0).2 hm
      omega
    have h1 := log2_le m hm0
    have h2 := lt_log2 n
    have h3 : 2 ^ m.log2 * 2 ^ more ≤ m * 2 ^ more := Nat.mul_le_mul_right _ h1
    rw [← Nat.pow_add, show m.log2 + more = 53 + (n.log2 + 1) by omega, Nat.pow_add] at h3
    have h4 : 2 ^ 53 * n ≤ 2 ^ 53 * 2 ^ (n.log2 + 1) := Nat.mul_le_mul_left _ (Nat.le_of_lt h2)
    omega
  -- the place: either below the least, or above
  obtain ⟨E, hE, hbU⟩ := bigU_pow
  obtain ⟨u, t, hut⟩ : ∃ u t : Nat, p + E + t = q + more + 1 + u := by
    by_cases h : p + E ≤ q + more + 1
    · exact ⟨0, q + more + 1 - (p + E), by omega⟩
    · exact ⟨p + E - (q + more + 1), 0, by omega⟩
  have hpl : FloatKind.f64.format.leastPlace + (p : Int) - (FloatKind.f64.format.leastPlace + (q : Int)) - (more : Int) - 1 = (FloatKind.f64.format.leastPlace - (t : Nat)) + (u : Nat) := by
    rw [hE]; omega
  rw [hpl, nearest_shift, nearest_rr] at hw
  clear hpl e e'
  have hdm := Nat.div_add_mod (m * 2 ^ more) n
  have hmod := Nat.mod_lt (m * 2 ^ more) (Nat.pos_of_ne_zero hn0)
  have hk53 : 2 ^ 53 ≤ m * 2 ^ more / n := (Nat.le_div_iff_mul_le (Nat.pos_of_ne_zero hn0)).2 hD
  have hx' : 2 * (mg x * bigU) * 2 ^ t = 4 * 2 ^ u * (m * 2 ^ more) * 2 ^ q := by
    rw [← hv, hbU]
    have e1 : 2 * (m * 2 ^ p * 2 ^ E) * 2 ^ t = 2 * m * 2 ^ (p + E + t) := by rw [Nat.pow_add, Nat.pow_add]; generalize 2 ^ E = z; generalize 2 ^ p = y; generalize 2 ^ t = x; grind
    rw [e1, hut, Nat.pow_add, Nat.pow_add, Nat.pow_add]
    generalize 2 ^ q = a; generalize 2 ^ more = b; generalize 2 ^ u = c
    grind
  generalize hs : (m * 2 ^ more % n != 0).toNat = s at *
  have hs1 : s = 0 ∧ m * 2 ^ more % n = 0 ∨ s = 1 ∧ 0 < m * 2 ^ more % n := by
    by_cases h : m * 2 ^ more % n = 0
    · left; rw [h] at hs; simp at hs; exact ⟨hs.symm, h⟩
    · right; have : (m * 2 ^ more % n != 0) = true := by simp [h]
      rw [this] at hs; exact ⟨by simpa using hs.symm, Nat.pos_of_ne_zero h⟩
  generalize m * 2 ^ more / n = k at *
  generalize m * 2 ^ more % n = rem at *
  generalize m * 2 ^ more = D at *
  have hU := Nat.two_pow_pos u
  have hT := Nat.two_pow_pos t
  have hQ := Nat.two_pow_pos q
  have kn : k * n ≤ D := by rw [Nat.mul_comm]; omega
  have kn1 : s = 1 → k * n < D := fun h1 => by rw [Nat.mul_comm]; omega
  have kn2 : D ≤ (k + s) * n := by
    rcases hs1 with ⟨a, b⟩ | ⟨a, b⟩
    · rw [a, Nat.add_zero, Nat.mul_comm]; omega
    · rw [a, Nat.add_mul, Nat.one_mul, Nat.mul_comm k]; omega
  have kn3 : s = 1 → D < (k + 1) * n := fun h1 => by rw [Nat.add_mul, Nat.one_mul, Nat.mul_comm k]; omega
  obtain ⟨⟨h, hh⟩, hg⟩ := rr_grid (2 * k + s) u t (by omega)
  obtain ⟨p1, p2, p3⟩ := rr_spec FloatKind.f64.format (by decide) ((2 * k + s) * 2 ^ u) t
  refine ⟨rr FloatKind.f64.format ((2 * k + s) * 2 ^ u) t, hw, ?_⟩
  generalize rr FloatKind.f64.format ((2 * k + s) * 2 ^ u) t = r at *
  rw [← hv']
  -- to hold a number of floats against D
  have below : ∀ {V g : Nat}, V * 2 ^ t = 4 * 2 ^ u * g → g * n ≤ D → V * (n * 2 ^ q) ≤ 2 * (mg x * bigU) := fun {V g} hV hle => by
    refine Nat.le_of_mul_le_mul_right ?_ hT
    have e1 : V * (n * 2 ^ q) * 2 ^ t = (V * 2 ^ t) * (n * 2 ^ q) := by generalize 2 ^ q = a; generalize 2 ^ t = b; grind
    rw [e1, hV, hx']
    have e2 : 4 * 2 ^ u * g * (n * 2 ^ q) = 4 * 2 ^ u * (g * n) * 2 ^ q := by generalize 2 ^ q = a; generalize 2 ^ u = b; grind
    rw [e2]
    exact Nat.mul_le_mul_right _ (Nat.mul_le_mul_left _ hle)
  have belowS : ∀ {V g : Nat}, V * 2 ^ t = 4 * 2 ^ u * g → g * n < D → V * (n * 2 ^ q) < 2 * (mg x * bigU) := fun {V g} hV hle => by
    refine Nat.lt_of_mul_lt_mul_right (a := 2 ^ t) ?_
    have e1 : V * (n * 2 ^ q) * 2 ^ t = (V * 2 ^ t) * (n * 2 ^ q) := by generalize 2 ^ q = a; generalize 2 ^ t = b; grind
    rw [e1, hV, hx']
    have e2 : 4 * 2 ^ u * g * (n * 2 ^ q) = 4 * 2 ^ u * (g * n) * 2 ^ q := by generalize 2 ^ q = a; generalize 2 ^ u = b; grind
    rw [e2]
    exact Nat.mul_lt_mul_of_pos_right (Nat.mul_lt_mul_of_pos_left hle (by omega)) hQ
  have above : ∀ {V g : Nat}, V * 2 ^ t = 4 * 2 ^ u * g → D ≤ g * n → 2 * (mg x * bigU) ≤ V * (n * 2 ^ q) := fun {V g} hV hle => by
    refine Nat.le_of_mul_le_mul_right ?_ hT
    have e1 : V * (n * 2 ^ q) * 2 ^ t = (V * 2 ^ t) * (n * 2 ^ q) := by generalize 2 ^ q = a; generalize 2 ^ t = b; grind
    rw [e1, hV, hx']
    have e2 : 4 * 2 ^ u * g * (n * 2 ^ q) = 4 * 2 ^ u * (g * n) * 2 ^ q := by generalize 2 ^ q = a; generalize 2 ^ u = b; grind
    rw [e2]
    exact Nat.mul_le_mul_right _ (Nat.mul_le_mul_left _ hle)
  have aboveS : ∀ {V g : Nat}, V * 2 ^ t = 4 * 2 ^ u * g → D < g * n → 2 * (mg x * bigU) < V * (n * 2 ^ q) := fun {V g} hV hle => by
    refine Nat.lt_of_mul_lt_mul_right (a := 2 ^ t) ?_
    have e1 : V * (n * 2 ^ q) * 2 ^ t = (V * 2 ^ t) * (n * 2 ^ q) := by generalize 2 ^ q = a; generalize 2 ^ t = b; grind
    rw [e1, hV, hx']
    have e2 : 4 * 2 ^ u * g * (n * 2 ^ q) = 4 * 2 ^ u * (g * n) * 2 ^ q := by generalize 2 ^ q = a; generalize 2 ^ u = b; grind
    rw [e2]
    exact Nat.mul_lt_mul_of_pos_right (Nat.mul_lt_mul_of_pos_left hle (by omega)) hQ
  have eA : 2 * ((2 * k + s) * 2 ^ u) = 2 ^ u * (2 * (2 * k + s)) := by generalize 2 ^ u = b; grind
  have eF : ∀ g, 4 * 2 ^ u * g = 2 ^ u * (4 * g) := fun g => by generalize 2 ^ u = b; grind
  rw [eA] at p1 p2 p3
  rw [hh, eF] at p2 p3
  have p2 := Nat.le_of_mul_le_mul_left p2 hU
  refine ⟨?_, above hh (Nat.le_trans kn2 (Nat.mul_le_mul_right _ (by clear hg; omega))), ?_⟩
  · rcases p1 with p1 | p1
    · exact .inl p1
    · right
      rcases hg with ⟨g, hg⟩ | ⟨_, ⟨g, hg⟩, hle⟩
      · rw [hg, eF] at p1
        have p1 := Nat.le_of_mul_le_mul_left p1 hU
        exact below hg (Nat.le_trans (Nat.mul_le_mul_right _ (by omega)) kn)
      · rw [hg] at hle
        have eG : 2 * 2 ^ u * g = 2 ^ u * (2 * g) := by generalize 2 ^ u = b; grind
        rw [eG, Nat.mul_comm (2 * k + s)] at hle
        have hle := Nat.le_of_mul_le_mul_left hle hU
        have hb := below (V := vl FloatKind.f64.format r * 2) (g := g) (by rw [Nat.mul_right_comm, hg]; generalize 2 ^ u = b; grind) (Nat.le_trans (Nat.mul_le_mul_right _ (by omega)) kn)
        refine Nat.le_trans (Nat.mul_le_mul_right _ ?_) hb
        have := vl_le FloatKind.f64.format (show r - 1 ≤ r by omega)
        omega
  · intro hodd
    have p3 := p3 hodd
    constructor
    · rcases hg with ⟨g, hg⟩ | ⟨ev, _⟩
      · have p4 := p3.1
        rw [hg, eF] at p4
        have p4 := Nat.lt_of_mul_lt_mul_left p4
        rcases hs1 with ⟨a, b⟩ | ⟨a, b⟩
        · refine belowS hg (Nat.lt_of_lt_of_le (Nat.mul_lt_mul_of_pos_right (show g < k by omega) (Nat.pos_of_ne_zero hn0)) kn)
        · exact belowS hg (Nat.lt_of_le_of_lt (Nat.mul_le_mul_right _ (show g ≤ k by omega)) (kn1 a))
      · omega
    · have p4 := Nat.lt_of_mul_lt_mul_left p3.2
      rcases hs1 with ⟨a, b⟩ | ⟨a, b⟩
      · refine aboveS hh (Nat.lt_of_le_of_lt kn2 (Nat.mul_lt_mul_of_pos_right (show k + s < h by clear hg; omega) (Nat.pos_of_ne_zero hn0)))
      · exact aboveS hh (Nat.lt_of_lt_of_le (kn3 a) (Nat.mul_le_mul_right _ (show k + 1 ≤ h by clear hg; omega)))

/-- of two numbers without signs the greater one has the greater quotient -/
theorem quo_grow {x x' y : Nat} (hx : finK .f64 x = true) (hx' : finK .f64 x' = true) (hy : finK .f64 y = true) (h0 : mg y ≠ 0) (h : mg x ≤ mg x') : ∃ r r',
    floatBits .quo .f64 x y = some (FloatKind.f64.format.word (ngK .f64 x ^^ ngK .f64 y) (min r (infK .f64))) ∧ floatBits .quo .f64 x' y = some (FloatKind.f64.format.word (ngK .f64 x' ^^ ngK .f64 y) (min r' (infK .f64))) ∧ r ≤ r' := by
  obtain ⟨r, e, a1, a2, a3⟩ := quo_rung hx hy h0
  obtain ⟨s, e', b1, b2, b3⟩ := quo_rung hx' hy h0
  refine ⟨r, s, e, e', ?_⟩
  apply Decidable.byContradiction
  intro g
  have g : s < r := by omega
  have hY : 0 < mg y := Nat.pos_of_ne_zero h0
  have h1 : vl FloatKind.f64.format s ≤ vl FloatKind.f64.format (r - 1) := vl_le _ (by omega)
  have h2 : vl FloatKind.f64.format (s + 1) ≤ vl FloatKind.f64.format r := vl_le _ (by omega)
  have h3 : (vl FloatKind.f64.format s + vl FloatKind.f64.format (s + 1)) * mg y ≤ (vl FloatKind.f64.format (r - 1) + vl FloatKind.f64.format r) * mg y := Nat.mul_le_mul_right _ (by omega)
  have h9 : mg x * bigU ≤ mg x' * bigU := Nat.mul_le_mul_right _ h
  generalize mg x * bigU = X at *
  generalize mg x' * bigU = X' at *
  have a1 := a1.resolve_left (by omega)
  by_cases hr : r % 2 = 1
  · have := (a3 hr).1; omega
  · by_cases hs : s % 2 = 1
    · have := (b3 hs).2; omega
    · have h4 : s < r - 1 := by omega
      have h5 := vl_lt FloatKind.f64.format h4
      have h6 : (vl FloatKind.f64.format s + vl FloatKind.f64.format (s + 1)) * mg y < (vl FloatKind.f64.format (r - 1) + vl FloatKind.f64.format r) * mg y := Nat.mul_lt_mul_of_pos_right (by omega) hY
      omega
end Go.Proofs.Ytekhnolpgoejdab
namespace Go.Proofs.Ytekhnolpgoejdab
open Ieee Go.RowKit
set_option linter.unusedSimpArgs false
set_option linter.unusedVariables false

/-! ### Rounded down, held within bounds, made a whole number: each keeps the order -/
theorem cut_low (n d : Nat) : n / (1 <<< min d (n.log2 + 2)) = n / 2 ^ d ∧ n % (1 <<< min d (n.log2 + 2)) = n % 2 ^ d := by
  by_cases h : d ≤ n.log2 + 2
  · rw [Nat.min_eq_left h, Nat.shiftLeft_eq, Nat.one_mul]; exact ⟨rfl, rfl⟩
  · rw [Nat.min_eq_right (by omega), Nat.shiftLeft_eq, Nat.one_mul]
    have h1 : n < 2 ^ (n.log2 + 2) := Nat.lt_of_lt_of_le (lt_log2 n) (Nat.pow_le_pow_right (by omega) (by omega))
    have h2 : n < 2 ^ d := Nat.lt_of_lt_of_le h1 (Nat.pow_le_pow_right (by omega) (by omega))
    rw [Nat.div_eq_of_lt h1, Nat.div_eq_of_lt h2, Nat.mod_eq_of_lt h1, Nat.mod_eq_of_lt h2]; exact ⟨rfl, rfl⟩
theorem cut_down (s : Bool) (n d : Nat) : Toward.down.cut s n d = n / 2 ^ d + (s && (n % 2 ^ d != 0)).toNat := by
  obtain ⟨h1, h2⟩ := cut_low n d
  unfold Toward.cut
  simp only [h1, h2]
theorem cut_zero (s : Bool) (n d : Nat) : Toward.zero.cut s n d = n / 2 ^ d := by
  obtain ⟨h1, h2⟩ := cut_low n d
  unfold Toward.cut
  simp only [h1, h2]
  rfl

def flM (s : Bool) (g : Nat) : Nat := g / bigU + (s && (g % bigU != 0)).toNat
theorem bigU_pos : 0 < bigU := Nat.two_pow_pos _
theorem flM_mono (s : Bool) {g h : Nat} (l : g ≤ h) : flM s g ≤ flM s h := by
  unfold flM
  have hU := bigU_pos
  have h1 := Nat.div_le_div_right (c := bigU) l
  cases s
  · simpa using h1
  · by_cases e : g / bigU = h / bigU
    · have a := Nat.div_add_mod g bigU
      have b := Nat.div_add_mod h bigU
      rw [e] at a ⊢
      by_cases z : g % bigU = 0
      · rw [z]; simp
      · have : h % bigU ≠ 0 := by omega
        rw [show (g % bigU != 0) = true by simp [z], show (h % bigU != 0) = true by simp [this]]; exact Nat.le_refl _
    · have : ((true && (g % bigU != 0)).toNat) ≤ 1 := Bool.toNat_le _
      omega
theorem flM_zero (s : Bool) : flM s 0 = 0 := by unfold flM; simp

/-- the parts of a number that is made whole -/
theorem whole_parts {x : Nat} (hx : finK .f64 x = true) : (FloatKind.f64.decode x).integral .down = .number (ngK .f64 x) (flM (ngK .f64 x) (mg x)) 0 ∧ (FloatKind.f64.decode x).integral .zero = .number (ngK .f64 x) (mg x / bigU) 0 := by
  obtain ⟨m, p, e, hv, _⟩ := read_num64 x hx
  have e : FloatKind.f64.decode x = _ := e
  rw [e, ← hv]
  obtain ⟨E, hE, hbU⟩ := bigU_pow
  have hl := hE
  unfold Datum.integral flM
  simp only []
  rw [cut_down, cut_zero, hl, Nat.shiftLeft_eq, hbU]
  clear hE hbU hl hv e
  by_cases h : E ≤ p
  · have e1 : (-(E : Int) + (p : Int)).toNat = p - E := by omega
    have e2 : (-(-(E : Int) + (p : Int))).toNat = 0 := by omega
    have e3 : m * 2 ^ p = m * 2 ^ (p - E) * 2 ^ E := by rw [Nat.mul_assoc, ← Nat.pow_add]; congr 2; omega
    rw [e1, e2, e3]
    generalize 2 ^ (p - E) = u at *
    have := Nat.two_pow_pos E
    generalize 2 ^ E = v at *
    rw [Nat.mul_div_cancel _ this, Nat.mul_mod_left, Nat.pow_zero, Nat.div_one, Nat.mod_one]
    exact ⟨rfl, rfl⟩
  · have e1 : (-(E : Int) + (p : Int)).toNat = 0 := by omega
    have e2 : (-(-(E : Int) + (p : Int))).toNat = E - p := by omega
    have e3 : 2 ^ E = 2 ^ (E - p) * 2 ^ p := by rw [← Nat.pow_add]; congr 1; omega
    rw [e1, e2, e3]
    have hp := Nat.two_pow_pos p
    generalize 2 ^ (E - p) = u at *
    rw [Nat.pow_zero, Nat.mul_one]
    generalize 2 ^ p = v at *
    rw [Nat.mul_div_mul_right _ _ hp, Nat.mul_mod_mul_right]
    have : (m % u * v != 0) = (m % u != 0) := by
      by_cases z : m % u = 0
      · rw [z]; simp
      · have : m % u * v ≠ 0 := Nat.mul_ne_zero z (by omega)
        rw [show (m % u * v != 0) = true by simp only [bne_iff_ne]; exact this, show (m % u != 0) = true by simp only [bne_iff_ne]; exact z]
    rw [this]
    exact ⟨rfl, rfl⟩

theorem inf_pos : 0 < infK .f64 := by decide +kernel
theorem min_up {a b : Nat} (I : Nat) (h : a ≤ b) : min a I ≤ min b I := by omega
def flK (x : Nat) : Nat := FloatKind.f64.encode ((FloatKind.f64.decode x).integral .down)
theorem fl_word {x : Nat} (hx : finK .f64 x = true) : flK x = FloatKind.f64.format.word (ngK .f64 x) (min (rr FloatKind.f64.format (flM (ngK .f64 x) (mg x) * bigU) 0) (infK .f64)) := by
  unfold flK
  rw [(whole_parts hx).1]
  obtain ⟨E, hE, hbU⟩ := bigU_pow
  have hl := hE
  show FloatKind.f64.format.nearest _ _ _ = _
  rw [show (0 : Int) = (FloatKind.f64.format.leastPlace - ((0 : Nat) : Int)) + ((E : Nat) : Int) by rw [hl]; omega, nearest_shift, nearest_rr, hbU]
  rfl
theorem fl_inf {x : Nat} (hx : finK .f64 x = false) (n : nanK .f64 x = false) : flK x = FloatKind.f64.format.word (ngK .f64 x) (infK .f64) := by
  have e : FloatKind.f64.decode x = .infinity (ngK .f64 x) := read_inf _ (okF .f64) x (fin_inf hx n)
  unfold flK
  rw [e]; rfl

/-- to keep the order: rung by rung -/
theorem wo_up {x y a b : Nat} (ha : a ≤ infK .f64) (hb : b ≤ infK .f64) (h1 : rgK .f64 x ≤ rgK .f64 y → ngK .f64 x = ngK .f64 y → a ≤ b) (h2 : rgK .f64 y ≤ rgK .f64 x → ngK .f64 x = ngK .f64 y → b ≤ a) (za : rgK .f64 x = 0 → a = 0) (zb : rgK .f64 y = 0 → b = 0) (h : woK .f64 x ≤ woK .f64 y) :
    woK .f64 (FloatKind.f64.format.word (ngK .f64 x) a) ≤ woK .f64 (FloatKind.f64.format.word (ngK .f64 y) b) := by
  rw [wo_word _ _ _ ha, wo_word _ _ _ hb]
  rw [woK_eq, woK_eq] at h
  generalize infK .f64 = I at *
  cases hx : ngK .f64 x <;> cases hy : ngK .f64 y <;> rw [hx, hy] at h <;> rw [hx, hy] at h1 h2 <;> simp only [Bool.false_eq_true, if_false, if_true] at h ⊢
  · have := h1 (by omega) rfl; omega
  · have := za (by omega); have := zb (by omega); omega
  · omega
  · have := h2 (by omega) rfl; omega

theorem mg_mono {x y : Nat} (h : rgK .f64 x ≤ rgK .f64 y) : mg x ≤ mg y := vl_le _ h
theorem not_fin {x : Nat} (hx : finK .f64 x = false) : infK .f64 ≤ rgK .f64 x := by
  unfold finK at hx; simpa using hx
theorem is_fin {x : Nat} (hx : finK .f64 x = true) : rgK .f64 x < infK .f64 := by
  unfold finK at hx; simpa using hx

theorem fl_rung {x : Nat} (n : nanK .f64 x = false) : ∃ a, a ≤ infK .f64 ∧ flK x = FloatKind.f64.format.word (ngK .f64 x) a ∧ (rgK .f64 x = 0 → a = 0) ∧ (finK .f64 x = true → a = min (rr FloatKind.f64.format (flM (ngK .f64 x) (mg x) * bigU) 0) (infK .f64)) ∧ (finK .f64 x = false → a = infK .f64) := by
  cases hx : finK .f64 x
  · refine ⟨infK .f64, Nat.le_refl _, fl_inf hx n, fun h => absurd (not_fin hx) ?_, (fun h => by cases h), fun _ => rfl⟩
    rw [h]; exact Nat.not_le.2 inf_pos
  · refine ⟨_, Nat.min_le_right _ _, fl_word hx, fun h => ?_, fun _ => rfl, fun h => by cases h⟩
    rw [mg_zero.2 h, flM_zero, Nat.zero_mul, rr_zero]; exact Nat.zero_min _
theorem fl_num {x : Nat} (n : nanK .f64 x = false) : nanK .f64 (flK x) = false ∧ okK .f64 (flK x) := by
  obtain ⟨a, ha, e, _⟩ := fl_rung n
  rw [e]; exact ⟨nan_word _ _ _ ha, word_okK _ _ _ ha⟩
theorem fl_mono {x y : Nat} (nx : nanK .f64 x = false) (ny : nanK .f64 y = false) (h : woK .f64 x ≤ woK .f64 y) : woK .f64 (flK x) ≤ woK .f64 (flK y) := by
  obtain ⟨a, ha, ea, za, fa, ia⟩ := fl_rung nx
  obtain ⟨b, hb, eb, zb, fb, ib⟩ := fl_rung ny
  rw [ea, eb]
  have key : ∀ {u v c d : Nat}, (finK .f64 u = true → c = min (rr FloatKind.f64.format (flM (ngK .f64 u) (mg u) * bigU) 0) (infK .f64)) → c ≤ infK .f64 → (finK .f64 v = true → d = min (rr FloatKind.f64.format (flM (ngK .f64 v) (mg v) * bigU) 0) (infK .f64)) → (finK .f64 v = false → d = infK .f64) →
      rgK .f64 u ≤ rgK .f64 v → ngK .f64 u = ngK .f64 v → c ≤ d := by
    intro u v c d hc hci hd hdi hr hn
    cases hv : finK .f64 v
    · rw [hdi hv]; exact hci
    · have hu : finK .f64 u = true := by unfold finK; rw [decide_eq_true_iff]; exact Nat.lt_of_le_of_lt hr (is_fin hv)
      rw [hc hu, hd hv, hn]
      exact min_up _ (rr_mono FloatKind.f64.format (by decide) 0 (Nat.mul_le_mul_right bigU (flM_mono (ngK .f64 v) (mg_mono hr))))
  exact wo_up ha hb (fun h1 h2 => key fa ha fb ib h1 h2) (fun h1 h2 => key fb hb fa ia h1 h2.symm) za zb h

/-- may a width be? -/
def mayW (w : Nat) : Bool := leK .f64 4472074429978902528 w && leK .f64 w 4787326403894837248
theorem may_num {w : Nat} (h : mayW w = true) : finK .f64 w = true ∧ ngK .f64 w = false ∧ mg w ≠ 0 := by
  unfold mayW leK at h
  simp only [Bool.and_eq_true, decide_eq_true_eq, Bool.not_eq_true'] at h
  obtain ⟨⟨⟨_, n⟩, h1⟩, ⟨_, h2⟩⟩ := h
  have k1 : woK .f64 4472074429978902528 = 4472074429978902528 := by decide +kernel
  have k2 : woK .f64 4787326403894837248 = 4787326403894837248 := by decide +kernel
  rw [k1] at h1
  rw [k2] at h2
  rw [woK_eq] at h1 h2
  have ki : infK .f64 = 9218868437227405312 := by decide +kernel
  cases hg : ngK .f64 w
  · rw [hg] at h1 h2
    simp only [Bool.false_eq_true, if_false] at h1 h2
    refine ⟨by unfold finK; rw [ki, decide_eq_true_iff]; omega, rfl, ?_⟩
    unfold mg
    have : 0 < rgK .f64 w := by omega
    have := vl_lt FloatKind.f64.format this
    omega
  · rw [hg] at h1
    simp only [if_true] at h1
    omega

theorem quo_infx {x y : Nat} (hx : finK .f64 x = false) (nx : nanK .f64 x = false) (hy : finK .f64 y = true) : floatBits .quo .f64 x y = some (FloatKind.f64.format.word (ngK .f64 x ^^ ngK .f64 y) (infK .f64)) := by
  obtain ⟨n, q, e', hv', hn⟩ := read_num64 y hy
  show FloatKind.f64.format.div _ _ = _
  unfold Format.div
  rw [read_inf _ (okF .f64) x (fin_inf hx nx), e']
  rfl
theorem qu_rung {x w : Nat} (n : nanK .f64 x = false) (h : mayW w = true) : ∃ a, a ≤ infK .f64 ∧ floatBits .quo .f64 x w = some (FloatKind.f64.format.word (ngK .f64 x) a) ∧ (rgK .f64 x = 0 → a = 0) ∧ (finK .f64 x = false → a = infK .f64) := by
  obtain ⟨hw, gw, mw⟩ := may_num h
  cases hx : finK .f64 x
  · refine ⟨infK .f64, Nat.le_refl _, by rw [quo_infx hx n hw, gw, Bool.xor_false], fun h => absurd (not_fin hx) ?_, fun _ => rfl⟩
    rw [h]; exact Nat.not_le.2 inf_pos
  · obtain ⟨r, e, a1, _⟩ := quo_rung hx hw mw
    refine ⟨min r (infK .f64), Nat.min_le_right _ _, by rw [e, gw, Bool.xor_false], fun h => ?_, fun h => by cases h⟩
    rcases a1 with a1 | a1
    · rw [a1]; exact Nat.zero_min _
    · rw [mg_zero.2 h, Nat.zero_mul, Nat.mul_zero] at a1
      have hr0 : r = 0 := by
        apply Decidable.byContradiction
        intro hr
        have h1 := vl_lt FloatKind.f64.format (show r - 1 < r by omega)
        have h2 : 0 < (vl FloatKind.f64.format (r - 1) + vl FloatKind.f64.format r) * mg w := Nat.mul_pos (by omega) (Nat.pos_of_ne_zero mw)
        omega
      rw [hr0]; exact Nat.zero_min _
theorem qu_num {x w : Nat} (n : nanK .f64 x = false) (h : mayW w = true) : floatBits .quo .f64 x w = some (Dv .quo x w) ∧ nanK .f64 (Dv .quo x w) = false ∧ okK .f64 (Dv .quo x w) := by
  obtain ⟨a, ha, e, _⟩ := qu_rung n h
  rw [dv_some e, e]; exact ⟨rfl, nan_word _ _ _ ha, word_okK _ _ _ ha⟩
theorem qu_mono {x y w : Nat} (nx : nanK .f64 x = false) (ny : nanK .f64 y = false) (h : mayW w = true) (l : woK .f64 x ≤ woK .f64 y) : woK .f64 (Dv .quo x w) ≤ woK .f64 (Dv .quo y w) := by
  obtain ⟨hw, gw, mw⟩ := may_num h
  obtain ⟨a, ha, ea, za, ia⟩ := qu_rung nx h
  obtain ⟨b, hb, eb, zb, ib⟩ := qu_rung ny h
  rw [dv_some ea, dv_some eb]
  have key : ∀ {u v c d : Nat}, nanK .f64 u = false → nanK .f64 v = false → c ≤ infK .f64 → d ≤ infK .f64 → floatBits .quo .f64 u w = some (FloatKind.f64.format.word (ngK .f64 u) c) → floatBits .quo .f64 v w = some (FloatKind.f64.format.word (ngK .f64 v) d) → (finK .f64 v = false → d = infK .f64) →
      rgK .f64 u ≤ rgK .f64 v → c ≤ d := by
    intro u v c d nu nv hc hd ec ed hdi hr
    cases hv : finK .f64 v
    · rw [hdi hv]; exact hc
    · have hu : finK .f64 u = true := by unfold finK; rw [decide_eq_true_iff]; exact Nat.lt_of_le_of_lt hr (is_fin hv)
      obtain ⟨r, r', e1, e2, hle⟩ := quo_grow hu hv hw mw (mg_mono hr)
      rw [e1, gw, Bool.xor_false] at ec
      rw [e2, gw, Bool.xor_false] at ed
      have c1 := congrArg (rgK .f64) (Option.some.inj ec)
      have c2 := congrArg (rgK .f64) (Option.some.inj ed)
      rw [rgK_word _ _ _ (Nat.min_le_right _ _), rgK_word _ _ _ hc] at c1
      rw [rgK_word _ _ _ (Nat.min_le_right _ _), rgK_word _ _ _ hd] at c2
      rw [← c1, ← c2]
      exact min_up _ hle
  exact wo_up ha hb (fun h1 _ => key nx ny ha hb ea eb ib h1) (fun h1 _ => key ny nx hb ha eb ea ia h1) za zb l

/-! ### The column of a place -/
def loW : Nat := 14069245235905429504
def hiW : Nat := 4845873199050653696
def coW (x w : Nat) : Nat := clK .f64 (flK (Dv .quo x w)) loW hiW
def toI (x : Nat) : Int := ((FloatKind.f64.decode x).toInt .zero).getD 0
def coK (x w : Nat) : Int := toI (coW x w)
theorem lo_wo : woK .f64 loW = -4845873199050653696 := by decide +kernel
theorem hi_wo : woK .f64 hiW = 4845873199050653696 := by decide +kernel
theorem lo_nan : nanK .f64 loW = false := by decide +kernel
theorem hi_nan : nanK .f64 hiW = false := by decide +kernel
theorem cl_wo {a : Nat} (n : nanK .f64 a = false) : nanK .f64 (clK .f64 a loW hiW) = false ∧ woK .f64 (clK .f64 a loW hiW) = max (-4845873199050653696) (min (woK .f64 a) 4845873199050653696) := by
  unfold clK ltK
  rw [n, lo_nan, hi_nan, lo_wo, hi_wo]
  simp only [Bool.not_false, Bool.true_and, decide_eq_false_iff_not, decide_eq_true_eq]
  split
  · exact ⟨lo_nan, by rw [lo_wo]; omega⟩
  · split
    · exact ⟨hi_nan, by rw [hi_wo]; omega⟩
    · exact ⟨n, by omega⟩
theorem toI_fin {x : Nat} (hx : finK .f64 x = true) : (FloatKind.f64.decode x).toInt .zero = some (toI x) ∧ toI x = if ngK .f64 x then -((mg x / bigU : Nat) : Int) else ((mg x / bigU : Nat) : Int) := by
  have h : (FloatKind.f64.decode x).toInt .zero = some (signed (ngK .f64 x) (mg x / bigU) 0) := by
    unfold Datum.toInt
    rw [(whole_parts hx).2]
  have h2 : toI x = signed (ngK .f64 x) (mg x / bigU) 0 := by unfold toI; rw [h]; rfl
  refine ⟨by rw [h, h2], ?_⟩
  rw [h2]; unfold signed
  rw [Nat.shiftLeft_zero]
theorem hi_mgU : mg hiW = 9007199254740992 * bigU := by decide +kernel
theorem in_bounds {x : Nat} (h : woK .f64 x ≤ 4845873199050653696) (l : -4845873199050653696 ≤ woK .f64 x) : finK .f64 x = true ∧ -9007199254740992 ≤ toI x ∧ toI x ≤ 9007199254740992 := by
  have hr : rgK .f64 x ≤ 4845873199050653696 := by rw [woK_eq] at h l; split at h <;> rename_i e <;> simp [e] at l <;> omega
  have ki : infK .f64 = 9218868437227405312 := by decide +kernel
  have hf : finK .f64 x = true := by unfold finK; rw [ki, decide_eq_true_iff]; omega
  have hm : mg x ≤ mg hiW := mg_mono (by rw [show rgK .f64 hiW = 4845873199050653696 by decide +kernel]; exact hr)
  have hd : mg x / bigU ≤ 9007199254740992 := by
    have := Nat.div_le_div_right (c := bigU) hm
    rw [hi_mgU, Nat.mul_div_cancel _ bigU_pos] at this
    exact this
  obtain ⟨_, e⟩ := toI_fin hf
  generalize mg x / bigU = q at *
  refine ⟨hf, ?_⟩
  rw [e]; split <;> omega
theorem toI_mono {x y : Nat} (hx : finK .f64 x = true) (hy : finK .f64 y = true) (h : woK .f64 x ≤ woK .f64 y) : toI x ≤ toI y := by
  rw [(toI_fin hx).2, (toI_fin hy).2]
  rw [woK_eq, woK_eq] at h
  have key : ∀ {u v : Nat}, rgK .f64 u ≤ rgK .f64 v → mg u / bigU ≤ mg v / bigU := fun hr => Nat.div_le_div_right (mg_mono hr)
  have z : ∀ {u : Nat}, rgK .f64 u = 0 → mg u / bigU = 0 := fun hr => by rw [mg_zero.2 hr, Nat.zero_div]
  cases hx : ngK .f64 x <;> cases hy : ngK .f64 y <;> rw [hx, hy] at h <;> simp only [Bool.false_eq_true, if_false, if_true] at h ⊢
  · have := key (show rgK .f64 x ≤ rgK .f64 y by omega); omega
  · rw [z (show rgK .f64 x = 0 by omega), z (show rgK .f64 y = 0 by omega)]; decide
  · have h1 : (0 : Int) ≤ ((mg x / bigU : Nat) : Int) := Int.natCast_nonneg _
    have h2 : (0 : Int) ≤ ((mg y / bigU : Nat) : Int) := Int.natCast_nonneg _
    generalize ((mg x / bigU : Nat) : Int) = a at *
    generalize ((mg y / bigU : Nat) : Int) = b at *
    omega
  · have := key (show rgK .f64 y ≤ rgK .f64 x by omega); omega
/-- what a column is: it is told, and not far -/
theorem co_all {x w : Nat} (n : nanK .f64 x = false) (h : mayW w = true) : floatBits .quo .f64 x w = some (Dv .quo x w) ∧ nanK .f64 (Dv .quo x w) = false ∧ nanK .f64 (flK (Dv .quo x w)) = false ∧ (FloatKind.f64.decode (coW x w)).toInt .zero = some (coK x w) ∧ -9007199254740992 ≤ coK x w ∧ coK x w ≤ 9007199254740992 := by
  obtain ⟨a, b, c⟩ := qu_num n h
  obtain ⟨d, _⟩ := fl_num b
  obtain ⟨e, f⟩ := cl_wo d
  have hb := in_bounds (x := coW x w) (by unfold coW; rw [f]; omega) (by unfold coW; rw [f]; omega)
  exact ⟨a, b, d, (toI_fin hb.1).1, hb.2.1, hb.2.2⟩
theorem co_mono {x y w : Nat} (h : mayW w = true) (l : leK .f64 x y = true) : coK x w ≤ coK y w := by
  unfold leK at l
  simp only [Bool.and_eq_true, decide_eq_true_eq, Bool.not_eq_true'] at l
  obtain ⟨⟨nx, ny⟩, l⟩ := l
  obtain ⟨_, b, _⟩ := qu_num nx h
  obtain ⟨_, b', _⟩ := qu_num ny h
  obtain ⟨d, _⟩ := fl_num b
  obtain ⟨d', _⟩ := fl_num b'
  obtain ⟨e, f⟩ := cl_wo d
  obtain ⟨e', f'⟩ := cl_wo d'
  have l3 := fl_mono b b' (qu_mono nx ny h l)
  have hb := in_bounds (x := coW x w) (by unfold coW; rw [f]; omega) (by unfold coW; rw [f]; omega)
  have hb' := in_bounds (x := coW y w) (by unfold coW; rw [f']; omega) (by unfold coW; rw [f']; omega)
  exact toI_mono hb.1 hb'.1 (by unfold coW; rw [f, f']; omega)
end Go.Proofs.Ytekhnolpgoejdab
namespace Go.Proofs.Ytekhnolpgoejdab
open Ieee Go.RowKit
set_option linter.unusedSimpArgs false
set_option linter.unusedVariables false

/-! ### Whole numbers as floats -/
theorem pow_part {a b : Nat} (c : Nat) (h : a = b + c) : 2 ^ a = 2 ^ b * 2 ^ c := by rw [h, Nat.pow_add]
theorem vl_at {E k : Nat} (hE : 52 ≤ E) (h0 : k ≠ 0) (h : k < 2 ^ 53) : ∃ r, vl FloatKind.f64.format r = k * 2 ^ E := by
  have hl : k.log2 ≤ 52 := by have := (Nat.log2_lt h0).2 h; omega
  have h1 := log2_le k h0
  have h2 := lt_log2 k
  have hB : FloatKind.f64.format.binade = 2 ^ 52 := rfl
  refine ⟨(E + k.log2 - 52) * FloatKind.f64.format.binade + k * 2 ^ (52 - k.log2), ?_⟩
  have e1 : 2 ^ 52 = 2 ^ k.log2 * 2 ^ (52 - k.log2) := pow_part _ (by omega)
  have e2 : 2 ^ 53 = 2 ^ (k.log2 + 1) * 2 ^ (52 - k.log2) := pow_part _ (by omega)
  have e3 : 2 ^ E = 2 ^ (52 - k.log2) * 2 ^ (E + k.log2 - 52) := pow_part _ (by omega)
  have a1 : 2 ^ 52 ≤ k * 2 ^ (52 - k.log2) := by rw [e1]; exact Nat.mul_le_mul_right _ h1
  have a2 : k * 2 ^ (52 - k.log2) < 2 ^ 53 := by rw [e2]; exact Nat.mul_lt_mul_of_pos_right h2 (Nat.two_pow_pos _)
  rw [vl_mk2 FloatKind.f64.format _ _ (by rw [hB]; omega) (fun _ => by rw [hB]; exact a1), Nat.mul_assoc, ← e3]
theorem vl_whole {k : Nat} (h0 : k ≠ 0) (h : k < 2 ^ 53) : ∃ r, vl FloatKind.f64.format r = k * bigU := by
  obtain ⟨E, hE, hbU⟩ := bigU_pow
  rw [hbU]
  clear hbU
  refine vl_at ?_ h0 h
  have h1 : FloatKind.f64.format.leastPlace = -1074 := by decide +kernel
  rw [h1] at hE; omega
def fI (k : Nat) : Nat := FloatKind.f64.nearest (k : Int)
theorem fI_word (k : Nat) : fI k = FloatKind.f64.format.word false (min (rr FloatKind.f64.format (k * bigU) 0) (infK .f64)) := by
  obtain ⟨E, hE, hbU⟩ := bigU_pow
  have h0 : fI k = FloatKind.f64.format.nearest false k 0 := by
    have : decide ((k : Int) < 0) = false := by simp
    show FloatKind.f64.format.nearest (decide ((k : Int) < 0)) _ _ = _
    rw [this]; rfl
  have h1 : (0 : Int) = (FloatKind.f64.format.leastPlace - ((0 : Nat) : Int)) + ((E : Nat) : Int) := by rw [hE]; omega
  rw [h0, h1, nearest_shift, nearest_rr, hbU]
  rfl
theorem fI_rung {k : Nat} (h : k < 2 ^ 53) : ∃ r, r < infK .f64 ∧ fI k = FloatKind.f64.format.word false r ∧ vl FloatKind.f64.format r = k * bigU := by
  by_cases h0 : k = 0
  · subst h0
    refine ⟨0, inf_pos, ?_, by rw [vl_zero, Nat.zero_mul]⟩
    rw [fI_word, Nat.zero_mul, rr_zero]
    congr 1
  · obtain ⟨r, hr⟩ := vl_whole h0 h
    have hi : r < infK .f64 := by
      have hm : mg hiW = 9007199254740992 * bigU := hi_mgU
      unfold mg at hm
      have h1 : vl FloatKind.f64.format r < vl FloatKind.f64.format (rgK .f64 hiW) := by
        rw [hm, hr]
        exact Nat.mul_lt_mul_of_pos_right h bigU_pos
      have h2 := (vl_lt_iff _).1 h1
      have h3 : rgK .f64 hiW < infK .f64 := by decide +kernel
      exact Nat.lt_trans h2 h3
    refine ⟨r, hi, ?_, hr⟩
    have := rr_exact FloatKind.f64.format (by decide) r 0
    rw [Nat.pow_zero, Nat.mul_one, hr] at this
    rw [fI_word, this, Nat.min_eq_left (Nat.le_of_lt hi)]
theorem fI_num {k : Nat} (h : k < 2 ^ 53) : nanK .f64 (fI k) = false ∧ okK .f64 (fI k) ∧ finK .f64 (fI k) = true := by
  obtain ⟨r, hr, e, _⟩ := fI_rung h
  rw [e]
  have hl := Nat.le_of_lt hr
  refine ⟨nan_word _ _ _ hl, word_okK _ _ _ hl, ?_⟩
  unfold finK
  rw [rgK_word _ _ _ hl, decide_eq_true_iff]; exact hr
theorem fI_lt {j k : Nat} (h : k < 2 ^ 53) (l : j < k) : woK .f64 (fI j) < woK .f64 (fI k) := by
  obtain ⟨r, hr, e, v⟩ := fI_rung (show j < 2 ^ 53 by omega)
  obtain ⟨s, hs, e', v'⟩ := fI_rung h
  rw [e, e', wo_word _ _ _ (Nat.le_of_lt hr), wo_word _ _ _ (Nat.le_of_lt hs)]
  have : r < s := by
    rw [← vl_lt_iff FloatKind.f64.format, v, v']
    exact Nat.mul_lt_mul_of_pos_right l bigU_pos
  simp only [Bool.false_eq_true, if_false]
  omega
end Go.Proofs.Ytekhnolpgoejdab
