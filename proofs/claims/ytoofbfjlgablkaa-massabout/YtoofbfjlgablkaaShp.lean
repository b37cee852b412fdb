/-
  Plain facts on floats, more: rounding to the nearest rung, sums and products of finite floats, signs turned. No program is named here.
-/
import Derived.Test.YtoofbfjlgablkaaGeo
namespace Go.Proofs.Ytoofbfjlgablkaa
open Ieee Go.RowKit

/-! ### Shapes: which may be -/
def inB (x y : Nat) : Bool := withinK .f64 x 4787326403894837248 && withinK .f64 y 4787326403894837248
def rdB (r : Nat) : Bool := leK .f64 4472074429978902528 r && leK .f64 r 4787326403894837248
def rdE (xs ys : Nat → Nat) (n r : Nat) : Int := if reaB xs ys n && rdB r then 0 else 5
def cpB (x0 y0 x1 y1 : Nat) : Bool := ltK .f64 (lnK (Dv .sub x1 x0) (Dv .sub y1 y0)) 4472074429978902528
def kdE (k : Int) (r n : Nat) : Int := if k = 1 then (if n = 1 then 0 else 6) else if k = 2 then (if n = 2 then 0 else 6) else if k = 3 then (if 3 ≤ n ∧ n ≤ 8 ∧ eqK .f64 r 0 = true then 0 else 6) else 70
def ckE (xs ys : Nat → Nat) (r : Nat) : Int := if rdE xs ys 2 r = 0 then (if cpB (xs 0) (ys 0) (xs 1) (ys 1) then 6 else 0) else 5
def shE (k : Int) (r : Nat) (xs ys : Nat → Nat) (n : Nat) : Int := if kdE k r n = 0 then (if k = 1 then rdE xs ys 1 r else if k = 2 then ckE xs ys r else chkE xs ys n) else kdE k r n
theorem reaB_1 (xs ys : Nat → Nat) : reaB xs ys 1 = inB (xs 0) (ys 0) := by simp [reaB, allB, inB, List.range_succ]
theorem reaB_2 (xs ys : Nat → Nat) : reaB xs ys 2 = (inB (xs 0) (ys 0) && inB (xs 1) (ys 1)) := by simp [reaB, allB, inB, List.range_succ]
theorem in_bd {x y : Nat} (h1 : okK .f64 x) (h2 : okK .f64 y) (h : inB x y = true) : Bd 40 x ∧ Bd 40 y := by
  unfold inB at h; rw [Bool.and_eq_true] at h
  exact ⟨bd_within h1 h.1, bd_within h2 h.2⟩
theorem reaB_congr {xs ys us vs : Nat → Nat} {n : Nat} (h : ∀ i, i < n → xs i = us i ∧ ys i = vs i) : reaB xs ys n = reaB us vs n := by
  unfold reaB allB
  rw [Bool.eq_iff_iff, List.all_eq_true, List.all_eq_true]
  constructor
  · intro g i hi
    obtain ⟨e1, e2⟩ := h i (List.mem_range.1 hi)
    rw [← e1, ← e2]; exact g i hi
  · intro g i hi
    obtain ⟨e1, e2⟩ := h i (List.mem_range.1 hi)
    rw [e1, e2]; exact g i hi
theorem rdE_good {xs ys : Nat → Nat} {n r : Nat} (h : reaB xs ys n = true) (g : rdB r = true) : rdE xs ys n r = 0 := by unfold rdE; rw [h, g]; rfl
theorem rdE_bad1 {xs ys : Nat → Nat} {n r : Nat} (h : reaB xs ys n = false) : rdE xs ys n r = 5 := by unfold rdE; rw [h]; rfl
theorem rdE_bad2 {xs ys : Nat → Nat} {n r : Nat} (g : rdB r = false) : rdE xs ys n r = 5 := by unfold rdE; rw [g, Bool.and_false]; rfl
theorem rdE_ok {xs ys : Nat → Nat} {n r : Nat} (h : rdE xs ys n r = 0) : reaB xs ys n = true ∧ rdB r = true := by
  unfold rdE at h
  split at h
  · rename_i g; rw [Bool.and_eq_true] at g; exact g
  · cases h
theorem rdE_vals (xs ys : Nat → Nat) (n r : Nat) : rdE xs ys n r = 0 ∨ rdE xs ys n r = 5 := by unfold rdE; split <;> simp
theorem rd_parts {r : Nat} : rdB r = true → leK .f64 4472074429978902528 r = true ∧ leK .f64 r 4787326403894837248 = true := by
  intro h; unfold rdB at h; rw [Bool.and_eq_true] at h; exact h
theorem rd_bd {r : Nat} (o : okK .f64 r) (h : rdB r = true) : Bd 40 r := by
  obtain ⟨h1, h2⟩ := rd_parts h
  refine bd_within o ?_
  unfold withinK
  rw [h2, Bool.and_true]
  unfold leK at h1 ⊢
  rw [Bool.and_eq_true, Bool.and_eq_true] at h1 ⊢
  refine ⟨⟨by decide +kernel, h1.1.2⟩, ?_⟩
  have e : woK .f64 (Op.negFloat .f64 4787326403894837248) ≤ woK .f64 4472074429978902528 := by decide +kernel
  have h3 := of_decide_eq_true h1.2
  exact decide_eq_true (Int.le_trans e h3)
/-! ### values -/
def moK (a s b : Nat) : Nat := Dv .add a (Dv .mul s b)
theorem moreR_d {n m k ax ay s bx b_y x y : Nat} (h1 : Bd n ax) (h2 : Bd n ay) (h3 : Bd m s) (h4 : Bd k bx) (h5 : Bd k b_y) (hn : m + k ≤ 800) (h : MoreR ax ay s bx b_y x y) : x = moK ax s bx ∧ y = moK ay s b_y := by
  obtain ⟨p, q, e1, e2, e3, e4⟩ := h
  rw [res_dv e1 (some_mul h3.2.1 h4.2.1)] at e3
  rw [res_dv e2 (some_mul h3.2.1 h5.2.1)] at e4
  exact ⟨res_dv e3 (some_add h1.2.1 (bd_mul h3 h4 (by omega)).2.1), res_dv e4 (some_add h2.2.1 (bd_mul h3 h5 (by omega)).2.1)⟩
theorem bd_mo {n a s b : Nat} (h1 : Bd n a) (h2 : Bd n s) (h3 : Bd n b) (hn : n ≤ 400) : Bd (2 * n + 3) (moK a s b) := by
  have e := bd_mul h2 h3 (by omega)
  exact bd_add (n := 2 * n + 1) (bd_mono h1 (by omega)) (bd_mono e (by omega)) (by omega)
/-- a circle has a place -/
def hcB (cx cy r p q : Nat) : Bool := leK .f64 (dtK (Dv .sub p cx) (Dv .sub q cy) (Dv .sub p cx) (Dv .sub q cy)) (Dv .mul r r)
/-- a capsule's way, the number t, the place next -/
def cwK (xs : Nat → Nat) : Nat := Dv .sub (xs 1) (xs 0)
def ctK (xs ys : Nat → Nat) (p q : Nat) : Nat := clK .f64 (Dv .quo (dtK (Dv .sub p (xs 0)) (Dv .sub q (ys 0)) (cwK xs) (cwK ys)) (dtK (cwK xs) (cwK ys) (cwK xs) (cwK ys))) 0 4607182418800017408
def nxX (xs ys : Nat → Nat) (p q : Nat) : Nat := moK (xs 0) (ctK xs ys p q) (cwK xs)
def nxY (xs ys : Nat → Nat) (p q : Nat) : Nat := moK (ys 0) (ctK xs ys p q) (cwK ys)
theorem cl_cases (k : FloatKind) (a lo hi : Nat) : clK k a lo hi = lo ∨ clK k a lo hi = hi ∨ clK k a lo hi = a := by unfold clK; split <;> (try split) <;> simp
theorem clamp_bd {n a : Nat} (h : Bd n a) : Bd n (clK .f64 a 0 4607182418800017408) := by
  rcases cl_cases .f64 a 0 4607182418800017408 with e | e | e <;> rw [e]
  · exact ⟨by rw [okK64]; decide, by decide +kernel, Rat.le_trans (by decide +kernel) (two_ge1 n)⟩
  · exact ⟨by rw [okK64]; decide, by decide +kernel, Rat.le_trans (by decide +kernel) (two_ge1 n)⟩
  · exact h
/-- of two points one apart enough: the square of the way is a float of a size -/
theorem cw_bd {xs ys : Nat → Nat} (g : Gd xs ys 2) : Bd 42 (cwK xs) ∧ Bd 42 (cwK ys) := ⟨bd_sub (g 1 (by decide)).1 (g 0 (by decide)).1 (by decide), bd_sub (g 1 (by decide)).2 (g 0 (by decide)).2 (by decide)⟩
theorem root_low {s n R : Rat} (hR : 0 < R) (h1 : R * R ≤ s + epR * s) (h2 : nearR R n) (h3 : 1 ≤ n * 2 ^ 30) : 1 ≤ s * 2 ^ 63 := by
  unfold nearR epR etR at h2
  unfold epR at h1
  have a1 : (1 : Rat) / 2 ^ 1075 ≤ 1 / 2 ^ 100 := by decide +kernel
  have a2 : n ≤ R + 1 / 2 ^ 53 * n + 1 / 2 ^ 100 := by
    have := h2.2
    grind
  have h4 : (1 : Rat) / 2 ^ 31 ≤ R := by grind
  have h5 : (1 : Rat) / 2 ^ 31 * (1 / 2 ^ 31) ≤ R * R := by
    have b1 := Rat.mul_le_mul_of_nonneg_left h4 (show (0 : Rat) ≤ 1 / 2 ^ 31 by decide +kernel)
    have b2 := Rat.mul_le_mul_of_nonneg_right h4 (Rat.le_of_lt hR)
    exact Rat.le_trans b1 b2
  have b3 : (1 : Rat) / 2 ^ 31 * (1 / 2 ^ 31) = 1 / 2 ^ 62 := by decide +kernel
  rw [b3] at h5
  grind
theorem sq_low {ax ay : Nat} (h1 : Bd 42 ax) (h2 : Bd 42 ay) (h : ltK .f64 (lnK ax ay) 4472074429978902528 = false) : 1 ≤ av (dtK ax ay ax ay) * 2 ^ 63 ∧ mg (dtK ax ay ax ay) ≠ 0 := by
  obtain ⟨f, g⟩ := sq_ng h1 h2 (by decide)
  have q := sq_res (sqr_some f g)
  by_cases hz : mg (dtK ax ay ax ay) = 0
  · have e := sqr_zero f g hz q
    unfold lnK at h
    rw [e] at h
    exact absurd h (by decide +kernel)
  · obtain ⟨_, _, _, R, hR, r1, _, r3⟩ := root_fin f g hz q
    obtain ⟨_, _, _, hb⟩ := ln_facts h1 h2 h
    unfold lnK at hb
    exact ⟨root_low hR r1 r3 hb, hz⟩
theorem ct_bd {xs ys : Nat → Nat} {p q : Nat} (g : Gd xs ys 2) (h1 : Bd 40 p) (h2 : Bd 40 q) (h : cpB (xs 0) (ys 0) (xs 1) (ys 1) = false) : Bd 153 (ctK xs ys p q) ∧ resK .quo .f64 (dtK (Dv .sub p (xs 0)) (Dv .sub q (ys 0)) (cwK xs) (cwK ys)) (dtK (cwK xs) (cwK ys) (cwK xs) (cwK ys)) (Dv .quo (dtK (Dv .sub p (xs 0)) (Dv .sub q (ys 0)) (cwK xs) (cwK ys)) (dtK (cwK xs) (cwK ys) (cwK xs) (cwK ys))) ∧ Bd 153 (Dv .quo (dtK (Dv .sub p (xs 0)) (Dv .sub q (ys 0)) (cwK xs) (cwK ys)) (dtK (cwK xs) (cwK ys) (cwK xs) (cwK ys))) := by
  obtain ⟨w1, w2⟩ := cw_bd g
  obtain ⟨l1, l2⟩ := sq_low w1 w2 h
  have a1 : Bd 42 (Dv .sub p (xs 0)) := bd_sub h1 (g 0 (by decide)).1 (by decide)
  have a2 : Bd 42 (Dv .sub q (ys 0)) := bd_sub h2 (g 0 (by decide)).2 (by decide)
  have d1 := bd_dt a1 a2 w1 w2 (by decide)
  have d2 := bd_dt w1 w2 w1 w2 (by decide)
  obtain ⟨e1, e2⟩ := bd_quo d1 d2 l1 (by decide)
  exact ⟨clamp_bd e1, e2, e1⟩
end Go.Proofs.Ytoofbfjlgablkaa
namespace Go.Proofs.Ytoofbfjlgablkaa
open Ieee Go.RowKit

theorem root_any {s n R d e : Rat} (hd : 0 < d) (he : e * 4 ≤ d) (hR : 0 < R) (hs : d * d * 4 ≤ s) (h1 : s ≤ R * R + 1 / 2 ^ 53 * s) (h2 : R ≤ n + 1 / 2 ^ 53 * n + e) : d ≤ n * 2 := by
  have g : d ≤ R := by
    rcases Rat.le_total (a := d) (b := R) with g | g
    · exact g
    · have b1 := Rat.mul_le_mul_of_nonneg_left g (Rat.le_of_lt hR)
      have b2 := Rat.mul_le_mul_of_nonneg_right g (Rat.le_of_lt hd)
      have b3 : R * R ≤ d * d := Rat.le_trans b1 (by rw [Rat.mul_comm] at b2; grind)
      have b4 : 0 < d * d := Rat.mul_pos hd hd
      grind
  grind
theorem un_bd {ax ay : Nat} (h1 : Bd 42 ax) (h2 : Bd 42 ay) (h : unB ax ay = true) : Bd 600 (unX ax ay) ∧ Bd 600 (unY ax ay) := by
  have hu := h
  unfold unB at h
  rw [Bool.and_eq_true] at h
  obtain ⟨f, g⟩ := sq_ng h1 h2 (by decide)
  have q := sq_res (sqr_some f g)
  have hz : mg (dtK ax ay ax ay) ≠ 0 := by
    intro hz
    have e := sqr_zero f g hz q
    have h1 := h.1
    unfold lnK at h1
    rw [e] at h1
    exact absurd h1 (by decide +kernel)
  obtain ⟨f1, f2, f3, R, hR, r1, r2, r3⟩ := root_fin f g hz q
  have hs : (1 / 2 ^ 538 : Rat) * (1 / 2 ^ 538) * 4 ≤ av (dtK ax ay ax ay) := by
    have e : (1 / 2 ^ 538 : Rat) * (1 / 2 ^ 538) * 4 = 1 / 2 ^ 1074 := by decide +kernel
    rw [e]
    exact av_ge hz
  have hb := root_any (n := av (lnK ax ay)) (by decide +kernel) (show etR * 4 ≤ 1 / 2 ^ 538 by decide +kernel) hR hs r2 r3.1
  have hb2 : (1 : Rat) ≤ av (lnK ax ay) * 2 ^ 539 := by
    have := Rat.mul_le_mul_of_nonneg_right hb (show (0 : Rat) ≤ 2 ^ 538 by decide +kernel)
    rw [show (1 / 2 ^ 538 : Rat) * 2 ^ 538 = 1 by decide +kernel, Rat.mul_assoc, show (2 : Rat) * 2 ^ 538 = 2 ^ 539 by decide +kernel] at this
    exact this
  have hl : Bd 1024 (lnK ax ay) := ⟨q.1, f1, av_le f1⟩
  unfold unX unY
  rw [hu]
  exact ⟨bd_mono (bd_quo h1 hl hb2 (by decide)).1 (by decide), bd_mono (bd_quo h2 hl hb2 (by decide)).1 (by decide)⟩
theorem ln_fin {ax ay : Nat} (h1 : Bd 42 ax) (h2 : Bd 42 ay) : Bd 1024 (lnK ax ay) := by
  obtain ⟨f, g⟩ := sq_ng h1 h2 (by decide)
  have q := sq_res (sqr_some f g)
  by_cases hz : mg (dtK ax ay ax ay) = 0
  · have e := sqr_zero f g hz q
    unfold lnK
    rw [e]
    exact ⟨by rw [okK64]; decide, by decide +kernel, av_le (by decide +kernel)⟩
  · obtain ⟨f1, f2, f3, _⟩ := root_fin f g hz q
    exact ⟨q.1, f1, av_le f1⟩
def lowK (f : Nat → Nat) : Nat → Nat
  | 0 => f 0
  | k + 1 => leastK .f64 (lowK f k) (f (k + 1))
def highK (f : Nat → Nat) : Nat → Nat
  | 0 => f 0
  | k + 1 => mostK .f64 (highK f k) (f (k + 1))
/-- the farthest of the first k + 1 points from a place -/
def rcK (xs ys : Nat → Nat) (p q : Nat) : Nat → Nat
  | 0 => lnK (Dv .sub (xs 0) p) (Dv .sub (ys 0) q)
  | k + 1 => mostK .f64 (rcK xs ys p q k) (lnK (Dv .sub (xs (k + 1)) p) (Dv .sub (ys (k + 1)) q))
/-- the tip of a capsule -/
def tpB (xs ys : Nat → Nat) (p q : Nat) : Bool := ltK .f64 (dtK (xs 0) (ys 0) p q) (dtK (xs 1) (ys 1) p q)
def tpX (xs ys : Nat → Nat) (p q : Nat) : Nat := if tpB xs ys p q then xs 1 else xs 0
def tpY (xs ys : Nat → Nat) (p q : Nat) : Nat := if tpB xs ys p q then ys 1 else ys 0
theorem tp_bd {xs ys : Nat → Nat} {p q : Nat} (g : Gd xs ys 2) : Bd 40 (tpX xs ys p q) ∧ Bd 40 (tpY xs ys p q) := by
  unfold tpX tpY
  split
  · exact g 1 (by decide)
  · exact g 0 (by decide)
/-- Far's place: what is round goes on from the tip -/
def fwK (t r : Nat) (b : Bool) (u : Nat) : Nat := if b then moK t r u else t
def aE (k : Int) (r : Nat) (xs ys : Nat → Nat) (n p q : Nat) : Int := if shE k r xs ys n = 0 then (if inB p q then 0 else 5) else shE k r xs ys n
def farX (k : Int) (r : Nat) (xs ys : Nat → Nat) (n p q : Nat) : Nat := if aE k r xs ys n p q = 0 then (if k = 1 then fwK (xs 0) r (unB p q) (unX p q) else if k = 2 then fwK (tpX xs ys p q) r (unB p q) (unX p q) else xs (farK xs ys p q (n - 1))) else 0
def farY (k : Int) (r : Nat) (xs ys : Nat → Nat) (n p q : Nat) : Nat := if aE k r xs ys n p q = 0 then (if k = 1 then fwK (ys 0) r (unB p q) (unY p q) else if k = 2 then fwK (tpY xs ys p q) r (unB p q) (unY p q) else ys (farK xs ys p q (n - 1))) else 0
def reaK (k : Int) (r : Nat) (xs ys : Nat → Nat) (n p q : Nat) : Nat := if aE k r xs ys n p q = 0 then Dv .add (rcK xs ys p q (n - 1)) r else 0
/-- Box's four -/
def bxL (k : Int) (r : Nat) (f : Nat → Nat) (n : Nat) : Nat := if k = 3 then lowK f (n - 1) else Dv .sub (lowK f (n - 1)) r
def bxH (k : Int) (r : Nat) (f : Nat → Nat) (n : Nat) : Nat := if k = 3 then highK f (n - 1) else Dv .add (highK f (n - 1)) r
theorem lea_or (a b : Nat) : leastK .f64 a b = a ∨ leastK .f64 a b = b := by unfold leastK; split <;> simp
theorem mos_or (a b : Nat) : mostK .f64 a b = a ∨ mostK .f64 a b = b := by unfold mostK; split <;> simp
theorem low_bd {f : Nat → Nat} {m : Nat} : ∀ k, (∀ i, i ≤ k → Bd m (f i)) → Bd m (lowK f k) ∧ Bd m (highK f k)
  | 0, h => ⟨h 0 (Nat.le_refl _), h 0 (Nat.le_refl _)⟩
  | k + 1, h => by
    obtain ⟨a, b⟩ := low_bd k (fun i hi => h i (by omega))
    have c := h (k + 1) (Nat.le_refl _)
    unfold lowK highK
    constructor
    · rcases lea_or (lowK f k) (f (k + 1)) with e | e <;> rw [e] <;> assumption
    · rcases mos_or (highK f k) (f (k + 1)) with e | e <;> rw [e] <;> assumption
theorem rc_bd {xs ys : Nat → Nat} {n p q : Nat} (g : Gd xs ys n) (h1 : Bd 40 p) (h2 : Bd 40 q) : ∀ k, k < n → Bd 1024 (rcK xs ys p q k)
  | 0, h => by
    have a : Bd 42 (Dv .sub (xs 0) p) := bd_sub (g 0 h).1 h1 (by decide)
    have b : Bd 42 (Dv .sub (ys 0) q) := bd_sub (g 0 h).2 h2 (by decide)
    exact ln_fin a b
  | k + 1, h => by
    have a : Bd 42 (Dv .sub (xs (k + 1)) p) := bd_sub (g _ h).1 h1 (by decide)
    have b : Bd 42 (Dv .sub (ys (k + 1)) q) := bd_sub (g _ h).2 h2 (by decide)
    have c := rc_bd g h1 h2 k (by omega)
    unfold rcK
    rcases mos_or (rcK xs ys p q k) (lnK (Dv .sub (xs (k + 1)) p) (Dv .sub (ys (k + 1)) q)) with e | e <;> rw [e]
    · exact c
    · exact ln_fin a b
def rcG (xs ys : Nat → Nat) (p q : Nat) : Nat → Nat
  | 0 => 0
  | k + 1 => rcK xs ys p q k
theorem ln_ng {ax ay : Nat} (h1 : Bd 42 ax) (h2 : Bd 42 ay) : ngK .f64 (lnK ax ay) = false := by
  obtain ⟨f, g⟩ := sq_ng h1 h2 (by decide)
  have q := sq_res (sqr_some f g)
  by_cases hz : mg (dtK ax ay ax ay) = 0
  · have e := sqr_zero f g hz q
    unfold lnK
    rw [e]
    decide +kernel
  · obtain ⟨f1, f2, f3, _⟩ := root_fin f g hz q
    exact f2
theorem zero_word {x : Nat} (o : okK .f64 x) (n : nanK .f64 x = false) (g : ngK .f64 x = false) (h : ltK .f64 0 x = false) : x = 0 := by
  have hr : rgK .f64 x = 0 := by
    unfold ltK at h
    rw [n, show nanK .f64 0 = false by decide +kernel] at h
    simp only [Bool.not_false, Bool.true_and, decide_eq_false_iff_not] at h
    rw [woK_eq, woK_eq] at h
    rw [g, show ngK .f64 0 = false by decide +kernel, show rgK .f64 0 = 0 by decide +kernel] at h
    simp at h
    omega
  rw [rg64] at hr
  rw [ng64, beq_eq_false_iff_ne] at g
  rw [okK64] at o
  omega
theorem most_zero {x : Nat} (o : okK .f64 x) (n : nanK .f64 x = false) (g : ngK .f64 x = false) : mostK .f64 0 x = x := by
  unfold mostK
  rw [show nanK .f64 0 = false by decide +kernel, show mzK .f64 0 = false by decide +kernel]
  cases h : ltK .f64 0 x
  · rw [zero_word o n g h]; rfl
  · rfl
theorem rc_step {xs ys : Nat → Nat} {n p q : Nat} (g : Gd xs ys n) (h1 : Bd 40 p) (h2 : Bd 40 q) : ∀ k, k < n → mostK .f64 (rcG xs ys p q k) (lnK (Dv .sub (xs k) p) (Dv .sub (ys k) q)) = rcG xs ys p q (k + 1)
  | 0, h => by
    have a : Bd 42 (Dv .sub (xs 0) p) := bd_sub (g 0 h).1 h1 (by decide)
    have b : Bd 42 (Dv .sub (ys 0) q) := bd_sub (g 0 h).2 h2 (by decide)
    have c := ln_fin a b
    exact most_zero c.1 (fin_num c.2.1) (ln_ng a b)
  | k + 1, h => rfl
theorem eq_zero_bd {r : Nat} (o : okK .f64 r) (h : eqK .f64 r 0 = true) (n : Nat) : Bd n r := by
  unfold eqK at h
  rw [Bool.and_eq_true, Bool.and_eq_true] at h
  have h3 := of_decide_eq_true h.2
  have hr : rgK .f64 r = 0 := by
    rw [woK_eq, woK_eq] at h3
    rw [show ngK .f64 0 = false by decide +kernel, show rgK .f64 0 = 0 by decide +kernel] at h3
    split at h3 <;> simp at h3 <;> omega
  have em : av r = 0 := by unfold av mg; rw [hr]; decide +kernel
  refine ⟨o, ?_, by rw [em]; exact Rat.le_trans (by decide) (two_ge1 n)⟩
  unfold finK
  rw [hr]
  decide +kernel
end Go.Proofs.Ytoofbfjlgablkaa
