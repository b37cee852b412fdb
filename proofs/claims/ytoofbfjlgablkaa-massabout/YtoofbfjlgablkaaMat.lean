/-
  Plain facts on floats, more: rounding to the nearest rung, sums and products of finite floats, signs turned. No program is named here.
-/
import Derived.Test.YtoofbfjlgablkaaShp
namespace Go.Proofs.Ytoofbfjlgablkaa
open Ieee Go.RowKit
set_option linter.unusedSimpArgs false
set_option linter.unusedVariables false

/-! ### Go's order of finite floats is that of their numbers -/
theorem wo_sv (x y : Nat) : woK .f64 x ≤ woK .f64 y ↔ svK .f64 x ≤ svK .f64 y := by
  have hx := woK_eq .f64 x
  have hy := woK_eq .f64 y
  have vz : vl FloatKind.f64.format 0 = 0 := vl_zero _
  have le : ∀ {r s : Nat}, vl FloatKind.f64.format r ≤ vl FloatKind.f64.format s ↔ r ≤ s := fun {r s} => by
    rw [← Nat.not_lt, ← Nat.not_lt, vl_lt_iff]
  have pos : ∀ r, vl FloatKind.f64.format r = 0 ↔ r = 0 := fun r => ⟨fun h => vl_inj _ (h.trans vz.symm), fun h => by rw [h]; exact vz⟩
  rw [hx, hy]
  show (if ngK .f64 x then -(rgK .f64 x : Int) else (rgK .f64 x : Int)) ≤ (if ngK .f64 y then -(rgK .f64 y : Int) else (rgK .f64 y : Int)) ↔ (if ngK .f64 x then -(vl FloatKind.f64.format (rgK .f64 x) : Int) else (vl FloatKind.f64.format (rgK .f64 x) : Int)) ≤ (if ngK .f64 y then -(vl FloatKind.f64.format (rgK .f64 y) : Int) else (vl FloatKind.f64.format (rgK .f64 y) : Int))
  generalize rgK .f64 x = a
  generalize rgK .f64 y = b
  have l1 := @le a b
  have l2 := @le b a
  have p1 := pos a
  have p2 := pos b
  generalize vl FloatKind.f64.format a = u at *
  generalize vl FloatKind.f64.format b = v at *
  cases ngK .f64 x <;> cases ngK .f64 y <;> simp <;> omega
theorem rv_le (x y : Nat) : rv x ≤ rv y ↔ svK .f64 x ≤ svK .f64 y := by
  rw [rv_sv, rv_sv]
  constructor
  · intro h
    have := Rat.mul_le_mul_of_nonneg_right h (Rat.le_of_lt W_pos)
    rw [Rat.div_mul_cancel (Rat.ne_of_gt W_pos), Rat.div_mul_cancel (Rat.ne_of_gt W_pos)] at this
    exact Rat.intCast_le_intCast.1 this
  · intro h
    rw [Rat.div_def, Rat.div_def]
    exact Rat.mul_le_mul_of_nonneg_right (Rat.intCast_le_intCast.2 h) (Rat.le_of_lt (Rat.inv_pos.2 W_pos))
theorem le_rv {x y : Nat} (hx : nanK .f64 x = false) (hy : nanK .f64 y = false) : leK .f64 x y = true ↔ rv x ≤ rv y := by
  unfold leK
  rw [hx, hy, rv_le, ← wo_sv]
  simp
theorem lt_rv {x y : Nat} (hx : nanK .f64 x = false) (hy : nanK .f64 y = false) : ltK .f64 x y = true ↔ rv x < rv y := by
  have h := rv_le y x
  have g := wo_sv y x
  unfold ltK
  rw [hx, hy]
  simp
  rw [← Rat.not_le, h, ← g]
  omega
end Go.Proofs.Ytoofbfjlgablkaa
namespace Go.Proofs.Ytoofbfjlgablkaa
open Ieee Go.RowKit
set_option linter.unusedSimpArgs false
set_option linter.unusedVariables false

/-! ### Masses: what may be, how hard to turn -/
def endB (a : Nat) : Bool := leK .f64 0 a && finK .f64 a
def mB (m i x y : Nat) : Bool := endB m && endB i && (withinK .f64 x 4787326403894837248 && withinK .f64 y 4787326403894837248)
def mE (m i x y : Nat) : Int := if mB m i x y = true then 0 else 80
theorem mE_yes {m i x y : Nat} (h : mB m i x y = true) : mE m i x y = 0 := if_pos h
theorem mE_no {m i x y : Nat} (h : mB m i x y = false) : mE m i x y = 80 := if_neg (by rw [h]; decide)
/-- how hard a mass is to turn about a place, the way there from the centre or from the place -/
def AboutR (m i cx cy px py r : Nat) : Prop := ∃ x y s q, SubR px py cx cy x y ∧ DotR x y x y s ∧ resK .mul .f64 m s q ∧ resK .add .f64 i q r
def OverR (a r : Nat) : Prop := ∃ b, resK .quo .f64 4607182418800017408 a b ∧ r = if finK .f64 b = true then b else 0
theorem dot_sm {x y x' y' s s' : Nat} (hx : smK .f64 x x' = true) (hy : smK .f64 y y' = true) (h : DotR x y x y s) (g : DotR x' y' x' y' s') : smK .f64 s s' = true := by
  obtain ⟨p, q, h1, h2, h3⟩ := h
  obtain ⟨p', q', g1, g2, g3⟩ := g
  exact res_congr (res_congr hx hx h1 g1) (res_congr hy hy h2 g2) h3 g3
theorem AboutR.sm {m i cx cy px py r r' : Nat} (h : AboutR m i cx cy px py r) (g : AboutR m i cx cy px py r') : smK .f64 r r' = true := by
  obtain ⟨x, y, s, q, h1, h2, h3, h4⟩ := h
  obtain ⟨x', y', s', q', g1, g2, g3, g4⟩ := g
  have e := h1.sm g1
  exact res_congr (smK_self _ _) (res_congr (smK_self _ _) (dot_sm e.1 e.2 h2 g2) h3 g3) h4 g4
theorem sm_fin {a b : Nat} (h : smK .f64 a b = true) : finK .f64 a = finK .f64 b := by
  unfold smK at h
  simp only [Bool.or_eq_true, Bool.and_eq_true, Bool.not_eq_true', decide_eq_true_eq] at h
  rcases h with ⟨h1, h2⟩ | ⟨_, rfl⟩
  · have n : ∀ z, nanK .f64 z = true → finK .f64 z = false := fun z hz => by
      rw [nanK_eq] at hz
      unfold finK
      simp only [decide_eq_true_eq, decide_eq_false_iff_not] at hz ⊢
      omega
    rw [n a h1, n b h2]
  · rfl
theorem OverR.sm {a r r' : Nat} (h : OverR a r) (g : OverR a r') : smK .f64 r r' = true := by
  obtain ⟨b, h1, rfl⟩ := h
  obtain ⟨b', g1, rfl⟩ := g
  have e := res_congr (smK_self _ _) (smK_self _ _) h1 g1
  rw [sm_fin e]
  split
  · exact e
  · exact smK_self _ _
end Go.Proofs.Ytoofbfjlgablkaa
namespace Go.Proofs.Ytoofbfjlgablkaa
open Ieee Go.RowKit
set_option linter.unusedSimpArgs false
set_option linter.unusedVariables false

/-! ### What shapes weigh, as relations -/
def CircR (r d m j : Nat) : Prop := ∃ a b a2 c, resK .mul .f64 r r a ∧ resK .mul .f64 4614256656552045848 a b ∧ resK .mul .f64 d b m ∧ resK .mul .f64 r r a2 ∧ resK .mul .f64 m a2 c ∧ resK .mul .f64 c 4602678819172646912 j
def CapR (n r d m j : Nat) : Prop := ∃ t1 t2 p a b q e dd nn f g h k one rr r5 n2 n25 s1 nd s2 two, resK .mul .f64 4611686018427387904 r t1 ∧ resK .mul .f64 t1 n t2 ∧ resK .mul .f64 d t2 p ∧ resK .mul .f64 r r a ∧ resK .mul .f64 4614256656552045848 a b ∧ resK .mul .f64 d b q ∧
  resK .mul .f64 4616189618054758400 r e ∧ resK .quo .f64 e 4621495296368779730 dd ∧ resK .mul .f64 n n nn ∧ resK .mul .f64 4616189618054758400 r f ∧ resK .mul .f64 f r g ∧ resK .add .f64 nn g h ∧ resK .mul .f64 p h k ∧ resK .quo .f64 k 4622945017495814144 one ∧
  resK .mul .f64 r r rr ∧ resK .mul .f64 rr 4602678819172646912 r5 ∧ resK .mul .f64 n n n2 ∧ resK .mul .f64 n2 4598175219545276416 n25 ∧ resK .add .f64 r5 n25 s1 ∧ resK .mul .f64 n dd nd ∧ resK .add .f64 s1 nd s2 ∧ resK .mul .f64 q s2 two ∧
  resK .add .f64 p q m ∧ resK .add .f64 one two j
def CapsR (fx fy tx ty r d m j x y : Nat) : Prop := ∃ u v n, SubR tx ty fx fy u v ∧ LengthR u v n ∧ CapR n r d m j ∧ MiddleR fx fy tx ty x y
def TermR (px py qx qy cx cy t : Nat) : Prop := ∃ ax ay bx b_y c d1 d2 d3 u v, SubR px py cx cy ax ay ∧ SubR qx qy cx cy bx b_y ∧ CrossR ax ay bx b_y c ∧ DotR ax ay ax ay d1 ∧ DotR ax ay bx b_y d2 ∧ DotR bx b_y bx b_y d3 ∧ resK .add .f64 d1 d2 u ∧ resK .add .f64 u d3 v ∧ resK .mul .f64 c v t
def accR (s0 : Nat) (xs : Nat → Nat) (k s : Nat) : Prop := ∃ f : Nat → Nat, f 0 = s0 ∧ f k = s ∧ ∀ i, i < k → resK .add .f64 (f i) (xs i) (f (i + 1))
def TermsR (xs ys : Nat → Nat) (n cx cy k : Nat) (ts : Nat → Nat) : Prop := ∀ q, q < k → TermR (xs q) (ys q) (xs ((q + 1) % n)) (ys ((q + 1) % n)) cx cy (ts q)
def SpreadR (xs ys : Nat → Nat) (n cx cy r : Nat) : Prop := ∃ ts : Nat → Nat, TermsR xs ys n cx cy n ts ∧ accR (ts 0) (fun q => ts (q + 1)) (n - 1) r
def TurnR (xs ys : Nat → Nat) (n cx cy d j : Nat) : Prop := ∃ s q, SpreadR xs ys n cx cy s ∧ resK .quo .f64 s 4622945017495814144 q ∧ resK .mul .f64 d q j
/-- what comes out, if it may be -/
def Told (m j x y m' j' x' y' : Nat) (k : Int) : Prop := (mB m j x y = true ∧ m' = m ∧ j' = j ∧ x' = x ∧ y' = y ∧ k = 0) ∨ (mB m j x y = false ∧ m' = 0 ∧ j' = 0 ∧ x' = 0 ∧ y' = 0 ∧ k = 80)
theorem CircR.sm {r d m j m' j' : Nat} (h : CircR r d m j) (g : CircR r d m' j') : smK .f64 m m' = true ∧ smK .f64 j j' = true := by
  obtain ⟨a, b, a2, c, h1, h2, h3, h4, h5, h6⟩ := h
  obtain ⟨a', b', a2', c', g1, g2, g3, g4, g5, g6⟩ := g
  constructor
  all_goals repeat' (first | exact smK_self _ _ | (refine res_congr ?_ ?_ (by assumption) (by assumption)))
theorem DotR.sm4 {ax ay bx b_y r ax' ay' bx' b_y' r' : Nat} (e1 : smK .f64 ax ax' = true) (e2 : smK .f64 ay ay' = true) (e3 : smK .f64 bx bx' = true) (e4 : smK .f64 b_y b_y' = true) (h : DotR ax ay bx b_y r) (g : DotR ax' ay' bx' b_y' r') : smK .f64 r r' = true := by
  obtain ⟨p, q, h1, h2, h3⟩ := h
  obtain ⟨p', q', g1, g2, g3⟩ := g
  exact res_congr (res_congr e1 e3 h1 g1) (res_congr e2 e4 h2 g2) h3 g3
theorem CrossR.sm4 {ax ay bx b_y r ax' ay' bx' b_y' r' : Nat} (e1 : smK .f64 ax ax' = true) (e2 : smK .f64 ay ay' = true) (e3 : smK .f64 bx bx' = true) (e4 : smK .f64 b_y b_y' = true) (h : CrossR ax ay bx b_y r) (g : CrossR ax' ay' bx' b_y' r') : smK .f64 r r' = true := by
  obtain ⟨p, q, h1, h2, h3⟩ := h
  obtain ⟨p', q', g1, g2, g3⟩ := g
  exact res_congr (res_congr e1 e4 h1 g1) (res_congr e2 e3 h2 g2) h3 g3
theorem CapR.sm {n n' r d m j m' j' : Nat} (e : smK .f64 n n' = true) (h : CapR n r d m j) (g : CapR n' r d m' j') : smK .f64 m m' = true ∧ smK .f64 j j' = true := by
  obtain ⟨t1, t2, p, a, b, q, e1, dd, nn, f, g1, h1, k, one, rr, r5, n2, n25, s1, nd, s2, two, x1, x2, x3, x4, x5, x6, x7, x8, x9, x10, x11, x12, x13, x14, x15, x16, x17, x18, x19, x20, x21, x22, x23, x24⟩ := h
  obtain ⟨t1', t2', p', a', b', q', e1', dd', nn', f', g1', h1', k', one', rr', r5', n2', n25', s1', nd', s2', two', y1, y2, y3, y4, y5, y6, y7, y8, y9, y10, y11, y12, y13, y14, y15, y16, y17, y18, y19, y20, y21, y22, y23, y24⟩ := g
  constructor
  all_goals repeat' (first | exact e | exact smK_self _ _ | (refine res_congr ?_ ?_ (by assumption) (by assumption)))
theorem CapsR.sm {fx fy tx ty r d m j x y m' j' x' y' : Nat} (h : CapsR fx fy tx ty r d m j x y) (g : CapsR fx fy tx ty r d m' j' x' y') : smK .f64 m m' = true ∧ smK .f64 j j' = true ∧ smK .f64 x x' = true ∧ smK .f64 y y' = true := by
  obtain ⟨u, v, n, h1, ⟨s, h2, h2'⟩, h3, p, q, h4, h5, h6, h7⟩ := h
  obtain ⟨u', v', n', g1, ⟨s', g2, g2'⟩, g3, p', q', g4, g5, g6, g7⟩ := g
  have e := h1.sm g1
  have e1 := dot_sm e.1 e.2 h2 g2
  have e2 := h3.sm (sq_congr e1 h2' g2') g3
  refine ⟨e2.1, e2.2, ?_, ?_⟩
  all_goals repeat' (first | exact smK_self _ _ | (refine res_congr ?_ ?_ (by assumption) (by assumption)))
theorem TermR.sm {px py qx qy cx cy t t' : Nat} (h : TermR px py qx qy cx cy t) (g : TermR px py qx qy cx cy t') : smK .f64 t t' = true := by
  obtain ⟨ax, ay, bx, b_y, c, d1, d2, d3, u, v, h1, h2, h3, h4, h5, h6, h7, h8, h9⟩ := h
  obtain ⟨ax', ay', bx', b_y', c', d1', d2', d3', u', v', g1, g2, g3, g4, g5, g6, g7, g8, g9⟩ := g
  have e1 := h1.sm g1
  have e2 := h2.sm g2
  exact res_congr (h3.sm4 e1.1 e1.2 e2.1 e2.2 g3) (res_congr (res_congr (h4.sm4 e1.1 e1.2 e1.1 e1.2 g4) (h5.sm4 e1.1 e1.2 e2.1 e2.2 g5) h7 g7) (h6.sm4 e2.1 e2.2 e2.1 e2.2 g6) h8 g8) h9 g9
theorem accR_zero (s0 : Nat) (xs : Nat → Nat) : accR s0 xs 0 s0 := ⟨fun _ => s0, rfl, rfl, fun i h => by omega⟩
theorem accR_succ {s0 : Nat} {xs : Nat → Nat} {k s r : Nat} (h : accR s0 xs k s) (hr : resK .add .f64 s (xs k) r) : accR s0 xs (k + 1) r := by
  obtain ⟨f, h0, h1, h2⟩ := h
  refine ⟨fun i => if i = k + 1 then r else f i, by simp [h0], by simp, fun i hi => ?_⟩
  by_cases e : i = k
  · subst e
    simp only [if_true, if_neg (show ¬ i = i + 1 by omega)]
    rw [h1]
    exact hr
  · simp only [if_neg (show ¬ i = k + 1 by omega), if_neg (show ¬ i + 1 = k + 1 by omega)]
    exact h2 i (by omega)
theorem accR.sm {s0 t0 k s t : Nat} {xs ys : Nat → Nat} (e0 : smK .f64 s0 t0 = true) (e : ∀ i, i < k → smK .f64 (xs i) (ys i) = true) (h : accR s0 xs k s) (g : accR t0 ys k t) : smK .f64 s t = true := by
  obtain ⟨f, h0, h1, h2⟩ := h
  obtain ⟨f', g0, g1, g2⟩ := g
  have key : ∀ i, i ≤ k → smK .f64 (f i) (f' i) = true := by
    intro i
    induction i with
    | zero => intro _; rw [h0, g0]; exact e0
    | succ i ih => intro hi; exact res_congr (ih (by omega)) (e i (by omega)) (h2 i (by omega)) (g2 i (by omega))
  rw [← h1, ← g1]
  exact key k (by omega)
theorem accR.eq {s0 k s : Nat} {xs ys : Nat → Nat} (e : ∀ i, i < k → xs i = ys i) (h : accR s0 xs k s) : accR s0 ys k s := by
  obtain ⟨f, h0, h1, h2⟩ := h
  exact ⟨f, h0, h1, fun i hi => by rw [← e i hi]; exact h2 i hi⟩
theorem SpreadR.sm {xs ys : Nat → Nat} {n cx cy r r' : Nat} (hn : 0 < n) (h : SpreadR xs ys n cx cy r) (g : SpreadR xs ys n cx cy r') : smK .f64 r r' = true := by
  obtain ⟨ts, h1, h2⟩ := h
  obtain ⟨us, g1, g2⟩ := g
  exact accR.sm ((h1 0 hn).sm (g1 0 hn)) (fun i hi => (h1 (i + 1) (by omega)).sm (g1 (i + 1) (by omega))) h2 g2
theorem TurnR.sm {xs ys : Nat → Nat} {n cx cy d j j' : Nat} (hn : 0 < n) (h : TurnR xs ys n cx cy d j) (g : TurnR xs ys n cx cy d j') : smK .f64 j j' = true := by
  obtain ⟨s, q, h1, h2, h3⟩ := h
  obtain ⟨s', q', g1, g2, g3⟩ := g
  exact res_congr (smK_self _ _) (res_congr (h1.sm hn g1) (smK_self _ _) h2 g2) h3 g3
theorem sm_or {a b : Nat} (h : smK .f64 a b = true) : a = b ∨ (nanK .f64 a = true ∧ nanK .f64 b = true) := by
  unfold smK at h
  simp only [Bool.or_eq_true, Bool.and_eq_true, Bool.not_eq_true', decide_eq_true_eq] at h
  rcases h with h | ⟨_, h⟩
  · exact .inr h
  · exact .inl h
theorem end_sm {a b : Nat} (h : smK .f64 a b = true) : endB a = endB b := by
  unfold endB
  rw [sm_fin h]
  rcases sm_or h with rfl | ⟨h1, h2⟩
  · rfl
  · unfold leK; rw [h1, h2]
    simp
theorem within_sm {a b m : Nat} (h : smK .f64 a b = true) : withinK .f64 a m = withinK .f64 b m := by
  rcases sm_or h with rfl | ⟨h1, h2⟩
  · rfl
  · unfold withinK leK; rw [h1, h2]
    simp
theorem mB_sm {m j x y m' j' x' y' : Nat} (h1 : smK .f64 m m' = true) (h2 : smK .f64 j j' = true) (h3 : smK .f64 x x' = true) (h4 : smK .f64 y y' = true) : mB m j x y = mB m' j' x' y' := by
  unfold mB
  rw [end_sm h1, end_sm h2, within_sm h3, within_sm h4]
theorem Told.sm {m j x y m' j' x' y' a b c e a' b' c' e' : Nat} {k k' : Int} (h1 : smK .f64 m m' = true) (h2 : smK .f64 j j' = true) (h3 : smK .f64 x x' = true) (h4 : smK .f64 y y' = true)
    (h : Told m j x y a b c e k) (g : Told m' j' x' y' a' b' c' e' k') : smK .f64 a a' = true ∧ smK .f64 b b' = true ∧ smK .f64 c c' = true ∧ smK .f64 e e' = true ∧ k = k' := by
  have hm := mB_sm h1 h2 h3 h4
  rcases h with ⟨h, rfl, rfl, rfl, rfl, rfl⟩ | ⟨h, rfl, rfl, rfl, rfl, rfl⟩ <;> rcases g with ⟨g, rfl, rfl, rfl, rfl, rfl⟩ | ⟨g, rfl, rfl, rfl, rfl, rfl⟩
  · exact ⟨h1, h2, h3, h4, rfl⟩
  · rw [hm, g] at h; cases h
  · rw [hm, g] at h; cases h
  · exact ⟨smK_self _ _, smK_self _ _, smK_self _ _, smK_self _ _, rfl⟩
end Go.Proofs.Ytoofbfjlgablkaa
