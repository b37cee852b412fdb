/-
  Plain facts on floats, more: rounding to the nearest rung, sums and products of finite floats, signs turned. No program is named here.
-/
import Derived.Test.YtoljkokcgmigeaaFex
namespace Go.Proofs.Ytoljkokcgmigeaa
open Ieee Go.RowKit

/-! ### Twice: all that is asked, as numbers -/
theorem res_some {op : BinOp} {x y r : Nat} (h : resK op .f64 x y r) (hn : nanK .f64 r = false) : floatBits op .f64 x y = some r := by
  rcases h.2 with e | ⟨_, e⟩
  · exact e
  · rw [hn] at e; cases e
theorem dbl {z : Nat} (oz : okK .f64 z) (c : calmK z = true) : ∃ d, floatBits .mul .f64 twoB z = some d ∧ resK .mul .f64 twoB z d := by
  obtain ⟨d, hd⟩ := res_exists .mul twoB z
  have := (twice_of (calm_num c).1 oz (calm_rg c) (by omega) (by omega) hd).1
  exact ⟨d, res_some hd (fin_num this.2.1), hd⟩
theorem hlf {z : Nat} (oz : okK .f64 z) (c : calmK z = true) : ∃ d, floatBits .quo .f64 z twoB = some d ∧ resK .quo .f64 z twoB d := by
  obtain ⟨d, hd⟩ := res_exists .quo z twoB
  have := (half_sc (calm_num c).1 oz hd (calm_rg c) (by omega) (by omega)).1
  exact ⟨d, res_some hd (fin_num this.2.1), hd⟩
theorem eq_of_sm {a b : Nat} (h : smK .f64 a b = true) (f : finK .f64 b = true) : eqK .f64 a b = true := by
  have n := fin_num f
  rcases smK_cases h with rfl | ⟨_, e⟩
  · rw [eqK_self, n]; rfl
  · rw [n] at e; cases e
theorem twice_one {s s2 t x x2 : Nat} {p p2 : Nat} (os : okK .f64 s) (ot : okK .f64 t) (cs : calmK s = true) (ct : calmK t = true) (h0 : resK .mul .f64 twoB s s2) (h1 : resK .mul .f64 t s p) (h2 : resK .add .f64 0 p x) (g1 : resK .mul .f64 t s2 p2) (g2 : resK .add .f64 0 p2 x2) :
    ∃ d, floatBits .mul .f64 twoB x = some d ∧ eqK .f64 x2 d = true ∧ finK .f64 x = true := by
  obtain ⟨d, hd⟩ := res_exists .mul twoB x
  obtain ⟨rfl, f1, f2⟩ := twice_far os ot cs ct h0 h1 h2 g1 g2 hd
  exact ⟨d, res_some hd (fin_num f2), by rw [eqK_self, fin_num f2]; rfl, f1⟩
theorem as_one {s h t t2 p p2 x x2 : Nat} (os : okK .f64 s) (ot : okK .f64 t) (cs : calmK s = true) (ct : calmK t = true) (h0 : resK .quo .f64 s twoB h) (h1 : resK .mul .f64 twoB t t2) (g1 : resK .mul .f64 t s p) (g2 : resK .add .f64 0 p x) (k1 : resK .mul .f64 t2 h p2) (k2 : resK .add .f64 0 p2 x2) (f : finK .f64 x = true) : eqK .f64 x2 x = true := by
  obtain rfl := as_far os ot cs ct h0 h1 g1 k1
  exact eq_of_sm (res_congr (smK_self _ _) (smK_self _ _) k2 g2) f
theorem twice_all {a b w t sx sy sx2 sy2 hx hy hw t2 mx my nx ny ox oy q1 q2 q3 q4 q5 q6 s : Nat} (ow : okK .f64 w) (ot : okK .f64 t) (ox' : okK .f64 sx) (oy' : okK .f64 sy) (cw : calmK w = true) (ct : calmK t = true) (cx : calmK sx = true) (cy : calmK sy = true)
    (hd : DotR a b a b s) (c : chk s = true) (k1 : resK .mul .f64 twoB sx sx2) (k2 : resK .mul .f64 twoB sy sy2) (k3 : resK .quo .f64 sx twoB hx) (k4 : resK .quo .f64 sy twoB hy) (k5 : resK .quo .f64 w twoB hw) (k6 : resK .mul .f64 twoB t t2)
    (hM : MoreR 0 0 t sx sy mx my) (hN : MoreR 0 0 t sx2 sy2 nx ny) (hO : MoreR 0 0 t2 hx hy ox oy) (tM : TurnMR a b w t q1 q2) (tN : TurnMR a b w t q3 q4) (tO : TurnMR a b hw t2 q5 q6) :
    ∃ D1 D2, floatBits .mul .f64 twoB mx = some D1 ∧ floatBits .mul .f64 twoB my = some D2 ∧ eqK .f64 nx D1 = true ∧ eqK .f64 ny D2 = true ∧ eqK .f64 ox mx = true ∧ eqK .f64 oy my = true ∧ eqK .f64 q5 q1 = true ∧ eqK .f64 q6 q2 = true ∧ eqK .f64 q3 q1 = true ∧ eqK .f64 q4 q2 = true ∧ ∀ k, DotR q1 q2 q1 q2 k → chk k = true := by
  obtain ⟨p, q, m1, m2, m3, m4⟩ := hM
  obtain ⟨p', q', n1, n2, n3, n4⟩ := hN
  obtain ⟨p'', q'', o1, o2, o3, o4⟩ := hO
  obtain ⟨D1, e1, e2, f1⟩ := twice_one ox' ot cx ct k1 m1 m3 n1 n3
  obtain ⟨D2, e3, e4, f2⟩ := twice_one oy' ot cy ct k2 m2 m4 n2 n4
  have e5 := as_one ox' ot cx ct k3 k6 m1 m3 o1 o3 f1
  have e6 := as_one oy' ot cy ct k4 k6 m2 m4 o2 o4 f2
  obtain ⟨k, hk⟩ := dot_exists q1 q2
  obtain ⟨_, g1, g2⟩ := move_chk hd c cw ct tM hk
  have s1 := tN.sm (fun _ _ a b => res_congr (smK_self _ _) (smK_self _ _) a b) tM
  have s2 := tO.sm (fun x y hx' hy' => by
    obtain rfl := as_far ow ot cw ct k5 k6 (res_mul_comm hy') (res_mul_comm hx')
    exact smK_self _ _) tM
  exact ⟨D1, D2, e1, e3, e2, e4, e5, e6, eq_of_sm s2.1 g1, eq_of_sm s2.2 g2, eq_of_sm s1.1 g1, eq_of_sm s1.2 g2, fun k' hk' => (move_chk hd c cw ct tM hk').1⟩
end Go.Proofs.Ytoljkokcgmigeaa
