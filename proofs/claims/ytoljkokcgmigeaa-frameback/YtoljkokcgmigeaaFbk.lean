/-
  Plain facts on floats, more: rounding to the nearest rung, sums and products of finite floats, signs turned. No program is named here.
-/
import Derived.Test.YtoljkokcgmigeaaFtw
namespace Go.Proofs.Ytoljkokcgmigeaa
open Ieee Go.RowKit

/-! ### There and back: what the walk asks -/
theorem then_exists (x y u v : Nat) : ∃ r i, ThenR x y u v r i := by
  obtain ⟨p, hp⟩ := res_exists .mul x u
  obtain ⟨q, hq⟩ := res_exists .mul y v
  obtain ⟨c, hc⟩ := res_exists .mul x v
  obtain ⟨d, hd⟩ := res_exists .mul y u
  obtain ⟨r, hr⟩ := res_exists .sub p q
  obtain ⟨i, hi⟩ := res_exists .add c d
  exact ⟨r, i, p, q, c, d, hp, hq, hc, hd, hr, hi⟩
theorem undo_exists (x y u v : Nat) : ∃ r i, UndoR x y u v r i := by
  obtain ⟨p, hp⟩ := res_exists .mul x u
  obtain ⟨q, hq⟩ := res_exists .mul y v
  obtain ⟨c, hc⟩ := res_exists .mul x v
  obtain ⟨d, hd⟩ := res_exists .mul y u
  obtain ⟨r, hr⟩ := res_exists .add p q
  obtain ⟨i, hi⟩ := res_exists .sub c d
  exact ⟨r, i, p, q, c, d, hp, hq, hc, hd, hr, hi⟩
theorem to_exists (X Y x y u v : Nat) : ∃ tx ty, ToR X Y x y u v tx ty := by
  obtain ⟨A, B, h⟩ := then_exists x y u v
  obtain ⟨tx, h1⟩ := res_exists .add X A
  obtain ⟨ty, h2⟩ := res_exists .add Y B
  exact ⟨tx, ty, A, B, h, h1, h2⟩
theorem own_exists (X Y x y u v : Nat) : ∃ r i, OwnR X Y x y u v r i := by
  obtain ⟨a, h1⟩ := res_exists .sub u X
  obtain ⟨b, h2⟩ := res_exists .sub v Y
  obtain ⟨r, i, h⟩ := undo_exists x y a b
  exact ⟨r, i, a, b, h1, h2, h⟩
theorem all_is {u v X Y : Nat} (cu : calmK u = true) (cv : calmK v = true) (cX : calmK X = true) (cY : calmK Y = true) :
    ∃ s1 s2 al, floatBits .add .f64 (rgK .f64 u) (rgK .f64 v) = some s1 ∧ floatBits .add .f64 s1 (rgK .f64 X) = some s2 ∧ floatBits .add .f64 s2 (rgK .f64 Y) = some al ∧ ∀ mo, resK .mul .f64 tinW al mo → AllR u v X Y s1 s2 al mo := by
  obtain ⟨fX, _, bX⟩ := calm_num cX
  obtain ⟨fY, _, bY⟩ := calm_num cY
  obtain ⟨fu, _, bu⟩ := calm_num cu
  obtain ⟨fv, _, bv⟩ := calm_num cv
  obtain ⟨s1, h1⟩ := res_exists .add (rgK .f64 u) (rgK .f64 v)
  obtain ⟨s2, h2⟩ := res_exists .add s1 (rgK .f64 X)
  obtain ⟨al, h3⟩ := res_exists .add s2 (rgK .f64 Y)
  have t (z : Nat) {B : Rat} (hz : av z ≤ 2 ^ 40) (hB : (2 : Rat) ^ 40 ≤ B) : ab (rv (rgK .f64 z)) ≤ B := by rw [ab_rv, rg_av]; exact Rat.le_trans hz hB
  obtain ⟨f1, _, q1⟩ := sum_num (M := 2 ^ 40) (by decide +kernel) (by decide +kernel) (by rw [rg_fin]; exact fu) (by rw [rg_fin]; exact fv) (t u bu (by decide +kernel)) (t v bv (by decide +kernel)) h1
  obtain ⟨f2, _, q2⟩ := sum_num (M := 4 * 2 ^ 40) (by decide +kernel) (by decide +kernel) f1 (by rw [rg_fin]; exact fX) q1 (t X bX (by decide +kernel)) h2
  obtain ⟨f3, _, q3⟩ := sum_num (M := 4 * (4 * 2 ^ 40)) (by decide +kernel) (by decide +kernel) f2 (by rw [rg_fin]; exact fY) q2 (t Y bY (by decide +kernel)) h3
  exact ⟨s1, s2, al, res_some h1 (fin_num f1), res_some h2 (fin_num f2), res_some h3 (fin_num f3), fun mo hm => ⟨h1, h2, h3, hm⟩⟩
theorem near_own {X Y x y u v tx ty C D s s1 s2 al m1 m2 d1 d2 : Nat} (oX : okK .f64 X) (oY : okK .f64 Y) (ou : okK .f64 u) (ov : okK .f64 v) (oy : okK .f64 y) (hx : DotR x y x y s) (c : chk s = true) (cX : calmK X = true) (cY : calmK Y = true) (cu : calmK u = true) (cv : calmK v = true)
    (h1 : ToR X Y x y u v tx ty) (h2 : OwnR X Y x y tx ty C D) (ha : ∀ mo, resK .mul .f64 tinW al mo → AllR u v X Y s1 s2 al mo) (g1 : resK .sub .f64 C u d1) (k1 : resK .mul .f64 tinW al m1) (g2 : resK .sub .f64 D v d2) (k2 : resK .mul .f64 tinW al m2) : (leK .f64 (rgK .f64 d1) m1 && leK .f64 (rgK .f64 d2) m2) = true := by
  obtain ⟨Wx, Wy, hW⟩ := undo_exists x y X Y
  obtain ⟨C', D', h3⟩ := to_exists (Op.negFloat .f64 Wx) (Op.negFloat .f64 Wy) x (Op.negFloat .f64 y) tx ty
  obtain ⟨d3, g3⟩ := res_exists .sub C' u
  obtain ⟨d4, g4⟩ := res_exists .sub D' v
  have a := frame_back oX oY ou ov oy hx c cX cY cu cv h1 h2 hW h3 (ha _ k1) g1 g2 g3 g4
  have b := frame_back oX oY ou ov oy hx c cX cY cu cv h1 h2 hW h3 (ha _ k2) g1 g2 g3 g4
  rw [a.1, b.2.1]
  rfl
theorem near_to {X Y x y u v tx ty Wx Wy C D s s1 s2 al m1 m2 d1 d2 : Nat} (oX : okK .f64 X) (oY : okK .f64 Y) (ou : okK .f64 u) (ov : okK .f64 v) (oy : okK .f64 y) (hx : DotR x y x y s) (c : chk s = true) (cX : calmK X = true) (cY : calmK Y = true) (cu : calmK u = true) (cv : calmK v = true)
    (h1 : ToR X Y x y u v tx ty) (hW : UndoR x y X Y Wx Wy) (h3 : ToR (Op.negFloat .f64 Wx) (Op.negFloat .f64 Wy) x (Op.negFloat .f64 y) tx ty C D) (ha : ∀ mo, resK .mul .f64 tinW al mo → AllR u v X Y s1 s2 al mo) (g1 : resK .sub .f64 C u d1) (k1 : resK .mul .f64 tinW al m1) (g2 : resK .sub .f64 D v d2) (k2 : resK .mul .f64 tinW al m2) : (leK .f64 (rgK .f64 d1) m1 && leK .f64 (rgK .f64 d2) m2) = true := by
  obtain ⟨C', D', h2⟩ := own_exists X Y x y tx ty
  obtain ⟨d3, g3⟩ := res_exists .sub C' u
  obtain ⟨d4, g4⟩ := res_exists .sub D' v
  have a := frame_back oX oY ou ov oy hx c cX cY cu cv h1 h2 hW h3 (ha _ k1) g3 g4 g1 g2
  have b := frame_back oX oY ou ov oy hx c cX cY cu cv h1 h2 hW h3 (ha _ k2) g3 g4 g1 g2
  rw [a.2.2.1, b.2.2.2]
  rfl
theorem one_then {x y r i : Nat} (fx : finK .f64 x = true) (fy : finK .f64 y = true) (h : ThenR 4607182418800017408 0 x y r i) : eqK .f64 r x = true ∧ eqK .f64 i y = true := by
  obtain ⟨p, q, c, d, h1, h2, h3, h4, h5, h6⟩ := h
  exact then_one fx fy ⟨p, q, d, c, res_mul_comm h1, res_mul_comm h2, res_mul_comm h4, res_mul_comm h3, h5, res_add_comm h6⟩
end Go.Proofs.Ytoljkokcgmigeaa
