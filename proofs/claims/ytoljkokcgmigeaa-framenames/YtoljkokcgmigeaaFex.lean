/-
  Plain facts on floats, more: rounding to the nearest rung, sums and products of finite floats, signs turned. No program is named here.
-/
import Derived.Test.YtoljkokcgmigeaaFrsm
namespace Go.Proofs.Ytoljkokcgmigeaa
open Ieee Go.RowKit

/-! ### The examples of frames, worked out -/
theorem fto_ex {tx ty : Nat} (h : ToR 4607182418800017408 4611686018427387904 0 4607182418800017408 4613937818241073152 4616189618054758400 tx ty) : tx = 13837309855095848960 ∧ ty = 4617315517961601024 := by
  obtain ⟨_, _, ⟨_, _, _, _, t1, t2, t3, t4, t5, t6⟩, k1, k2⟩ := h
  obtain rfl := res_is t1 (v := 0) (by decide +kernel)
  obtain rfl := res_is t2 (v := 4616189618054758400) (by decide +kernel)
  obtain rfl := res_is t3 (v := 0) (by decide +kernel)
  obtain rfl := res_is t4 (v := 4613937818241073152) (by decide +kernel)
  obtain rfl := res_is t5 (v := 13839561654909534208) (by decide +kernel)
  obtain rfl := res_is t6 (v := 4613937818241073152) (by decide +kernel)
  obtain rfl := res_is k1 (v := 13837309855095848960) (by decide +kernel)
  obtain rfl := res_is k2 (v := 4617315517961601024) (by decide +kernel)
  exact ⟨rfl, rfl⟩
theorem fown_ex {r i : Nat} (h : OwnR 4607182418800017408 4611686018427387904 0 4607182418800017408 13837309855095848960 4617315517961601024 r i) : r = 4613937818241073152 ∧ i = 4616189618054758400 := by
  obtain ⟨_, _, k1, k2, ⟨_, _, _, _, t1, t2, t3, t4, t5, t6⟩⟩ := h
  obtain rfl := res_is k1 (v := 13839561654909534208) (by decide +kernel)
  obtain rfl := res_is k2 (v := 4613937818241073152) (by decide +kernel)
  obtain rfl := res_is t1 (v := 9223372036854775808) (by decide +kernel)
  obtain rfl := res_is t2 (v := 4613937818241073152) (by decide +kernel)
  obtain rfl := res_is t3 (v := 0) (by decide +kernel)
  obtain rfl := res_is t4 (v := 13839561654909534208) (by decide +kernel)
  obtain rfl := res_is t5 (v := 4613937818241073152) (by decide +kernel)
  obtain rfl := res_is t6 (v := 4616189618054758400) (by decide +kernel)
  exact ⟨rfl, rfl⟩
theorem fto_ex2 {tx ty : Nat} (h : ToR 4607182418800017408 4611686018427387904 0 4607182418800017408 0 4607182418800017408 tx ty) : tx = 0 ∧ ty = 4611686018427387904 := by
  obtain ⟨_, _, ⟨_, _, _, _, t1, t2, t3, t4, t5, t6⟩, k1, k2⟩ := h
  obtain rfl := res_is t1 (v := 0) (by decide +kernel)
  obtain rfl := res_is t2 (v := 4607182418800017408) (by decide +kernel)
  obtain rfl := res_is t3 (v := 0) (by decide +kernel)
  obtain rfl := res_is t4 (v := 0) (by decide +kernel)
  obtain rfl := res_is t5 (v := 13830554455654793216) (by decide +kernel)
  obtain rfl := res_is t6 (v := 0) (by decide +kernel)
  obtain rfl := res_is k1 (v := 0) (by decide +kernel)
  obtain rfl := res_is k2 (v := 4611686018427387904) (by decide +kernel)
  exact ⟨rfl, rfl⟩
theorem fthen_ex {r i : Nat} (h : ThenR 4603579539098121011 4605380978949069210 0 4607182418800017408 r i) : r = 13828753015803845018 ∧ i = 4603579539098121011 := by
  obtain ⟨_, _, _, _, t1, t2, t3, t4, t5, t6⟩ := h
  obtain rfl := res_is t1 (v := 0) (by decide +kernel)
  obtain rfl := res_is t2 (v := 4605380978949069210) (by decide +kernel)
  obtain rfl := res_is t3 (v := 4603579539098121011) (by decide +kernel)
  obtain rfl := res_is t4 (v := 0) (by decide +kernel)
  obtain rfl := res_is t5 (v := 13828753015803845018) (by decide +kernel)
  obtain rfl := res_is t6 (v := 4603579539098121011) (by decide +kernel)
  exact ⟨rfl, rfl⟩
theorem fundo_ex {r i : Nat} (h : UndoR 0 4607182418800017408 4607182418800017408 4611686018427387904 r i) : r = 4611686018427387904 ∧ i = 13830554455654793216 := by
  obtain ⟨_, _, _, _, t1, t2, t3, t4, t5, t6⟩ := h
  obtain rfl := res_is t1 (v := 0) (by decide +kernel)
  obtain rfl := res_is t2 (v := 4611686018427387904) (by decide +kernel)
  obtain rfl := res_is t3 (v := 0) (by decide +kernel)
  obtain rfl := res_is t4 (v := 4607182418800017408) (by decide +kernel)
  obtain rfl := res_is t5 (v := 4611686018427387904) (by decide +kernel)
  obtain rfl := res_is t6 (v := 13830554455654793216) (by decide +kernel)
  exact ⟨rfl, rfl⟩
theorem fmore_ex {x y : Nat} (h : MoreR 0 0 4602678819172646912 4611686018427387904 13839561654909534208 x y) : x = 4607182418800017408 ∧ y = 13835058055282163712 := by
  obtain ⟨_, _, h1, h2, h3, h4⟩ := h
  obtain rfl := res_is h1 (v := 4607182418800017408) (by decide +kernel)
  obtain rfl := res_is h2 (v := 13835058055282163712) (by decide +kernel)
  obtain rfl := res_is h3 (v := 4607182418800017408) (by decide +kernel)
  obtain rfl := res_is h4 (v := 13835058055282163712) (by decide +kernel)
  exact ⟨rfl, rfl⟩
theorem fmore_ex2 {x y : Nat} (h : MoreR 4607182418800017408 4611686018427387904 4607182418800017408 0 0 x y) : x = 4607182418800017408 ∧ y = 4611686018427387904 := by
  obtain ⟨_, _, h1, h2, h3, h4⟩ := h
  obtain rfl := res_is h1 (v := 0) (by decide +kernel)
  obtain rfl := res_is h2 (v := 0) (by decide +kernel)
  obtain rfl := res_is h3 (v := 4607182418800017408) (by decide +kernel)
  obtain rfl := res_is h4 (v := 4611686018427387904) (by decide +kernel)
  exact ⟨rfl, rfl⟩
theorem ft1_by {x y : Nat} (h : TByR 0 x y) : x = 4607182418800017408 ∧ y = 0 := by
  obtain ⟨s, h1, h2⟩ := h
  obtain rfl := res_is h1 (v := 0) (by decide +kernel)
  rw [show ltK .f64 9218868437227405311 0 = false by decide +kernel] at h2
  simp only [Bool.false_eq_true, if_false] at h2
  obtain ⟨d, c, k, g1, g2, g3, g4, g5⟩ := h2
  obtain rfl := res_is g1 (v := 4607182418800017408) (by decide +kernel)
  obtain rfl := res_is g2 (v := 4607182418800017408) (by decide +kernel)
  obtain rfl := res_is g3 (v := 0) (by decide +kernel)
  obtain rfl := res_is g4 (v := 4607182418800017408) (by decide +kernel)
  obtain rfl := res_is g5 (v := 0) (by decide +kernel)
  exact ⟨rfl, rfl⟩
theorem ft1_then {r i : Nat} (h : ThenR 4607182418800017408 0 4607182418800017408 0 r i) : r = 4607182418800017408 ∧ i = 0 := by
  obtain ⟨_, _, _, _, t1, t2, t3, t4, t5, t6⟩ := h
  obtain rfl := res_is t1 (v := 4607182418800017408) (by decide +kernel)
  obtain rfl := res_is t2 (v := 0) (by decide +kernel)
  obtain rfl := res_is t3 (v := 0) (by decide +kernel)
  obtain rfl := res_is t4 (v := 0) (by decide +kernel)
  obtain rfl := res_is t5 (v := 4607182418800017408) (by decide +kernel)
  obtain rfl := res_is t6 (v := 0) (by decide +kernel)
  exact ⟨rfl, rfl⟩
theorem ft1_unit {u v : Nat} {b : Bool} (h : TUnitR 4607182418800017408 0 u v b) : u = 4607182418800017408 ∧ v = 0 ∧ b = true := by
  obtain ⟨n, p, q, s, ⟨_, ⟨_, _, a1, a2, a3⟩, a4⟩, h2, h3, ⟨_, _, b1, b2, b3⟩, h5, h6, h7⟩ := h
  obtain rfl := res_is a1 (v := 4607182418800017408) (by decide +kernel)
  obtain rfl := res_is a2 (v := 0) (by decide +kernel)
  obtain rfl := res_is a3 (v := 4607182418800017408) (by decide +kernel)
  obtain rfl := sq_is a4 (v := 4607182418800017408) (by decide +kernel)
  obtain rfl := res_is h2 (v := 4607182418800017408) (by decide +kernel)
  obtain rfl := res_is h3 (v := 0) (by decide +kernel)
  obtain rfl := res_is b1 (v := 4607182418800017408) (by decide +kernel)
  obtain rfl := res_is b2 (v := 0) (by decide +kernel)
  obtain rfl := res_is b3 (v := 4607182418800017408) (by decide +kernel)
  rw [show chk 4607182418800017408 = true by decide +kernel] at h5
  subst h5
  exact ⟨h6, h7, rfl⟩
theorem fturn_ex {qx qy : Nat} (h : TurnMR 4607182418800017408 0 0 4602678819172646912 qx qy) : qx = 4607182418800017408 ∧ qy = 0 := by
  obtain ⟨k, h, bx, b_y, r, i, u, v, b, h1, h2, h3, h4, h5, h6, h7⟩ := h
  obtain rfl := res_is h1 (v := 0) (by decide +kernel)
  obtain rfl := res_is h2 (v := 0) (by decide +kernel)
  obtain ⟨rfl, rfl⟩ := ft1_by h3
  obtain ⟨rfl, rfl⟩ := ft1_then h4
  obtain ⟨rfl, rfl, rfl⟩ := ft1_unit h5
  exact ⟨h6, h7⟩
theorem ft2_by {x y : Nat} (h : TByR 4607182418800017408 x y) : x = 0 ∧ y = 4607182418800017408 := by
  obtain ⟨s, h1, h2⟩ := h
  obtain rfl := res_is h1 (v := 4607182418800017408) (by decide +kernel)
  rw [show ltK .f64 9218868437227405311 4607182418800017408 = false by decide +kernel] at h2
  simp only [Bool.false_eq_true, if_false] at h2
  obtain ⟨d, c, k, g1, g2, g3, g4, g5⟩ := h2
  obtain rfl := res_is g1 (v := 4611686018427387904) (by decide +kernel)
  obtain rfl := res_is g2 (v := 0) (by decide +kernel)
  obtain rfl := res_is g3 (v := 4611686018427387904) (by decide +kernel)
  obtain rfl := res_is g4 (v := 0) (by decide +kernel)
  obtain rfl := res_is g5 (v := 4607182418800017408) (by decide +kernel)
  exact ⟨rfl, rfl⟩
theorem ft2_then {r i : Nat} (h : ThenR 0 4607182418800017408 0 4607182418800017408 r i) : r = 13830554455654793216 ∧ i = 0 := by
  obtain ⟨_, _, _, _, t1, t2, t3, t4, t5, t6⟩ := h
  obtain rfl := res_is t1 (v := 0) (by decide +kernel)
  obtain rfl := res_is t2 (v := 4607182418800017408) (by decide +kernel)
  obtain rfl := res_is t3 (v := 0) (by decide +kernel)
  obtain rfl := res_is t4 (v := 0) (by decide +kernel)
  obtain rfl := res_is t5 (v := 13830554455654793216) (by decide +kernel)
  obtain rfl := res_is t6 (v := 0) (by decide +kernel)
  exact ⟨rfl, rfl⟩
theorem ft2_unit {u v : Nat} {b : Bool} (h : TUnitR 13830554455654793216 0 u v b) : u = 13830554455654793216 ∧ v = 0 ∧ b = true := by
  obtain ⟨n, p, q, s, ⟨_, ⟨_, _, a1, a2, a3⟩, a4⟩, h2, h3, ⟨_, _, b1, b2, b3⟩, h5, h6, h7⟩ := h
  obtain rfl := res_is a1 (v := 4607182418800017408) (by decide +kernel)
  obtain rfl := res_is a2 (v := 0) (by decide +kernel)
  obtain rfl := res_is a3 (v := 4607182418800017408) (by decide +kernel)
  obtain rfl := sq_is a4 (v := 4607182418800017408) (by decide +kernel)
  obtain rfl := res_is h2 (v := 13830554455654793216) (by decide +kernel)
  obtain rfl := res_is h3 (v := 0) (by decide +kernel)
  obtain rfl := res_is b1 (v := 4607182418800017408) (by decide +kernel)
  obtain rfl := res_is b2 (v := 0) (by decide +kernel)
  obtain rfl := res_is b3 (v := 4607182418800017408) (by decide +kernel)
  rw [show chk 4607182418800017408 = true by decide +kernel] at h5
  subst h5
  exact ⟨h6, h7, rfl⟩
theorem fturn_ex2 {qx qy : Nat} (h : TurnMR 0 4607182418800017408 4611686018427387904 4607182418800017408 qx qy) : qx = 13830554455654793216 ∧ qy = 0 := by
  obtain ⟨k, h, bx, b_y, r, i, u, v, b, h1, h2, h3, h4, h5, h6, h7⟩ := h
  obtain rfl := res_is h1 (v := 4611686018427387904) (by decide +kernel)
  obtain rfl := res_is h2 (v := 4607182418800017408) (by decide +kernel)
  obtain ⟨rfl, rfl⟩ := ft2_by h3
  obtain ⟨rfl, rfl⟩ := ft2_then h4
  obtain ⟨rfl, rfl, rfl⟩ := ft2_unit h5
  exact ⟨h6, h7⟩
end Go.Proofs.Ytoljkokcgmigeaa
namespace Go.Proofs.Ytoljkokcgmigeaa
open Ieee Go.RowKit

theorem run_equalIn_co (P : Program) (w : World) (d : Nat) (t : TypeId) (k : FloatKind) (x y u v : Nat) (h : P.underlying t = some (.complex k)) : (Op.equalIn (d + 1) t (.complex k x y) (.complex k u v)).run P w = .ok (eqK k x u && eqK k y v) w := by
  rw [← cmp_eq, ← cmp_eq]
  simp [Op.equalIn, run_underlying h]
  rfl
theorem run_equalIn_complex (P : Program) (w : World) (t : TypeId) (k : FloatKind) (x y u v : Nat) (h : P.underlying t = some (.complex k)) : (Op.equalIn 9999 t (.complex k x y) (.complex k u v)).run P w = .ok (eqK k x u && eqK k y v) w := run_equalIn_co P w 9998 t k x y u v h
theorem run_equalIn_deep (P : Program) (w : World) (t : TypeId) (k : FloatKind) (x y : Nat) (h : P.underlying t = some (.float k)) : (Op.equalIn 9998 t (.float k x) (.float k y)).run P w = .ok (eqK k x y) w := run_equalIn_fl P w 9997 t k x y h

/-! ### No number in, no number out -/
theorem nan_l {op : BinOp} {x y r : Nat} (ho : op = .add ∨ op = .sub ∨ op = .mul ∨ op = .quo) (hx : nanK .f64 x = true) (h : resK op .f64 x y r) : nanK .f64 r = true := by
  rcases h.2 with e | e
  · exfalso
    have hr := read_nan _ (okF .f64) x hx
    rcases ho with rfl | rfl | rfl | rfl
    · have : floatBits .add .f64 x y = none := by
        show FloatKind.f64.format.add x y = none
        unfold Format.add; rw [hr]; cases FloatKind.f64.format.read y <;> rfl
      rw [this] at e; cases e
    · have : floatBits .sub .f64 x y = none := by
        show FloatKind.f64.format.sub x y = none
        unfold Format.sub; rw [hr]; cases (FloatKind.f64.format.read y).opposite <;> rfl
      rw [this] at e; cases e
    · have : floatBits .mul .f64 x y = none := by
        show FloatKind.f64.format.mul x y = none
        unfold Format.mul; rw [hr]; cases FloatKind.f64.format.read y <;> rfl
      rw [this] at e; cases e
    · have : floatBits .quo .f64 x y = none := by
        show FloatKind.f64.format.div x y = none
        unfold Format.div; rw [hr]; cases FloatKind.f64.format.read y <;> rfl
      rw [this] at e; cases e
  · exact e.2
theorem nan_r {op : BinOp} {x y r : Nat} (ho : op = .add ∨ op = .sub ∨ op = .mul ∨ op = .quo) (hy : nanK .f64 y = true) (h : resK op .f64 x y r) : nanK .f64 r = true := by
  rcases h.2 with e | e
  · exfalso
    have hr := read_nan _ (okF .f64) y hy
    rcases ho with rfl | rfl | rfl | rfl
    · have : floatBits .add .f64 x y = none := by
        show FloatKind.f64.format.add x y = none
        unfold Format.add; rw [hr]; cases FloatKind.f64.format.read x <;> rfl
      rw [this] at e; cases e
    · have : floatBits .sub .f64 x y = none := by
        show FloatKind.f64.format.sub x y = none
        unfold Format.sub; rw [hr]; cases FloatKind.f64.format.read x <;> rfl
      rw [this] at e; cases e
    · have : floatBits .mul .f64 x y = none := by
        show FloatKind.f64.format.mul x y = none
        unfold Format.mul; rw [hr]; cases FloatKind.f64.format.read x <;> rfl
      rw [this] at e; cases e
    · have : floatBits .quo .f64 x y = none := by
        show FloatKind.f64.format.div x y = none
        unfold Format.div; rw [hr]; cases FloatKind.f64.format.read x <;> rfl
      rw [this] at e; cases e
  · exact e.2
theorem turnm_nan {x y w t qx qy : Nat} (hw : nanK .f64 w = true) (h : TurnMR x y w t qx qy) : nanK .f64 qx = true := by
  obtain ⟨k, m, bx, b_y, r, i, u, v, b, h1, h2, ⟨s, h3, h4⟩, ⟨p, q, c, d, t1, t2, t3, t4, t5, t6⟩, ⟨n, p', q', s', l1, l2, l3, ⟨a1, a2, d1, d2, d3⟩, l5, l6, l7⟩, h6, h7⟩ := h
  have k1 := nan_l (by simp) hw h1
  have k2 := nan_l (by simp) k1 h2
  have k3 := nan_l (by simp) k2 h3
  have e : ltK .f64 9218868437227405311 s = false := by unfold ltK; rw [k3]; simp
  rw [e] at h4
  simp only [Bool.false_eq_true, if_false] at h4
  obtain ⟨d', c', e', g1, g2, g3, g4, g5⟩ := h4
  have k4 := nan_r (by simp) k3 g1
  have k5 := nan_r (by simp) k4 g4
  have k6 := nan_r (by simp) k5 t1
  have k7 := nan_l (by simp) k6 t5
  have k8 := nan_l (by simp) k7 l2
  have k9 := nan_l (by simp) k8 d1
  have k10 := nan_l (by simp) k9 d3
  have hb : b = false := by rw [l5]; unfold chk leK; rw [k10]; simp
  subst hb
  rw [h6]
  exact k7
theorem fchk_a {s : Nat} (h : DotR 4607182418800017408 0 4607182418800017408 0 s) : chk s = true := by
  obtain ⟨p, q, h1, h2, h3⟩ := h
  obtain rfl := res_is h1 (v := 4607182418800017408) (by decide +kernel)
  obtain rfl := res_is h2 (v := 0) (by decide +kernel)
  obtain rfl := res_is h3 (v := 4607182418800017408) (by decide +kernel)
  decide +kernel
theorem fchk_b {s : Nat} (h : DotR 4611686018427387904 0 4611686018427387904 0 s) : chk s = false := by
  obtain ⟨p, q, h1, h2, h3⟩ := h
  obtain rfl := res_is h1 (v := 4616189618054758400) (by decide +kernel)
  obtain rfl := res_is h2 (v := 0) (by decide +kernel)
  obtain rfl := res_is h3 (v := 4616189618054758400) (by decide +kernel)
  decide +kernel
theorem fchk_c {s : Nat} (h : DotR 0 13830554455654793216 0 13830554455654793216 s) : chk s = true := by
  obtain ⟨p, q, h1, h2, h3⟩ := h
  obtain rfl := res_is h1 (v := 0) (by decide +kernel)
  obtain rfl := res_is h2 (v := 4607182418800017408) (by decide +kernel)
  obtain rfl := res_is h3 (v := 4607182418800017408) (by decide +kernel)
  decide +kernel
theorem fmore_inf {x y : Nat} (h : MoreR 0 0 4607182418800017408 9218868437227405312 0 x y) : x = 9218868437227405312 ∧ y = 0 := by
  obtain ⟨p, q, h1, h2, h3, h4⟩ := h
  obtain rfl := res_is h1 (v := 9218868437227405312) (by decide +kernel)
  obtain rfl := res_is h2 (v := 0) (by decide +kernel)
  obtain rfl := res_is h3 (v := 9218868437227405312) (by decide +kernel)
  obtain rfl := res_is h4 (v := 0) (by decide +kernel)
  exact ⟨rfl, rfl⟩
end Go.Proofs.Ytoljkokcgmigeaa
