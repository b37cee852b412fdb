/-
  Plain facts on floats, more: rounding to the nearest rung, sums and products of finite floats, signs turned. No program is named here.
-/
import Derived.Test.YtmgoancijepeoaaBox
namespace Go.Proofs.Ytmgoancijepeoaa
open Ieee Go.RowKit

/-! ### The examples of boxes, worked out -/
theorem res_of {op : BinOp} {x y r : Nat} (o : okK .f64 r) (h : floatBits op .f64 x y = some r) : resK op .f64 x y r := ⟨o, .inl h⟩
theorem res_no {op : BinOp} {x y r : Nat} (o : okK .f64 r) (h : floatBits op .f64 x y = none) (n : nanK .f64 r = true) : resK op .f64 x y r := ⟨o, .inr ⟨h, n⟩⟩
theorem ray_ex1 {r : Nat} {b : Bool} (h : RayR 0 0 4607182418800017408 4607182418800017408 13830554455654793216 4602678819172646912 4616189618054758400 0 r b) : r = 4598175219545276416 ∧ b = true := by
  have g : RayR 0 0 4607182418800017408 4607182418800017408 13830554455654793216 4602678819172646912 4616189618054758400 0 4598175219545276416 true :=
    ray_yes (ax_le (d1 := 4607182418800017408) (p := 4598175219545276416) (d2 := 4611686018427387904) (q := 4602678819172646912) (by decide +kernel) (res_of (by rw [okK64]; decide) (by decide +kernel)) (res_of (by rw [okK64]; decide) (by decide +kernel)) (res_of (by rw [okK64]; decide) (by decide +kernel)) (res_of (by rw [okK64]; decide) (by decide +kernel)) (by decide +kernel) (by decide +kernel) (a := 4598175219545276416) (b := 4602678819172646912) (by decide +kernel) (by decide +kernel) (by decide +kernel))
      (s2 := 4598175219545276416) (t2 := 4602678819172646912) (by have z := ax_zero (low := 0) (high := 4607182418800017408) (frm := 4602678819172646912) (way := 0) (s := 4598175219545276416) (t := 4602678819172646912) (by decide +kernel); exact z)
  obtain ⟨rfl, rfl⟩ := h.same g
  exact ⟨rfl, rfl⟩
theorem ray_ex2 {r : Nat} {b : Bool} (h : RayR 0 0 4607182418800017408 4607182418800017408 13830554455654793216 4602678819172646912 4602678819172646912 0 r b) : r = 0 ∧ b = false := by
  have g : RayR 0 0 4607182418800017408 4607182418800017408 13830554455654793216 4602678819172646912 4602678819172646912 0 0 false :=
    ray_no (ax_le (d1 := 4607182418800017408) (p := 4611686018427387904) (d2 := 4611686018427387904) (q := 4616189618054758400) (by decide +kernel) (res_of (by rw [okK64]; decide) (by decide +kernel)) (res_of (by rw [okK64]; decide) (by decide +kernel)) (res_of (by rw [okK64]; decide) (by decide +kernel)) (res_of (by rw [okK64]; decide) (by decide +kernel)) (by decide +kernel) (by decide +kernel) (a := 4611686018427387904) (b := 4607182418800017408) (by decide +kernel) (by decide +kernel) (by decide +kernel))
  obtain ⟨rfl, rfl⟩ := h.same g
  exact ⟨rfl, rfl⟩
theorem ray_ex3 {r : Nat} {b : Bool} (h : RayR 0 0 4607182418800017408 4607182418800017408 4602678819172646912 4602678819172646912 9221120237041090561 4607182418800017408 r b) : r = 0 ∧ b = true := by
  have g : RayR 0 0 4607182418800017408 4607182418800017408 4602678819172646912 4602678819172646912 9221120237041090561 4607182418800017408 0 true :=
    ray_yes (s1 := 0) (t1 := 4607182418800017408) (by have z := ax_zero (low := 0) (high := 4607182418800017408) (frm := 4602678819172646912) (way := 9221120237041090561) (s := 0) (t := 4607182418800017408) (by decide +kernel); exact z)
      (ax_le (d1 := 13826050856027422720) (p := 13826050856027422720) (d2 := 4602678819172646912) (q := 4602678819172646912) (by decide +kernel) (res_of (by rw [okK64]; decide) (by decide +kernel)) (res_of (by rw [okK64]; decide) (by decide +kernel)) (res_of (by rw [okK64]; decide) (by decide +kernel)) (res_of (by rw [okK64]; decide) (by decide +kernel)) (by decide +kernel) (by decide +kernel) (a := 0) (b := 4602678819172646912) (by decide +kernel) (by decide +kernel) (by decide +kernel))
  obtain ⟨rfl, rfl⟩ := h.same g
  exact ⟨rfl, rfl⟩
theorem ray_ex4 {r : Nat} {b : Bool} (h : RayR 18442240474082181120 0 9218868437227405312 4607182418800017408 18442240474082181120 4602678819172646912 4607182418800017408 0 r b) : r = 0 ∧ b = false := by
  have g : RayR 18442240474082181120 0 9218868437227405312 4607182418800017408 18442240474082181120 4602678819172646912 4607182418800017408 0 0 false :=
    ray_no (s1 := 0) (t1 := 0) (ax_nan (d1 := 9221120237041090561) (p := 9221120237041090561) (d2 := 9218868437227405312) (q := 9218868437227405312) (by decide +kernel) (res_no (by rw [okK64]; decide) (by decide +kernel) (by decide +kernel)) (res_no (by rw [okK64]; decide) (by decide +kernel) (by decide +kernel)) (res_of (by rw [okK64]; decide) (by decide +kernel)) (res_of (by rw [okK64]; decide) (by decide +kernel)) (by decide +kernel))
  obtain ⟨rfl, rfl⟩ := h.same g
  exact ⟨rfl, rfl⟩
theorem mov_ex {a b c d : Nat} (h : MovR 9223372036854775808 9223372036854775808 9223372036854775808 9223372036854775808 0 0 a b c d) : a = 9223372036854775808 ∧ b = 9223372036854775808 ∧ c = 0 ∧ d = 0 := by
  obtain ⟨h1, h2⟩ := h
  unfold StR at h1 h2
  rw [if_neg (by decide +kernel)] at h1 h2
  obtain ⟨rfl, h1⟩ := h1
  obtain ⟨rfl, h2⟩ := h2
  obtain rfl := res_is h1 (v := 0) (by decide +kernel)
  obtain rfl := res_is h2 (v := 0) (by decide +kernel)
  exact ⟨rfl, rfl, rfl, rfl⟩
theorem size_ex {r : Nat} (h : SizeR 0 0 4611686018427387904 4613937818241073152 r) : r = 4617315517961601024 := by
  obtain ⟨p, q, ⟨h1, h2⟩, h3⟩ := h
  obtain rfl := res_is h1 (v := 4611686018427387904) (by decide +kernel)
  obtain rfl := res_is h2 (v := 4613937818241073152) (by decide +kernel)
  exact res_is h3 (by decide +kernel)
end Go.Proofs.Ytmgoancijepeoaa
