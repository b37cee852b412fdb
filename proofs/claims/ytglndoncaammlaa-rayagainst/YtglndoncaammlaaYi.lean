/-
  What each function of package poly answers, and what the reference of its chapter answers: one contract a function, for every float: the answer stands in the relation of its formula to what was given; of the memory that was there nothing has turned.
-/
import Derived.Test.YtglndoncaammlaaVec
import Derived.Test.YtglndoncaammlaaYh
import Derived.Below
import Derived.WalkKit
import Derived.WalkLawsBesides
import Derived.WalkSpells
import Derived.ProofKit
import Derived.OpenShut
import Derived.Deep.RegionHeld3
namespace Go.Proofs.Ytglndoncaammlaa
open Go.ChangeShapes Go.WideShapes Go.ChangeAt Go.RowKit
set_option linter.unusedVariables false
set_option linter.unusedSimpArgs false


theorem seg_ag {ax ay bx b_y fx fy wx wy : Nat} {A B F Y : Vp} (w : World) (ha : isP ax ay A) (hB : isP bx b_y B) (hf : isP fx fy F) (hw : isP wx wy Y) : Calls Try.prog 5 #[.agg #[.float .f64 ax, .float .f64 ay], .agg #[.float .f64 bx, .float .f64 b_y], .agg #[.float .f64 fx, .float .f64 fy], .agg #[.float .f64 wx, .float .f64 wy]] w fun e w' => ∃ hx hy nx ny ht b er P, e = .returned (.tuple #[.agg #[.float .f64 hx, .float .f64 hy, .float .f64 nx, .float .f64 ny, .float .f64 ht], .bool b, .int .i64 er]) ∧ isP nx ny P ∧ ((b = true ∧ er = 0 ∧ Hid (ltK .f64 0 (dtF P Y) = false)) ∨ (b = false ∧ hx = 0 ∧ hy = 0 ∧ nx = 0 ∧ ny = 0 ∧ ht = 0)) ∧ Bel w w' := by
  refine (segment_n w ha hB hf hw).mono ?_
  rintro e w' ⟨hx, hy, nx, ny, ht, hH, rfl, hb⟩
  obtain ⟨k1, k2⟩ := sg_told (F := F) ha hB hw
  generalize sgE A B F Y = er at *
  generalize sgX A B F Y = X at *
  obtain ⟨b, H⟩ := X
  refine ⟨hx, hy, nx, ny, ht, b, er, _, rfl, hH.2.1, ?_, hb⟩
  cases b with
  | true => exact .inl ⟨rfl, (k1 rfl).1, hide (k1 rfl).2⟩
  | false =>
    have e := k2 rfl
    simp only at e
    subst e
    obtain ⟨q1, q2, q3⟩ := hH
    obtain ⟨rfl, rfl⟩ := isP_word q1 (by decide +kernel) (by decide +kernel)
    obtain ⟨rfl, rfl⟩ := isP_word q2 (by decide +kernel) (by decide +kernel)
    obtain rfl := isF_wd q3 (by decide +kernel)
    exact .inr ⟨rfl, rfl, rfl, rfl, rfl, rfl⟩

theorem pol_ag (Va : Value) {n fx fy wx wy : Nat} {xs ys : Nat → Nat} {F Y : Vp} (w : World) (hA : AnyS w Va n xs ys) (hf : isP fx fy F) (hw : isP wx wy Y) : Calls Try.prog 6 #[Va, .agg #[.float .f64 fx, .float .f64 fy], .agg #[.float .f64 wx, .float .f64 wy]] w fun e w' => ∃ hx hy nx ny ht b er P, e = .returned (.tuple #[.agg #[.float .f64 hx, .float .f64 hy, .float .f64 nx, .float .f64 ny, .float .f64 ht], .bool b, .int .i64 er]) ∧ isP nx ny P ∧ ((b = true ∧ er = 0 ∧ Hid (ltK .f64 0 (dtF P Y) = false)) ∨ (b = false ∧ hx = 0 ∧ hy = 0 ∧ nx = 0 ∧ ny = 0 ∧ ht = 0)) ∧ Bel w w' := by
  refine (polygon_n Va w hA hf hw).mono ?_
  rintro e w' ⟨hx, hy, nx, ny, ht, hH, rfl, hb⟩
  obtain ⟨k1, k2⟩ := pg_told (xs := xs) (ys := ys) (n := n) (hs := hasV xs ys n fx fy) (F := F) hw
  generalize pgE xs ys n F Y = er at *
  generalize pgX xs ys n (hasV xs ys n fx fy) F Y = X at *
  obtain ⟨b, H⟩ := X
  refine ⟨hx, hy, nx, ny, ht, b, er, _, rfl, hH.2.1, ?_, hb⟩
  cases b with
  | true => exact .inl ⟨rfl, (k1 rfl).1, hide (k1 rfl).2⟩
  | false =>
    have e := k2 rfl
    simp only at e
    subst e
    obtain ⟨q1, q2, q3⟩ := hH
    obtain ⟨rfl, rfl⟩ := isP_word q1 (by decide +kernel) (by decide +kernel)
    obtain ⟨rfl, rfl⟩ := isP_word q2 (by decide +kernel) (by decide +kernel)
    obtain rfl := isF_wd q3 (by decide +kernel)
    exact .inr ⟨rfl, rfl, rfl, rfl, rfl, rfl⟩

theorem dot_np {ax ay bx b_y : Nat} {A B : Vp} (w : World) (ha : isP ax ay A) (hb_ : isP bx b_y B) (h : Hid (ltK .f64 0 (dtF A B) = false)) : Calls Try.prog 7 #[.agg #[.float .f64 ax, .float .f64 ay], .agg #[.float .f64 bx, .float .f64 b_y]] w fun e w' => ∃ r, e = .returned (.float .f64 r) ∧ ltK .f64 0 r = false ∧ Bel w w' := by
  refine (vDot_n w ha hb_).mono ?_
  rintro e w' ⟨r, hr, rfl, hb⟩
  exact ⟨r, rfl, by rw [lt_n0, hr.2]; exact h.out, hb⟩

end Go.Proofs.Ytglndoncaammlaa
