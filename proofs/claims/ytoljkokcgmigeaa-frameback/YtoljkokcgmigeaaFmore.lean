/-
  Frames: what is the same is told to be the same; cells behind stores.
-/
import Derived.Test.YtoljkokcgmigeaaFprog
import Derived.Test.YtoljkokcgmigeaaFrsm
import Derived.Test.YtoljkokcgmigeaaMulti
namespace Go.Proofs.Ytoljkokcgmigeaa
open Go.ChangeShapes Go.WideShapes Go.ChangeAt Go.RowKit
set_option linter.unusedVariables false


theorem tmr_ok {x y w t qx qy : Nat} (h : TurnMR x y w t qx qy) : okK .f64 qx ∧ okK .f64 qy := by
  obtain ⟨k, m, bx, b_y, r, i, u, v, b, h1, h2, h3, h4, h5, h6, h7⟩ := h
  rw [h6, h7]
  cases b
  · exact h4.ok
  · exact h5.ok
theorem fSame_true (X Y x y U V u v : Nat) (w : World) (oX : okK .f64 X ∧ okK .f64 Y) (ox : okK .f64 x ∧ okK .f64 y) (oU : okK .f64 U ∧ okK .f64 V) (ou : okK .f64 u ∧ okK .f64 v) (h1 : smK .f64 X U = true ∧ smK .f64 Y V = true) (h2 : smK .f64 x u = true ∧ smK .f64 y v = true) : Calls Try.prog 22 #[.agg #[.float .f64 X, .float .f64 Y, .complex .f64 x y], .agg #[.float .f64 U, .float .f64 V, .complex .f64 u v]] w fun e w' => e = .returned (.bool true) ∧ Bel w w' := by
  have h := fSame_any X Y x y U V u v oX.1 oX.2 ox.1 ox.2 oU.1 oU.2 ou.1 ou.2 w
  rw [h1.1, h1.2, h2.1, h2.2] at h
  exact h
theorem fSameVec_true (X Y U V : Nat) (w : World) (oX : okK .f64 X ∧ okK .f64 Y) (oU : okK .f64 U ∧ okK .f64 V) (h1 : smK .f64 X U = true ∧ smK .f64 Y V = true) : Calls Try.prog 23 #[.agg #[.float .f64 X, .float .f64 Y], .agg #[.float .f64 U, .float .f64 V]] w fun e w' => e = .returned (.bool true) ∧ Bel w w' := by
  have h := rSameVec_any X Y U V oX.1 oX.2 oU.1 oU.2 w
  rw [h1.1, h1.2] at h
  exact h
theorem neg_two {a b c d : Nat} (o1 : okK .f64 a ∧ okK .f64 b) (o2 : okK .f64 c ∧ okK .f64 d) (h : smK .f64 a c = true ∧ smK .f64 b d = true) : smK .f64 (Op.negFloat .f64 a) (Op.negFloat .f64 c) = true ∧ smK .f64 (Op.negFloat .f64 b) (Op.negFloat .f64 d) = true := ⟨neg_sm o1.1 o2.1 h.1, neg_sm o1.2 o2.2 h.2⟩
theorem neg_oks {a b : Nat} (o1 : okK .f64 a ∧ okK .f64 b) : okK .f64 (Op.negFloat .f64 a) ∧ okK .f64 (Op.negFloat .f64 b) := ⟨neg_ok o1.1, neg_ok o1.2⟩
theorem sm_selfs (a b : Nat) : smK .f64 a a = true ∧ smK .f64 b b = true := ⟨smK_self _ _, smK_self _ _⟩
end Go.Proofs.Ytoljkokcgmigeaa
