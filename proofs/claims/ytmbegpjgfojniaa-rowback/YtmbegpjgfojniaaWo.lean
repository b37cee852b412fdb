/-
  What each function of package poly answers, and what the reference of its chapter answers: one contract a function, for every float: the answer stands in the relation of its formula to what was given; of the memory that was there nothing has turned.
-/
import Derived.Test.YtmbegpjgfojniaaVec
import Derived.Test.YtmbegpjgfojniaaWh
import Derived.Test.YtmbegpjgfojniaaWnu
import Derived.Below
import Derived.WalkKit
import Derived.WalkLawsBesides
import Derived.WalkSpells
import Derived.ProofKit
import Derived.OpenShut
import Derived.Deep.RegionHeld3
namespace Go.Proofs.Ytmbegpjgfojniaa
open Go.ChangeShapes Go.WideShapes Go.ChangeAt Go.RowKit
set_option linter.unusedVariables false
set_option linter.unusedSimpArgs false


theorem bd_word {n x q : Nat} (h : isF x q) (b : Bd n q) : x = q := by
  refine isF_wd h ?_
  rintro rfl
  exact absurd b.2.1 (by decide +kernel)
theorem bd_bits {n x : Nat} (b : Bd n x) : isF x x := ⟨b.1, bits_num (fin_nan b.2.1)⟩
theorem nearly_w {n m a b o : Nat} (w : World) (ha : Bd n a) (hb_ : Bd n b) (hn : n ≤ 900) (ho : Bd m o) (hm : m ≤ 800) : Calls Try.prog 13 #[.float .f64 a, .float .f64 b, .float .f64 o] w fun e w' => e = .returned (.bool (nrW a b o)) ∧ Bel w w' := by
  have q1 := run_mul Try.prog
  have q3 := run_sub Try.prog
  have c1 := cmp_le .f64
  have ofv : ∀ W : World, okK .f64 (fv .sub .f64 a b W) := fun W => (fv_res .sub .f64 a b W).1
  have ofo := ho.1
  go_enter Try.func13, Try.ntmps13
  go_wp2_with (first | (go_at_call 12; (with_reducible refine (abs_any o _ ofo).mono ?_); rintro e w1 ⟨rfl, rfl⟩) | (go_at_call 12; (with_reducible refine (abs_any _ _ (ofv _)).mono ?_); rintro e w2 ⟨rfl, rfl⟩))
  go_ret
  refine ⟨?_, by repeat (first | exact bl_refl _ | assumption | apply bl_drewN | apply bl_drew | apply bl_alloc | refine bl_set ?_ (by simp <;> omega) | refine bl_trans ?_ (by assumption))⟩
  have hd := bd_word (o_is (op := .sub) w (bd_bits ha) (bd_bits hb_)) (sub_oB ha hb_ hn).1
  have hr := fun W : World => bd_word (o_is (op := .mul) W (bd_bits c40_bd) (bd_bits (rg_bd ho))) (mul_o c40_bd (rg_bd ho) (by omega)).1
  unfold c40 at hr
  unfold nrW c40
  simp only [hd, hr]
  all_goals first | rfl | (show Ending.returned (Value.bool (leK .f64 (rgK .f64 (fv .sub .f64 a b w)) (fv .mul .f64 4427038433705197568 (rgK .f64 o) _))) = _; rw [hd, hr])

end Go.Proofs.Ytmbegpjgfojniaa
