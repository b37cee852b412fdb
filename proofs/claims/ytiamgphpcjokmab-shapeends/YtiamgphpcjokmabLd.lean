/-
  What each function of package poly answers, and what the reference of its chapter answers: one contract a function, for every float: the answer stands in the relation of its formula to what was given; of the memory that was there nothing has turned.
-/
import Derived.Test.YtiamgphpcjokmabVec
import Derived.Test.YtiamgphpcjokmabSd
import Derived.Below
import Derived.OwnWalk
import Derived.Laws.AppendOwn
import Derived.Laws.AppendOwnNone
import Derived.Laws.StructEq
import Derived.WalkKit
import Derived.WalkLawsBesides
import Derived.WalkSpells
import Derived.ProofKit
import Derived.OpenShut
import Derived.Deep.RegionHeld3
namespace Go.Proofs.Ytiamgphpcjokmab
open Go.ChangeShapes Go.WideShapes Go.ChangeAt Go.RowKit
set_option linter.unusedVariables false
set_option linter.unusedSimpArgs false


theorem boxA_ok {k : Int} {r n : Nat} {xs ys : Nat → Nat} (o : Oks xs ys n) (hr : okK .f64 r) : ∃ a b c d, boxA k r xs ys n = .agg #[.float .f64 a, .float .f64 b, .float .f64 c, .float .f64 d] ∧ okK .f64 a ∧ okK .f64 b ∧ okK .f64 c ∧ okK .f64 d := by
  unfold boxA
  have z0 : okK .f64 0 := by rw [okK64]; decide
  by_cases hz : shE k r xs ys n = 0
  · rw [if_pos hz]
    obtain ⟨g, h1, h8, hb⟩ := sh_gd o hr hz
    obtain ⟨a1, a2⟩ := low_bd (f := xs) (m := 40) (n - 1) (fun i hi => (g i (by omega)).1)
    obtain ⟨b1, b2⟩ := low_bd (f := ys) (m := 40) (n - 1) (fun i hi => (g i (by omega)).2)
    refine ⟨_, _, _, _, rfl, ?_, ?_, ?_, ?_⟩ <;> (first | unfold bxL | unfold bxH) <;> split
    · exact a1.1
    · exact (bd_sub a1 hb (by decide)).1
    · exact b1.1
    · exact (bd_sub b1 hb (by decide)).1
    · exact a2.1
    · exact (bd_add a2 hb (by decide)).1
    · exact b2.1
    · exact (bd_add b2 hb (by decide)).1
  · rw [if_neg hz]
    exact ⟨0, 0, 0, 0, rfl, z0, z0, z0, z0⟩
theorem aE_zero {k : Int} {r n p q : Nat} {xs ys : Nat → Nat} (h : aE k r xs ys n p q = 0) : shE k r xs ys n = 0 ∧ inB p q = true := by
  unfold aE at h
  split at h
  · rename_i h0
    split at h
    · rename_i h1; exact ⟨h0, h1⟩
    · cases h
  · contradiction
theorem fw_ok {t r p q : Nat} (ht : Bd 40 t) (hr : Bd 40 r) (h4 : Bd 40 p) (h5 : Bd 40 q) : okK .f64 (fwK t r (unB p q) (unX p q)) ∧ okK .f64 (fwK t r (unB p q) (unY p q)) := by
  unfold fwK
  cases hu : unB p q
  · exact ⟨ht.1, ht.1⟩
  · obtain ⟨u1, u2⟩ := un_bd (wbd h4 42 (by decide)) (wbd h5 42 (by decide)) hu
    exact ⟨(dv_res (some_add ht.2.1 (bd_mul hr u1 (by decide)).2.1)).1, (dv_res (some_add ht.2.1 (bd_mul hr u2 (by decide)).2.1)).1⟩
theorem far_ok {k : Int} {r n p q : Nat} {xs ys : Nat → Nat} (o : Oks xs ys n) (hr : okK .f64 r) (op : okK .f64 p) (oq : okK .f64 q) : okK .f64 (farX k r xs ys n p q) ∧ okK .f64 (farY k r xs ys n p q) := by
  have z0 : okK .f64 0 := by rw [okK64]; decide
  unfold farX farY
  by_cases hz : aE k r xs ys n p q = 0
  · rw [if_pos hz, if_pos hz]
    obtain ⟨h0, hi⟩ := aE_zero hz
    obtain ⟨h4, h5⟩ := in_bd op oq hi
    rcases sh_some o hr h0 with ⟨rfl, rfl, g, hrb, _⟩ | ⟨rfl, rfl, g, hrb, _, hcp⟩ | ⟨rfl, h3, h8, hrz, hch, g⟩
    · obtain ⟨b1, b2⟩ := g 0 (by decide)
      exact ⟨(fw_ok b1 hrb h4 h5).1, (fw_ok b2 hrb h4 h5).2⟩
    · obtain ⟨b1, b2⟩ := tp_bd (p := p) (q := q) g
      exact ⟨(fw_ok b1 hrb h4 h5).1, (fw_ok b2 hrb h4 h5).2⟩
    · have := far_le xs ys p q (n - 1)
      exact o _ (by omega)
  · rw [if_neg hz, if_neg hz]
    exact ⟨z0, z0⟩
theorem rea_ok {k : Int} {r n p q : Nat} {xs ys : Nat → Nat} (o : Oks xs ys n) (hr : okK .f64 r) (op : okK .f64 p) (oq : okK .f64 q) : okK .f64 (reaK k r xs ys n p q) := by
  unfold reaK
  by_cases hz : aE k r xs ys n p q = 0
  · rw [if_pos hz]
    obtain ⟨h0, hi⟩ := aE_zero hz
    obtain ⟨h4, h5⟩ := in_bd op oq hi
    obtain ⟨g, h1, h8, hb⟩ := sh_gd o hr h0
    have a := rc_bd g h4 h5 (n - 1) (by omega)
    exact (dv_res (some_add a.2.1 hb.2.1)).1
  · rw [if_neg hz]
    rw [okK64]; decide

end Go.Proofs.Ytiamgphpcjokmab
