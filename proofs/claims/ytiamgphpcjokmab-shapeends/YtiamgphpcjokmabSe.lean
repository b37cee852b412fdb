/-
  What each function of package poly answers, and what the reference of its chapter answers: one contract a function, for every float: the answer stands in the relation of its formula to what was given; of the memory that was there nothing has turned.
-/
import Derived.Test.YtiamgphpcjokmabVec
import Derived.Test.YtiamgphpcjokmabSr
import Derived.Test.YtiamgphpcjokmabShr
import Derived.Test.YtiamgphpcjokmabRa
import Derived.Below
import Derived.WalkKit
import Derived.WalkLawsBesides
import Derived.WalkSpells
import Derived.ProofKit
import Derived.OpenShut
import Derived.Deep.RegionHeld3
namespace Go.Proofs.Ytiamgphpcjokmab
open Go.ChangeShapes Go.WideShapes Go.ChangeAt Go.RowKit
set_option linter.unusedVariables false
set_option linter.unusedSimpArgs false


theorem sh_rea {k : Int} {r n : Nat} {xs ys : Nat → Nat} (o : Oks xs ys n) (hr : okK .f64 r) (h : shE k r xs ys n = 0) : reaB xs ys n = true := by
  rcases kd_some (sh_kd h) with ⟨rfl, rfl⟩ | ⟨rfl, rfl⟩ | ⟨rfl, h3, h8, hz⟩
  · rw [sh_1] at h
    exact (rdE_ok h).1
  · rw [sh_2] at h
    unfold ckE at h
    split at h
    · rename_i h0; exact (rdE_ok h0).1
    · cases h
  · rw [sh_3 (sh_kd h)] at h
    unfold chkE at h
    split at h
    · rename_i hp
      unfold plcE at hp
      split at hp
      · cases hp
      · split at hp
        · rename_i hre; exact hre
        · cases hp
    · contradiction
theorem sh_in {k : Int} {r n i : Nat} {xs ys : Nat → Nat} (o : Oks xs ys n) (hr : okK .f64 r) (h : shE k r xs ys n = 0) (hi : i < n) : inB (xs i) (ys i) = true := allB_iff.1 (sh_rea o hr h) i hi
theorem aE_axis {k : Int} {r n p q : Nat} {xs ys : Nat → Nat} (h : shE k r xs ys n = 0) (g : inB p q = true) : aE k r xs ys n p q = 0 := by unfold aE; rw [if_pos h, g]; rfl

theorem end0 {k : Int} {r n : Nat} {xs ys : Nat → Nat} (o : Oks xs ys n) (hr : okK .f64 r) (h : shE k r xs ys n = 0) : eqK .f64 (farX k r xs ys n 4607182418800017408 0) (bxH k r xs n) = true := by
  have hu : unB 4607182418800017408 0 = true := by decide +kernel
  have hU : unX 4607182418800017408 0 = 4607182418800017408 := by decide +kernel
  have ha : aE k r xs ys n 4607182418800017408 0 = 0 := aE_axis h (by decide +kernel)
  unfold farX bxH
  rw [if_pos ha]
  rcases sh_some o hr h with ⟨rfl, rfl, g, hrb, _⟩ | ⟨rfl, rfl, g, hrb, _, hcp⟩ | ⟨rfl, h3, h8, hrz, hch, g⟩
  · rw [if_pos rfl, if_neg (by decide), hu, hU]
    exact round_high (g 0 (by decide)).1 (g 0 (by decide)).1 hrb rfl
  · rw [if_neg (by decide), if_pos rfl, if_neg (by decide), hu, hU]
    refine round_high (tp_bd (p := 4607182418800017408) (q := 0) g).1 (low_bd (f := xs) (m := 40) 1 (fun i hi => (g i (by omega)).1)).2 hrb ?_
    exact tip_high (xs := xs) (ys := ys) (f := xs) (fun i hi => (g i hi).1) (fun i hi => dt_x1 (g i hi).1 (g i hi).2)
  · rw [if_neg (by decide), if_neg (by decide), if_pos rfl]
    exact far_high (by omega) (fun i hi => (g i hi).1) (fun i hi => dt_x1 (g i hi).1 (g i hi).2)

theorem end1 {k : Int} {r n : Nat} {xs ys : Nat → Nat} (o : Oks xs ys n) (hr : okK .f64 r) (h : shE k r xs ys n = 0) : eqK .f64 (farY k r xs ys n 0 4607182418800017408) (bxH k r ys n) = true := by
  have hu : unB 0 4607182418800017408 = true := by decide +kernel
  have hU : unY 0 4607182418800017408 = 4607182418800017408 := by decide +kernel
  have ha : aE k r xs ys n 0 4607182418800017408 = 0 := aE_axis h (by decide +kernel)
  unfold farY bxH
  rw [if_pos ha]
  rcases sh_some o hr h with ⟨rfl, rfl, g, hrb, _⟩ | ⟨rfl, rfl, g, hrb, _, hcp⟩ | ⟨rfl, h3, h8, hrz, hch, g⟩
  · rw [if_pos rfl, if_neg (by decide), hu, hU]
    exact round_high (g 0 (by decide)).2 (g 0 (by decide)).2 hrb rfl
  · rw [if_neg (by decide), if_pos rfl, if_neg (by decide), hu, hU]
    refine round_high (tp_bd (p := 0) (q := 4607182418800017408) g).2 (low_bd (f := ys) (m := 40) 1 (fun i hi => (g i (by omega)).2)).2 hrb ?_
    exact tip_high (xs := xs) (ys := ys) (f := ys) (fun i hi => (g i hi).2) (fun i hi => dt_y1 (g i hi).1 (g i hi).2)
  · rw [if_neg (by decide), if_neg (by decide), if_pos rfl]
    exact far_high (by omega) (fun i hi => (g i hi).2) (fun i hi => dt_y1 (g i hi).1 (g i hi).2)

theorem end2 {k : Int} {r n : Nat} {xs ys : Nat → Nat} (o : Oks xs ys n) (hr : okK .f64 r) (h : shE k r xs ys n = 0) : eqK .f64 (farX k r xs ys n 13830554455654793216 0) (bxL k r xs n) = true := by
  have hu : unB 13830554455654793216 0 = true := by decide +kernel
  have hU : unX 13830554455654793216 0 = 13830554455654793216 := by decide +kernel
  have ha : aE k r xs ys n 13830554455654793216 0 = 0 := aE_axis h (by decide +kernel)
  unfold farX bxL
  rw [if_pos ha]
  rcases sh_some o hr h with ⟨rfl, rfl, g, hrb, _⟩ | ⟨rfl, rfl, g, hrb, _, hcp⟩ | ⟨rfl, h3, h8, hrz, hch, g⟩
  · rw [if_pos rfl, if_neg (by decide), hu, hU]
    exact round_low (g 0 (by decide)).1 (g 0 (by decide)).1 hrb rfl
  · rw [if_neg (by decide), if_pos rfl, if_neg (by decide), hu, hU]
    refine round_low (tp_bd (p := 13830554455654793216) (q := 0) g).1 (low_bd (f := xs) (m := 40) 1 (fun i hi => (g i (by omega)).1)).1 hrb ?_
    exact tip_low (xs := xs) (ys := ys) (f := xs) (fun i hi => (g i hi).1) (fun i hi => dt_xm (g i hi).1 (g i hi).2)
  · rw [if_neg (by decide), if_neg (by decide), if_pos rfl]
    exact far_low (by omega) (fun i hi => (g i hi).1) (fun i hi => dt_xm (g i hi).1 (g i hi).2)

theorem end3 {k : Int} {r n : Nat} {xs ys : Nat → Nat} (o : Oks xs ys n) (hr : okK .f64 r) (h : shE k r xs ys n = 0) : eqK .f64 (farY k r xs ys n 0 13830554455654793216) (bxL k r ys n) = true := by
  have hu : unB 0 13830554455654793216 = true := by decide +kernel
  have hU : unY 0 13830554455654793216 = 13830554455654793216 := by decide +kernel
  have ha : aE k r xs ys n 0 13830554455654793216 = 0 := aE_axis h (by decide +kernel)
  unfold farY bxL
  rw [if_pos ha]
  rcases sh_some o hr h with ⟨rfl, rfl, g, hrb, _⟩ | ⟨rfl, rfl, g, hrb, _, hcp⟩ | ⟨rfl, h3, h8, hrz, hch, g⟩
  · rw [if_pos rfl, if_neg (by decide), hu, hU]
    exact round_low (g 0 (by decide)).2 (g 0 (by decide)).2 hrb rfl
  · rw [if_neg (by decide), if_pos rfl, if_neg (by decide), hu, hU]
    refine round_low (tp_bd (p := 0) (q := 13830554455654793216) g).2 (low_bd (f := ys) (m := 40) 1 (fun i hi => (g i (by omega)).2)).1 hrb ?_
    exact tip_low (xs := xs) (ys := ys) (f := ys) (fun i hi => (g i hi).2) (fun i hi => dt_ym (g i hi).1 (g i hi).2)
  · rw [if_neg (by decide), if_neg (by decide), if_pos rfl]
    exact far_low (by omega) (fun i hi => (g i hi).2) (fun i hi => dt_ym (g i hi).1 (g i hi).2)

theorem own_poly {xs ys : Nat → Nat} {n i : Nat} (o : Oks xs ys n) (h : chkE xs ys n = 0) (hi : i < n) (hin : inB (xs i) (ys i) = true) : hasV xs ys n (xs i) (ys i) = true := by
  obtain ⟨g, h3, h64, hout⟩ := chk_ok o h
  have hw : withE xs ys n (xs i) (ys i) = 0 := with_in h hin
  unfold hasV
  rw [hw, decide_eq_true rfl, Bool.true_and]
  refine allB_iff.2 (fun e he => ?_)
  obtain ⟨w1, w2⟩ := wX_bd g he
  have key : ltK .f64 (lnS xs ys n e (xs i) (ys i)) 0 = false := by
    by_cases h1 : i = e
    · subst h1
      obtain ⟨a1, a2⟩ := sub_self (g i hi).1
      obtain ⟨b1, b2⟩ := sub_self (g i hi).2
      exact cr_zero w1 w2 a1 b1 a2 b2
    · by_cases h2 : i = (e + 1) % n
      · subst h2
        exact cr_own w1 w2
      · obtain ⟨q, q2, qn, eq⟩ := idx2 he hi h1 h2
        have ho := hout e he
        unfold outB at ho
        rw [Bool.and_eq_true] at ho
        have := allB_iff.1 ho.2 q qn
        rw [decide_eq_false (by omega), Bool.false_or, eq] at this
        unfold ltK at this ⊢
        rw [Bool.and_eq_true, Bool.and_eq_true] at this
        have h5 := of_decide_eq_true this.2
        rw [decide_eq_false (by omega), Bool.and_false]
  rw [key]; rfl
theorem own_has {k : Int} {r n i : Nat} {xs ys : Nat → Nat} (o : Oks xs ys n) (hr : okK .f64 r) (h : shE k r xs ys n = 0) (hi : i < n) (hk : i = 0 ∨ k = 3) : hasA k r xs ys n (xs i) (ys i) = true ∧ aE k r xs ys n (xs i) (ys i) = 0 := by
  have hin := sh_in o hr h hi
  have ha := aE_axis h hin
  refine ⟨?_, ha⟩
  unfold hasA hasS
  rw [if_pos ha]
  rcases sh_some o hr h with ⟨rfl, rfl, g, hrb, _⟩ | ⟨rfl, rfl, g, hrb, _, hcp⟩ | ⟨rfl, h3, h8, hrz, hch, g⟩
  · rw [if_pos rfl, show i = 0 by omega]
    exact own_circle (g 0 (by decide)).1 (g 0 (by decide)).2 hrb
  · rcases hk with rfl | hk
    · rw [if_neg (by decide), if_pos rfl]
      obtain ⟨h4, h5⟩ := g 0 (by decide)
      obtain ⟨n1, n2⟩ := nx_bd g h4 h5 hcp
      exact own_capsule g hrb hcp n1 n2
    · exact absurd hk (by decide)
  · rw [if_neg (by decide), if_neg (by decide)]
    exact own_poly o hch hi hin

end Go.Proofs.Ytiamgphpcjokmab
