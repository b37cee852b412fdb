/-
  What each function of package poly answers, and what the reference of its chapter answers: one contract a function, for every float: the answer stands in the relation of its formula to what was given; of the memory that was there nothing has turned.
-/
import Derived.Test.YtfohggiehbplkaaVec
import Derived.Test.YtfohggiehbplkaaXzk
import Derived.Test.YtfohggiehbplkaaWnu
import Derived.Below
import Derived.OwnWalk
import Derived.Laws.AppendOwn
import Derived.Lib.SliceRun
import Derived.Laws.MakeOwn
import Derived.WalkKit
import Derived.WalkLawsBesides
import Derived.WalkSpells
import Derived.ProofKit
import Derived.OpenShut
import Derived.Deep.RegionHeld3
namespace Go.Proofs.Ytfohggiehbplkaa
open Go.ChangeShapes Go.WideShapes Go.ChangeAt Go.RowKit
set_option linter.unusedVariables false
set_option linter.unusedSimpArgs false

set_option maxRecDepth 100000 in
set_option maxHeartbeats 4000000 in
theorem rone_m (T : RD) (a b m n : SD) (w : World) (oR : rok T) (h : RelS a m) (g : RelS b n) (hal : alB T a b = true) : Calls Try.prog 77 #[.agg #[.int .i64 T.ra, .int .i64 T.rb, .float .f64 T.r2, .float .f64 T.r3, .float .f64 T.r4, .float .f64 T.r5, .float .f64 T.r6, .float .f64 T.r7, .float .f64 T.r8, .float .f64 T.r9, .float .f64 T.r10, .float .f64 T.r11, .int .i64 T.ro, .float .f64 T.r13], .agg #[.float .f64 a.sm, .float .f64 a.si, .float .f64 a.sx, .float .f64 a.sy, .float .f64 a.ss], .agg #[.float .f64 b.sm, .float .f64 b.si, .float .f64 b.sx, .float .f64 b.sy, .float .f64 b.ss]] w fun e w' => ∃ A B : SD, RelS A (onX T m n) ∧ RelS B (onY T m n) ∧ e = .returned (.tuple #[.agg #[.int .i64 (onQ T m n).ra, .int .i64 (onQ T m n).rb, .float .f64 (onQ T m n).r2, .float .f64 (onQ T m n).r3, .float .f64 (onQ T m n).r4, .float .f64 (onQ T m n).r5, .float .f64 (onQ T m n).r6, .float .f64 (onQ T m n).r7, .float .f64 (onQ T m n).r8, .float .f64 (onQ T m n).r9, .float .f64 (onQ T m n).r10, .float .f64 (onQ T m n).r11, .int .i64 (onQ T m n).ro, .float .f64 (onQ T m n).r13], .agg #[.float .f64 A.sm, .float .f64 A.si, .float .f64 A.sx, .float .f64 A.sy, .float .f64 A.ss], .agg #[.float .f64 B.sm, .float .f64 B.si, .float .f64 B.sx, .float .f64 B.sy, .float .f64 B.ss], .int .i64 0]) ∧ Bel w w' := by
 unfold onX onY onQ
 cases hs : slB T m n
 ·have hs2 := (sl_rel h g).trans hs
  refine (rone_same T a b w oR h.ok g.ok hal hs2).mono fun e w' ⟨he, hb⟩ => ⟨a, b, h, g, he, hb⟩
 ·have hs2 := (sl_rel h g).trans hs
  have hs3 := hs2
  unfold slB at hs3
  rw [Bool.and_eq_true] at hs3
  refine (rone_ok T a b w oR h.ok g.ok hal hs3.1 hs3.2).mono fun e w' ⟨q, x, y, u, x2, y2, u2, hq, hx, hy, hu, hx2, hy2, hu2, he, hb⟩ => ?_
  have eq : q = quF T m n := by
   rw [qu_rel h g] at hq
   exact isF_wd hq (nan_ne (fin_nan (sl_fin hs)))
  subst eq
  rw [df_rel h g] at hx hy hu hx2 hy2 hu2
  exact ⟨⟨a.sm, a.si, x, y, u⟩, ⟨b.sm, b.si, x2, y2, u2⟩, pu_rel h hx hy hu, pu_rel g hx2 hy2 hu2, he, hb⟩

set_option maxRecDepth 100000 in
set_option maxHeartbeats 4000000 in
theorem rwarm_m (T : RD) (a b m n : SD) (w : World) (oR : rok T) (h : RelS a m) (g : RelS b n) (hal : alB T a b = true) : Calls Try.prog 76 #[.agg #[.int .i64 T.ra, .int .i64 T.rb, .float .f64 T.r2, .float .f64 T.r3, .float .f64 T.r4, .float .f64 T.r5, .float .f64 T.r6, .float .f64 T.r7, .float .f64 T.r8, .float .f64 T.r9, .float .f64 T.r10, .float .f64 T.r11, .int .i64 T.ro, .float .f64 T.r13], .agg #[.float .f64 a.sm, .float .f64 a.si, .float .f64 a.sx, .float .f64 a.sy, .float .f64 a.ss], .agg #[.float .f64 b.sm, .float .f64 b.si, .float .f64 b.sx, .float .f64 b.sy, .float .f64 b.ss]] w fun e w' => ∃ A B : SD, RelS A (puM m T.r2 T.r3 T.r6 (bitsK T.r11)) ∧ RelS B (puM n T.r4 T.r5 T.r7 (bitsK T.r11)) ∧ e = .returned (.tuple #[.agg #[.float .f64 A.sm, .float .f64 A.si, .float .f64 A.sx, .float .f64 A.sy, .float .f64 A.ss], .agg #[.float .f64 B.sm, .float .f64 B.si, .float .f64 B.sx, .float .f64 B.sy, .float .f64 B.ss], .int .i64 0]) ∧ Bel w w' :=
 (rwrm_ok T a b w oR h.ok g.ok hal).mono fun e w' ⟨x, y, u, x2, y2, u2, hx, hy, hu, hx2, hy2, hu2, he, hb⟩ => ⟨⟨a.sm, a.si, x, y, u⟩, ⟨b.sm, b.si, x2, y2, u2⟩, pu_rel h hx hy hu, pu_rel g hx2 hy2 hu2, he, hb⟩

theorem sts_one {W5 W : World} {g sn A : Nat} {S : Nat → SD} {a' : SD} (hS : Sts W5 g 0 sn S) (hA : W.rangeAt g (A * 5) (sc a')) (hout : ∀ q, ¬ (A * 5 ≤ q ∧ q < A * 5 + 5) → W.cell? ⟨g, q, none⟩ = W5.cell? ⟨g, q, none⟩) : Sts W g 0 sn (setF S A a') := fun i hi => by
 rw [Nat.zero_add]
 by_cases e : i = A
 ·subst e; rw [setF_at]; exact hA
 ·rw [setF_ne _ _ e]
  intro j v hj
  have h5 : j < 5 := (List.getElem?_eq_some_iff.1 hj).1
  have h1 := hS i hi j v hj
  rw [Nat.zero_add] at h1
  rw [hout _ (by omega)]
  exact h1
theorem still_none {T : RD} {a b : SD} (h1 : stB a = true) (h2 : stB b = true) (h : (mvB a || mvB b) = false) : slB T a b = false := by
 simp only [Bool.or_eq_false_iff] at h
 unfold mvB at h
 simp only [Bool.or_eq_false_iff] at h
 unfold slB okB
 rw [wt_none h1 h2 h.1.1 h.1.2 h.2.1 h.2.2]
 rfl
/-- of what can't be moved the turn changes nothing, asked or not -/
theorem on_all {T : RD} {a b : SD} (h1 : stB a = true) (h2 : stB b = true) : onR T a b = onQ T a b ∧ onA T a b = onX T a b ∧ onB T a b = onY T a b := by
 unfold onR onA onB
 cases h : mvB a || mvB b
 ·have e := still_none (T := T) h1 h2 h
  unfold onQ onX onY
  rw [e]
  exact ⟨rfl, rfl, rfl⟩
 ·exact ⟨rfl, rfl, rfl⟩
theorem ownr_of {w W : World} {v : Value} {n : Nat} {Q : Nat → RD} (h : OwnR 14 w.heap.size W v n (rowsL Q n)) : Ownr w W v n Q := by
 rcases h.2 with ⟨e, hz⟩ | ⟨g, cap, e, h1, h2, h3, h4, h5, h6⟩
 ·subst e hz
  exact ⟨w.heap.size, 0, none, rfl, .inl rfl, Nat.le_refl _, Nat.zero_le _, Nat.le_refl _, fun i hi => by omega, fun j hj => by omega⟩
 ·subst e
  exact ⟨g, cap, some ⟨g, 0, none⟩, rfl, .inr rfl, h2, h3, h1, rowsL_at (N := []) (by rwa [List.append_nil]), fun j hj => ⟨by have := h5 j (by omega); rwa [Nat.zero_add], h6 _⟩⟩
theorem owns_of {w W : World} {v : Value} {n : Nat} {S : Nat → SD} (h : OwnR 5 w.heap.size W v n (stL S n)) : Owns w W v n S := by
 rcases h.2 with ⟨e, hz⟩ | ⟨g, cap, e, h1, h2, h3, h4, h5, h6⟩
 ·subst e hz
  exact ⟨w.heap.size, 0, none, rfl, .inl rfl, Nat.le_refl _, Nat.zero_le _, Nat.le_refl _, fun i hi => by omega, fun j hj => by omega⟩
 ·subst e
  exact ⟨g, cap, some ⟨g, 0, none⟩, rfl, .inr rfl, h2, h3, h1, stL_at (N := []) (by rwa [List.append_nil]), fun j hj => ⟨by have := h5 j (by omega); rwa [Nat.zero_add], h6 _⟩⟩

theorem run_sub0 {x : Nat} (o : okK .f64 x) (h : ltK .f64 0 x = true ∨ x = 0) (w : World) : (binOp .sub 24 (.float .f64 0) (.float .f64 x)).run Try.prog w = .ok (.float .f64 (oF .sub 0 x)) w := by
 have hs : (floatBits .sub .f64 0 x).isSome = true := by
  cases hf : finK .f64 x
  ·rcases h with h | rfl
   ·have e := inf_of o (lt_nums0 h) hf h
    subst e
    decide +kernel
   ·exact absurd hf (by decide +kernel)
  ·exact some_sub (by decide +kernel) hf o
 obtain ⟨v, hv⟩ := Option.isSome_iff_exists.1 hs
 have hn := (sub0 o h).1
 have e : oF .sub 0 x = v := by
  unfold oF at hn ⊢
  rw [hv] at hn ⊢
  simp only [Option.getD_some] at hn ⊢
  cases hq : nanK .f64 v
  ·exact bits_num hq
  ·rw [bits_nan hq, none_nan] at hn; cases hn
 rw [run_sub, show fd .sub .f64 0 x = 0 by unfold fd; rw [hv]; rfl]
 unfold fv
 rw [hv, e]; rfl
theorem set_here9 {w : World} {a : Addr} {v : Value} (h : (w.cell? a).isSome = true) : (w.setCell a v).cell? a = some v := World.cell?_setCell_same' w a v h

end Go.Proofs.Ytfohggiehbplkaa
