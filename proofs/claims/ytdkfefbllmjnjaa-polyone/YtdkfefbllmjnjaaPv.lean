/-
  What each function of package poly answers, and what the reference of its chapter answers: one contract a function, for every float: the answer stands in the relation of its formula to what was given; of the memory that was there nothing has turned.
-/
import Derived.Test.YtdkfefbllmjnjaaVec
import Derived.Test.YtdkfefbllmjnjaaPu
import Derived.Below
import Derived.WalkKit
import Derived.WalkLawsBesides
import Derived.WalkSpells
import Derived.ProofKit
import Derived.OpenShut
import Derived.Deep.RegionHeld3
namespace Go.Proofs.Ytdkfefbllmjnjaa
open Go.ChangeShapes Go.WideShapes Go.ChangeAt Go.RowKit
set_option linter.unusedVariables false
set_option linter.unusedSimpArgs false


set_option maxRecDepth 100000 in
set_option maxHeartbeats 1000000 in
theorem kept_any (g c n : Nat) (V : Value) (xs ys : Nat → Nat) (w : World) (hL : Lent w g c n xs ys) (h : AnyS w V n xs ys) : Calls Try.prog 35 #[.slice (some ⟨g, 0, none⟩) n c, V] w fun e w' => e = .returned (.bool true) ∧ Bel w w' := by
  obtain ⟨a, cap, rfl, h2, h3, h4, h5, h6⟩ := h
  obtain ⟨l1, l2, l3, l4, l5⟩ := hL
  have q0 := cmp_eq .f64
  have e77 : eqK .f64 4635118810238550016 4635118810238550016 = true := by decide +kernel
  have e78 : eqK .f64 4635189178982727680 4635189178982727680 = true := by decide +kernel
  have c1 : (n : Int) + 2 ≤ (c : Int) := by omega
  have w2 : IntKind.wrap .i64 ((n : Int) + 2) = (n : Int) + 2 := by rw [IntKind.wrap_i64]; omega
  have w1 : IntKind.wrap .i64 ((n : Int) + 1) = (n : Int) + 1 := by rw [IntKind.wrap_i64]; omega
  have i1 : (0 : Int) ≤ (n : Int) + 2 := by omega
  have i2 : ((n : Int) + 2).toNat = n + 2 := by omega
  have i3 : (0 : Int) ≤ (n : Int) + 1 := by omega
  have i4 : ((n : Int) + 1).toNat = n + 1 := by omega
  have i5 : (n : Int) < (n : Int) + 2 := by omega
  have i6 : (n : Int) + 1 < (n : Int) + 2 := by omega
  rcases h6 with rfl | ⟨h0, b, off, rfl, hs⟩
  · simp only [Nat.zero_mul, Nat.zero_add, Nat.one_mul] at l4 l5
    go_enter Try.func35, Try.ntmps35
    go_wp2_with (first | (go_at_call 33; refine (same_nil _ _ _ _ _).mono ?_; rintro e w' ⟨rfl, hb⟩; replace l4 := keep hb l4; replace l5 := keep hb l5; have B := hb))
    go_ret
    exact ⟨rfl, B⟩
  · go_enter Try.func35, Try.ntmps35
    go_wp2_with (first | (go_at_call 33; refine (same_eq g 0 c b off cap n xs ys _ l3 hs h3 (by omega) h2).mono ?_; rintro e w' ⟨rfl, hb⟩; replace l4 := keep hb l4; replace l5 := keep hb l5; have B := hb))
    go_ret
    exact ⟨rfl, B⟩
theorem ap_bad0 (us vs xs ys : Nat → Nat) (n m : Nat) (h : ¬ chkE us vs n = 0) : apE us vs n xs ys m = chkE us vs n ∧ apV us vs n xs ys m = 0 ∧ apW us vs n xs ys m = 0 := by
  have e : apE us vs n xs ys m = chkE us vs n := by unfold apE; rw [if_neg h]
  unfold apV apW
  rw [e, if_neg h, if_neg h]
  exact ⟨rfl, rfl, rfl⟩
theorem ap_bad1 (us vs xs ys : Nat → Nat) (n m : Nat) (h : chkE us vs n = 0) (g : ¬ chkE xs ys m = 0) : apE us vs n xs ys m = chkE xs ys m ∧ apV us vs n xs ys m = 0 ∧ apW us vs n xs ys m = 0 := by
  have e : apE us vs n xs ys m = chkE xs ys m := by unfold apE; rw [if_pos h]
  unfold apV apW
  rw [e, if_neg g, if_neg g]
  exact ⟨rfl, rfl, rfl⟩
theorem apart_all (VA VB : Value) (n m : Nat) (us vs xs ys : Nat → Nat) (w : World) (hA : AnyS w VA n us vs) (hB : AnyS w VB m xs ys) :
    Calls Try.prog 38 #[VA, VB] w fun e w' => e = .returned (.tuple #[.int .i64 (apV us vs n xs ys m), .float .f64 (apW us vs n xs ys m), .int .i64 (apE us vs n xs ys m)]) ∧ Bel w w' := by
  obtain ⟨a, ca, rfl, a2, a3, a4, a5, a6⟩ := hA
  rcases a6 with rfl | ⟨a0, ba, oa, rfl, sa⟩
  · have h := ap_bad0 us vs xs ys 0 m (by rw [chk_zero]; decide)
    rw [h.1, h.2.1, h.2.2, chk_zero]
    exact apart_none1 a ca VB w
  · by_cases hch : chkE us vs n = 0
    · obtain ⟨b, cb, rfl, b2, b3, b4, b5, b6⟩ := hB
      rcases b6 with rfl | ⟨b0, bb, ob, rfl, sb⟩
      · have h := ap_bad1 us vs xs ys n 0 hch (by rw [chk_zero]; decide)
        rw [h.1, h.2.1, h.2.2, chk_zero]
        exact apart_none2 ba oa n ca us vs w sa a5 a0 a3 a2 b cb hch
      · exact apart_d ba oa n ca us vs bb ob m cb xs ys w sa a5 a0 a3 a2 sb b5 b0 b3 b2 hch
    · have h := ap_bad0 us vs xs ys n m hch
      rw [h.1, h.2.1, h.2.2]
      exact apart_bad ba oa n ca us vs w sa a5 a0 a3 a2 VB hch

end Go.Proofs.Ytdkfefbllmjnjaa
