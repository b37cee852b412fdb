/-
  What each function of package poly answers, and what the reference of its chapter answers: one contract a function, for every float: the answer stands in the relation of its formula to what was given; of the memory that was there nothing has turned.
-/
import Derived.Test.YtpedpgpgcmhnoaaVec
import Derived.Test.YtpedpgpgcmhnoaaCg
import Derived.Below
import Derived.WalkKit
import Derived.WalkLawsBesides
import Derived.WalkSpells
import Derived.ProofKit
import Derived.OpenShut
import Derived.Deep.RegionHeld3
namespace Go.Proofs.Ytpedpgpgcmhnoaa
open Go.ChangeShapes Go.WideShapes Go.ChangeAt Go.RowKit
set_option linter.unusedVariables false
set_option linter.unusedSimpArgs false


theorem compact9_zero (v : Option Addr) (cap : Nat) (w : World) : Calls Try.prog 110 #[.slice v 0 cap] w fun e w' => e = .returned (.slice v 0 cap) ∧ w' = w := by
  go_enter Try.func110, Try.ntmps110
  go_wp2
  go_ret
  exact ⟨rfl, rfl⟩
theorem dd_pos (L : List Pt) : ∀ i, 0 < (dd L (i + 1)).length := by
  intro i
  induction i with
  | zero => rw [dd_one]; exact Nat.succ_pos _
  | succ i ih =>
    cases h : eqP (pt L (i + 1)) (pt L (i + 1 - 1))
    · rw [dd_ne h]; simp
    · rw [dd_eq (by omega) h]; exact ih
set_option maxHeartbeats 1000000 in
theorem apart_zero (v : Option Addr) (cap : Nat) (w : World) : Calls Try.prog 80 #[.slice v 0 cap] w fun e w' => e = .returned (.slice v 0 cap) ∧ Bel w w' := by
  have ww : IntKind.wrap .i64 (-1) = -1 := by decide
  haveI := belBy_some w
  go_enter Try.func80, Try.ntmps80
  go_wp2_with (first | (go_at_call 110; refine (compact9_zero _ _ _).mono ?_; rintro e w_1 ⟨rfl, rfl⟩))
  refine wp_region_quiet_bel (by kernel_rfl) (by kernel_rfl) ?_
  repeat (go_big_quiet_step (fail))
  refine wpQuiet_nil ?_
  rintro _ ⟨nq, rfl⟩
  go_wp2
  go_ret
  exact ⟨rfl, nq.h⟩
set_option maxRecDepth 100000 in
set_option maxHeartbeats 4000000 in
theorem capart_d (b off n cap : Nat) (L : List Pt) (w : World) (hl : L.length = n) (hs : Sl w b off n (px L) (py L)) (hp : 0 < n) (hn : n ≤ 16000000000000) (hcap : n ≤ cap) (W0 : World) (fb : W0.heap.size ≤ b) (B0 : Bel W0 w) :
    Calls Try.prog 80 #[.slice (some ⟨b, off, none⟩) n cap] w fun e w' => e = .returned (.slice (some ⟨b, off, none⟩) (lastL (dd L n)).length cap) ∧ Mo b w w' ∧ Sl w' b off (lastL (dd L n)).length (px (lastL (dd L n))) (py (lastL (dd L n))) := by
  have qe := run_eqv
  have hd0 : 0 < (dd L n).length := by obtain ⟨q, rfl⟩ : ∃ q, n = q + 1 := ⟨n - 1, by omega⟩; exact dd_pos L q
  have hdn := dd_len L n
  have CD := compact9_d b off n cap L w hl hs hp hn hcap W0 fb B0
  obtain ⟨D, hD⟩ : ∃ D, D = dd L n := ⟨_, rfl⟩
  rw [← hD] at CD hd0 hdn ⊢
  obtain ⟨d, hd⟩ : ∃ d, D.length = d := ⟨_, rfl⟩
  rw [hd] at CD hd0 hdn
  clear hD
  obtain ⟨q, hq⟩ : ∃ q, q + 1 = d := ⟨d - 1, by omega⟩
  have j3 : (d : Int) - 1 = (q : Int) := by omega
  have wj : IntKind.wrap .i64 (q : Int) = (q : Int) := by rw [IntKind.wrap_i64]; omega
  have q1 : (q : Int) < (d : Int) := by omega
  have q2 : q < d := by omega
  have q3 : (q : Int) ≤ (cap : Int) := by omega
  have q4 : q ≤ cap := by omega
  have d0 : (0 : Int) < (d : Int) := by omega
  by_cases h1 : 1 < d
  · have g0 : (0 : Int) < (q : Int) := by omega
    have g1 : 0 < q := by omega
    have g2 : (1 : Int) < (d : Int) := by omega
    cases he : (eqK .f64 (px D q) (px D 0) && eqK .f64 (py D q) (py D 0))
    all_goals
      go_enter Try.func80, Try.ntmps80
      go_wp2_with (first | (go_at_call 110; refine CD.mono ?_; rintro e w_1 ⟨rfl, hM, hS⟩))
      obtain ⟨x0, x1⟩ := hS q (by omega)
      obtain ⟨x2, x3⟩ := hS 0 (by omega)
      rw [show off + 0 * 2 = off by omega] at x2 x3
      have lq := World.block_lt_of_cell? _ _ x0
      simp only at lq
      haveI := belBy_some w_1
      have y0 := belBy_cell x0
      have y1 := belBy_cell x1
      have y2 := belBy_cell x2
      have y3 := belBy_cell x3
      refine wp_region_quiet_bel (by kernel_rfl) (by kernel_rfl) ?_
      repeat (go_big_quiet_step (fail))
      refine wpQuiet_nil ?_
      rintro _ ⟨nq, rfl⟩
      (try simp only [he])
    · have e1 : lastL D = D := by
        unfold lastL
        rw [if_neg]
        rintro ⟨_, h⟩
        rw [hd, show d - 1 = q by omega] at h
        exact absurd (he.symm.trans h) (by decide)
      go_wp2
      go_ret
      rw [e1, hd]
      exact ⟨rfl, hM.on nq.h, hS.bel nq.h⟩
    · have e1 : lastL D = D.take q := by
        unfold lastL
        rw [hd, show d - 1 = q by omega, if_pos ⟨h1, he⟩]
      have e2 : (D.take q).length = q := by rw [List.length_take]; omega
      go_wp2
      go_ret
      rw [e1, e2]
      refine ⟨rfl, hM.on nq.h, ?_⟩
      have e3 : ∀ i, i < q → pt (D.take q) i = pt D i := fun i hi => by
        unfold pt
        rw [List.getD_eq_getElem?_getD, List.getD_eq_getElem?_getD, List.getElem?_take_of_lt hi]
      exact ((hS.bel nq.h).lt_ (by omega)).eq (fun i hi => (px_pt (e3 i hi)).symm) (fun i hi => (py_pt (e3 i hi)).symm)
  · have hq0 : q = 0 := by omega
    subst hq0
    have e1 : lastL D = D := by unfold lastL; rw [if_neg (fun h => h1 (by omega))]
    rw [e1, hd]
    have g2 : ¬ (1 : Int) < (d : Int) := by omega
    go_enter Try.func80, Try.ntmps80
    go_wp2_with (first | (go_at_call 110; refine CD.mono ?_; rintro e w_1 ⟨rfl, hM, hS⟩))
    haveI := belBy_some w_1
    refine wp_region_quiet_bel (by kernel_rfl) (by kernel_rfl) ?_
    repeat (go_big_quiet_step (fail))
    refine wpQuiet_nil ?_
    rintro _ ⟨nq, rfl⟩
    go_wp2
    go_ret
    exact ⟨rfl, hM.on nq.h, hS.bel nq.h⟩

end Go.Proofs.Ytpedpgpgcmhnoaa
