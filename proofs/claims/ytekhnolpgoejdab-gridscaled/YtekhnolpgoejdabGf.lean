/-
  What each function of package grid answers: one contract a function.
-/
import Derived.Test.YtekhnolpgoejdabGe
import Derived.Test.YtekhnolpgoejdabGsu
import Derived.Laws.FloatArith
import Derived.Laws.StructEq
import Derived.Deep.DeepCutAuto
import Derived.Laws.MakeOwn
import Derived.Below
import Derived.BigQuiet
import Derived.OwnWalk
import Derived.Laws.AppendOwn
import Derived.Laws.AppendOwnNone
import Derived.WalkKit
import Derived.WalkLawsBesides
import Derived.WalkSpells
import Derived.ProofKit
import Derived.OpenShut
import Derived.Deep.RegionHeld3
import Derived.Deep.LoopGhost
namespace Go.Proofs.Ytekhnolpgoejdab
open Go.ChangeShapes Go.WideShapes Go.ChangeAt Go.RowKit Go.Shelf Go.Lib Go.Sort
set_option linter.unusedVariables false
set_option linter.unusedSimpArgs false


set_option maxHeartbeats 8000000 in
theorem pairWide_s (gb N n cap nw cw ns cs : Nat) (sa sw ss : Option Addr) (B : Nat → Bo) (Wd Sm : List Nat) (v1 v2 v5 : Value) (w : World) (hg : G6 w gb (.slice sa n cap) v1 v2 (.slice ss ns cs) (.slice sw nw cw) v5) (hgN : gb < N) (hN : N ≤ w.heap.size)
    (hB : BoxN w N (· = gb) sa n B) (hRw : RowN w N (· = gb) sw Wd) (hRs : RowN w N (· = gb) ss Sm) (hnw : Wd.length = nw) (hns : Sm.length = ns) (hwn : ∀ k ∈ Wd, k < n) (hsn : ∀ k ∈ Sm, k < n) (h200 : nw + ns ≤ 200) (hcw : nw ≤ cw) (hcm : cw ≤ 9223372036854775807) (hO : OwnR 2 N w v5 0 []) :
    Calls Try.prog 20 #[.pointer (some ⟨gb, 0, none⟩)] w fun e w' => e = .returned (.int .i64 0) ∧ ∃ u, G6 w' gb (.slice sa n cap) v1 v2 (.slice ss ns cs) (.slice sw nw cw) u ∧ OwnR 2 N w' u (wdL B Wd Sm nw).length (pRow (wdL B Wd Sm nw)) ∧ Sta N (· = gb) w w' ∧ ((wdL B Wd Sm nw).length = 0 → u = v5) := by
  have HNW : Hid (Wd.length = nw) := hnw
  have HNS : Hid (Sm.length = ns) := hns
  clear hnw hns
  have c4 := hg.c4
  go_enter Try.func20, Try.ntmps20
  go_wp2
  go_loopg [12] nw (fun kx s12 wr => ∃ (t : Nat) (u : Value), s12 = .int .i64 t ∧ t ≤ nw ∧ nw - t ≤ kx ∧ G6 wr gb (.slice sa n cap) v1 v2 (.slice ss ns cs) (.slice sw nw cw) u ∧ OwnR 2 N wr u (wdL B Wd Sm t).length (pRow (wdL B Wd Sm t)) ∧ Sta N (· = gb) w wr ∧ Hid ((wdL B Wd Sm t).length = 0 → u = v5))
  case atStart => exact ⟨0, v5, rfl, by omega, by omega, hg, by simpa [wdL, pRow] using hO, Sta.refl _ _ _, (show _ → _ from fun _ => rfl)⟩
  case round =>
    obtain ⟨t, u, rfl, htm, hkx, hg2, hO2, hS, HZ⟩ := hrel
    by_cases hlt : t < nw
    · have hltz : (t : Int) < (nw : Int) := by omega
      have hwk : IntKind.wrap .i64 ((t : Int) + 1) = (t : Int) + 1 := by rw [IntKind.wrap_i64]; omega
      obtain ⟨i, hi⟩ : ∃ p, Wd[t]? = some p := ⟨_, List.getElem?_eq_getElem (by rw [HNW.out]; exact hlt)⟩
      have hin := hwn i (List.mem_of_getElem? hi)
      have hW1 := wdL_at (B := B) (Sm := Sm) hi
      have hlen := wdL_len (B := B) (Wd := Wd) (Sm := Sm) t
      rw [HNW.out, HNS.out] at hlen
      have hl2 : t * (nw + ns) + (nw + ns) ≤ 40000 := by
        have h1 : (t + 1) * (nw + ns) ≤ 200 * 200 := Nat.mul_le_mul (by omega) h200
        rw [Nat.add_mul, Nat.one_mul] at h1; omega
      have hB2 := hB.sta hS
      have hRs2 := hRs.sta hS
      have hRw2 := hRw.sta hS
      obtain ⟨gw, ow, hsw, hIs⟩ : ∃ g o, sw = some ⟨g, o, none⟩ ∧ Is wr g o Wd := by
        rcases hRw2 with h | ⟨g, o, e, _, _, h⟩
        · rw [h] at hi; simp at hi
        · exact ⟨g, o, e, h⟩
      subst hsw
      have z0 := hIs t i hi
      have c42 := hg2.c4
      have c32 := hg2.c3
      obtain ⟨P, hP⟩ : ∃ P, wdL B Wd Sm t = P := ⟨_, rfl⟩
      rw [hP] at hO2 hlen
      have HP : Hid (wdL B Wd Sm t = P) := hP
      have HW1 : Hid _ := hW1
      have hdl : (Wd.drop (t + 1)).length = nw - (t + 1) := by rw [List.length_drop, HNW.out]
      have hdn : ∀ k ∈ Wd.drop (t + 1), k < n := fun k hk => hwn k (List.mem_of_mem_drop hk)
      have hpl := pwL_len B i (Wd.drop (t + 1))
      have hq1 : P.length + (nw - (t + 1)) ≤ 65536 := by omega
      have hq2 : (P ++ pwL B i (Wd.drop (t + 1))).length + ns ≤ 65536 := by rw [List.length_append]; omega
      have hNr : N ≤ wr.heap.size := Nat.le_trans hN hS.size
      have k1z : (t : Int) + 1 ≤ (nw : Int) := by omega
      have k1c : (t : Int) + 1 ≤ (cw : Int) := by omega
      have k1p : (0 : Int) ≤ (t : Int) + 1 := by omega
      have tn1 : ((t : Int) + 1).toNat = t + 1 := by omega
      have tn2 : ((nw : Int) - ((t : Int) + 1)).toNat = nw - (t + 1) := by omega
      have tn3 : ((cw : Int) - ((t : Int) + 1)).toNat = cw - (t + 1) := by omega
      have hnc : (nw : Int) ≤ (cw : Int) := by omega
      clear hP hW1 hi hRw2 hIs
      by_cases hcap : cw = t + 1
      · have hRd : RowN wr N (· = gb) (some ⟨gw, ow, none⟩) (Wd.drop (t + 1)) := .inl (List.eq_nil_of_length_eq_zero (by rw [hdl]; omega))
        subst hcap
        have hdl0 : (Wd.drop (t + 1)).length = 0 := by rw [hdl]; omega
        have hq10 : P.length + 0 ≤ 65536 := by omega
        go_wp2_with (first | (go_at_call 44; first | (have zn := mA; clear zn; (with_reducible refine (pairWith_s gb N i ns cs n cap sa ss B Sm (P ++ pwL B i (Wd.drop (t + 1))) v1 v2 (.slice ss ns cs) (.slice (some ⟨gw, ow, none⟩) nw (t + 1)) u1 w1 hg3 hgN (Nat.le_trans hNr hS3.size) (hB2.sta hS3) (hRs2.sta hS3) HNS.out hin hsn hO3 hq2).mono ?_); rintro e w2 ⟨rfl, u2, hg4, hO4, hS4, hz4⟩; have HZ4 : Hid _ := hz4; clear hz4) | ((with_reducible refine (pairWith_s gb N i 0 0 n cap sa (some ⟨gw, ow, none⟩) B (Wd.drop (t + 1)) P v1 v2 (.slice ss ns cs) (.slice (some ⟨gw, ow, none⟩) nw (t + 1)) u wr hg2 hgN hNr hB2 hRd hdl0 hin hdn hO2 hq10).mono ?_); rintro e w1 ⟨rfl, u1, hg3, hO3, hS3, hz3⟩; have HZ3 : Hid _ := hz3; clear hz3; have c33 := hg3.c3; have mA := hide True.intro)))
        go_roundg (nw - (t + 1))
        case measure => omega
        case rel => exact ⟨t + 1, u2, by go_num, by omega, Nat.le_refl _, hg4, by rw [HW1.out, HP.out]; exact hO4, hS.trans (hS3.trans hS4), (show _ → _ from fun e => by rw [HW1.out, HP.out] at e; have e3 := e; rw [List.length_append] at e3; have e5 := e3; rw [List.length_append] at e5; exact (HZ4.out e).trans ((HZ3.out (by omega)).trans (HZ.out (by rw [HP.out]; omega))))⟩
      · have hRd : RowN wr N (· = gb) (some ⟨gw, ow + (t + 1), none⟩) (Wd.drop (t + 1)) := (hRw.sta hS).drop (t + 1)
        have hcz : ¬ (cw : Int) = (t : Int) + 1 := by omega
        go_wp2_with (first | (go_at_call 44; first | (have zn := mA; clear zn; (with_reducible refine (pairWith_s gb N i ns cs n cap sa ss B Sm (P ++ pwL B i (Wd.drop (t + 1))) v1 v2 (.slice ss ns cs) (.slice (some ⟨gw, ow, none⟩) nw cw) u1 w1 hg3 hgN (Nat.le_trans hNr hS3.size) (hB2.sta hS3) (hRs2.sta hS3) HNS.out hin hsn hO3 hq2).mono ?_); rintro e w2 ⟨rfl, u2, hg4, hO4, hS4, hz4⟩; have HZ4 : Hid _ := hz4; clear hz4) | ((with_reducible refine (pairWith_s gb N i (nw - (t + 1)) (cw - (t + 1)) n cap sa (some ⟨gw, ow + (t + 1), none⟩) B (Wd.drop (t + 1)) P v1 v2 (.slice ss ns cs) (.slice (some ⟨gw, ow, none⟩) nw cw) u wr hg2 hgN hNr hB2 hRd hdl hin hdn hO2 hq1).mono ?_); rintro e w1 ⟨rfl, u1, hg3, hO3, hS3, hz3⟩; have HZ3 : Hid _ := hz3; clear hz3; have c33 := hg3.c3; have mA := hide True.intro)))
        go_roundg (nw - (t + 1))
        case measure => omega
        case rel => exact ⟨t + 1, u2, by go_num, by omega, Nat.le_refl _, hg4, by rw [HW1.out, HP.out]; exact hO4, hS.trans (hS3.trans hS4), (show _ → _ from fun e => by rw [HW1.out, HP.out] at e; have e3 := e; rw [List.length_append] at e3; have e5 := e3; rw [List.length_append] at e5; exact (HZ4.out e).trans ((HZ3.out (by omega)).trans (HZ.out (by rw [HP.out]; omega))))⟩
    · have hltz : ¬ (t : Int) < (nw : Int) := by omega
      have htt : t = nw := by omega
      subst htt
      go_wp2
      go_ret
      exact ⟨rfl, _, hg2, hO2, hS, fun e => HZ.out (by first | exact e | simp [e] | simpa using e)⟩

end Go.Proofs.Ytekhnolpgoejdab
