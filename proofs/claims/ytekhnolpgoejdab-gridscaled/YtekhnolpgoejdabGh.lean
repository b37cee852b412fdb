/-
  What each function of package grid answers: one contract a function.
-/
import Derived.Test.YtekhnolpgoejdabGg
import Derived.Test.YtekhnolpgoejdabGsw
import Derived.Laws.FloatArith
import Derived.Laws.StructEq
import Derived.Deep.DeepCutAuto
import Derived.Laws.MakeOwn
import Derived.Below
import Derived.BigQuiet
import Derived.OwnWalk
import Derived.Laws.AppendOwn
import Derived.Laws.AppendOwnNone
import Derived.WalkKit
import Derived.WalkLawsBesides
import Derived.WalkSpells
import Derived.ProofKit
import Derived.OpenShut
import Derived.Deep.RegionHeld3
import Derived.Deep.LoopGhost
namespace Go.Proofs.Ytekhnolpgoejdab
open Go.ChangeShapes Go.WideShapes Go.ChangeAt Go.RowKit Go.Shelf Go.Lib Go.Sort
set_option linter.unusedVariables false
set_option linter.unusedSimpArgs false


set_option maxRecDepth 100000 in
set_option maxHeartbeats 16000000 in
theorem pairCell_s (gb N m rc n cap sb : Nat) (sa sr : Option Addr) (B : Nat → Bo) (S : Nat → Sp4) (V : Nat → Bool) (c : Ce) (R : List Nat) (L : List (Nat × Nat)) (v2 v3 v4 v5 : Value) (w : World) (hg : G6 w gb (.slice sa n cap) (.slice (some ⟨sb, 0, none⟩) n n) v2 v3 v4 v5) (hgN : gb < N) (hN : N ≤ w.heap.size) (hsN : sb < N) (hsg : ¬ sb = gb)
    (hB : BoxN w N (· = gb) sa n B) (hSp : SpS w sb S V n) (hR : RowN w N (· = gb) sr R) (hm : R.length = m) (h200 : m ≤ 200) (hRn : ∀ k ∈ R, k < n ∧ V k = true) (hmr : m ≤ rc) (hrm : rc ≤ 9223372036854775807) (hO : OwnR 2 N w v5 L.length (pRow L)) (hL : (L ++ ccL B S c R m).length ≤ 65536) (hvl : ∀ k, vb v5 = some k → k < w.heap.size) :
    Calls Try.prog 45 #[.pointer (some ⟨gb, 0, none⟩), .agg #[.int .i64 c.1, .int .i64 c.2], .slice sr m rc] w fun e w' => e = .returned (.int .i64 0) ∧ ∃ u, G6 w' gb (.slice sa n cap) (.slice (some ⟨sb, 0, none⟩) n n) v2 v3 v4 u ∧ OwnR 2 N w' u (L ++ ccL B S c R m).length (pRow (L ++ ccL B S c R m)) ∧ Mov gb w v5 w' u ∧ (∀ k, vb u = some k → k < w'.heap.size) ∧ ((L ++ ccL B S c R m).length = 0 → u = v5) := by
  have HM : Hid (R.length = m) := hm
  clear hm
  have hvN := own_vb hO
  have hugb : ∀ u, ∀ {W : World} {l : Nat} {RR : List Value}, OwnR 2 N W u l RR → vb u ≠ some gb := fun u W l RR h e => by have := own_vb h gb e; omega
  obtain ⟨W1, hW1⟩ : ∃ W1, W1 = w.alloc (.cells #[.int .i64 c.1, .int .i64 c.2] 75) := ⟨_, rfl⟩
  obtain ⟨bc, hbc⟩ : ∃ b, b = w.heap.size := ⟨_, rfl⟩
  have hB0 : Bel w W1 := by rw [hW1]; exact bl_alloc (bl_refl w) _ _
  have hM0 : Mov gb w v5 W1 v5 := Mov.of_bel hB0
  have hc0 : W1.cell? ⟨bc, 0, none⟩ = some (.int .i64 c.1) := by rw [hW1, hbc, World.cell?_alloc_new]; rfl
  have hc1 : W1.cell? ⟨bc, 1, none⟩ = some (.int .i64 c.2) := by rw [hW1, hbc, World.cell?_alloc_new]; rfl
  have hbc1 : bc < W1.heap.size := by rw [hW1, hbc, World.size_alloc]; omega
  have hlg0 := hg.lt
  have hbcg : bc ≠ gb := by omega
  have hbcv : vb v5 ≠ some bc := fun e => by have := hvl bc e; omega
  have hNw1 : N ≤ W1.heap.size := Nat.le_trans hN hB0.size
  have hg1 := hg.bel hB0
  have hB1 : BoxN W1 N (· = gb) sa n B := hB.sta (Sta.of_bel hB0 hN)
  have hSp1 := hSp.bel hB0
  have hR1 : RowN W1 N (· = gb) sr R := hR.sta (Sta.of_bel hB0 hN)
  have hO1 := hO.bel hB0
  have hvl1 : ∀ k, vb v5 = some k → k < W1.heap.size := fun k e => Nat.lt_of_lt_of_le (hvl k e) hB0.size
  go_enter Try.func45, Try.ntmps45
  go_upto_region 1 with (fail)
  rw [← hW1, ← hbc]
  have HBC : Hid (bc = w.heap.size) := hbc
  clear hW1 hbc
  go_wp2
  go_loopg [7, 15] m (fun kx s7 s15 wr => ∃ (t met : Nat) (u : Value), s15 = .int .i64 t ∧ s7 = .int .i64 met ∧ t ≤ m ∧ m - t ≤ kx ∧ met ≤ t * m ∧ G6 wr gb (.slice sa n cap) (.slice (some ⟨sb, 0, none⟩) n n) v2 v3 v4 u ∧ OwnR 2 N wr u (L ++ ccL B S c R t).length (pRow (L ++ ccL B S c R t)) ∧ Mov gb W1 v5 wr u ∧ (∀ k, vb u = some k → k < wr.heap.size) ∧ Hid ((L ++ ccL B S c R t).length = 0 → u = v5))
  case atStart => exact ⟨0, 0, v5, rfl, rfl, by omega, by omega, by omega, hg1, by simpa [ccL] using hO1, Mov.refl _ _ _, hvl1, (show _ → _ from fun _ => rfl)⟩
  case round =>
    obtain ⟨t, met, u, rfl, rfl, htm, hkx, hmet, hg2, hO2, hM, hul, HZ⟩ := hrel
    by_cases hlt : t < m
    · have hltz : (t : Int) < (m : Int) := by omega
      have hwk : IntKind.wrap .i64 ((t : Int) + 1) = (t : Int) + 1 := by rw [IntKind.wrap_i64]; omega
      obtain ⟨i, hi⟩ : ∃ p, R[t]? = some p := ⟨_, List.getElem?_eq_getElem (by rw [HM.out]; exact hlt)⟩
      have hiR := hRn i (List.mem_of_getElem? hi)
      have hC1 := ccL_at (B := B) (S := S) (c := c) hi
      have hC2 := ccL_pre (B := B) (S := S) (c := c) (R := R) (show t + 1 ≤ m by omega)
      have hS1 := hM.sta hNw1 hvN
      obtain ⟨gr, or_, hsr, hIs⟩ : ∃ g o, sr = some ⟨g, o, none⟩ ∧ Is wr g o R := by
        rcases hR1.sta hS1 with h | ⟨g, o, e, _, _, h⟩
        · rw [h] at hi; simp at hi
        · exact ⟨g, o, e, h⟩
      subst hsr
      have z9 := hIs t i hi
      obtain ⟨D, hD⟩ : ∃ D, R.drop (t + 1) = D := ⟨_, rfl⟩
      have hDn : ∀ k ∈ D, k < n ∧ V k = true := fun k hk => hRn k (List.mem_of_mem_drop (by rw [hD]; exact hk))
      have hdl : D.length = m - (t + 1) := by rw [← hD, List.length_drop, HM.out]
      rw [hD] at hC1
      obtain ⟨Q, hQ⟩ : ∃ Q, L ++ ccL B S c R t = Q := ⟨_, rfl⟩
      have hQ65 : Q.length + (cpL B S c i D).length ≤ 65536 := by
        rw [hC1] at hC2
        rw [← hQ, List.length_append]
        rw [List.length_append] at hL hC2
        omega
      have HC1 : Hid (L ++ ccL B S c R (t + 1) = (L ++ ccL B S c R t) ++ cpL B S c i D) := (show _ = _ from by rw [hC1, List.append_assoc])
      have HQ : Hid (L ++ ccL B S c R t = Q) := hQ
      rw [hQ] at hO2
      have hmm : t * m ≤ 40000 := Nat.le_trans (Nat.mul_le_mul (show t ≤ 200 by omega) h200) (by decide)
      have k1z : (t : Int) + 1 ≤ (m : Int) := by omega
      have k1c : (t : Int) + 1 ≤ (rc : Int) := by omega
      have k1p : (0 : Int) ≤ (t : Int) + 1 := by omega
      have tn1 : ((t : Int) + 1).toNat = t + 1 := by omega
      have tn2 : ((m : Int) - ((t : Int) + 1)).toNat = m - (t + 1) := by omega
      have tn3 : ((rc : Int) - ((t : Int) + 1)).toNat = rc - (t + 1) := by omega
      have hnc : (m : Int) ≤ (rc : Int) := by omega
      have hDr : Hid (R.drop (t + 1) = D) := hD
      clear hQ hC1 hC2 hi hIs hD
      by_cases hcap : rc = t + 1
      · subst hcap
        have hdl0 : D.length = 0 := by rw [hdl]; omega
        have hRd : RowN W1 N (· = gb) (some ⟨gr, or_, none⟩) D := .inl (List.eq_nil_of_length_eq_zero hdl0)
        go_wp2
        go_loopg [7, 25] 0 (fun kx s7 s25 wr => ∃ (t2 met : Nat) (u : Value), s25 = .int .i64 t2 ∧ s7 = .int .i64 met ∧ t2 ≤ 0 ∧ 0 - t2 ≤ kx ∧ met ≤ t * m + t2 ∧ G6 wr gb (.slice sa n cap) (.slice (some ⟨sb, 0, none⟩) n n) v2 v3 v4 u ∧ OwnR 2 N wr u (Q ++ cpL B S c i (D.take t2)).length (pRow (Q ++ cpL B S c i (D.take t2))) ∧ Mov gb W1 v5 wr u ∧ (∀ k, vb u = some k → k < wr.heap.size) ∧ Hid ((Q ++ cpL B S c i (D.take t2)).length = 0 → u = v5))
        case atStart => exact ⟨0, met, u, rfl, rfl, by omega, by omega, by omega, hg2, by simpa [cpL] using hO2, hM, hul, (show _ → _ from fun e => HZ.out (by rw [HQ.out]; simpa [cpL] using e))⟩
        case round =>
          clear hg2 hO2 hM hul hmet HZ
          obtain ⟨t2, met, u, rfl, rfl, ht2, hkx2, hmet, hg2, hO2, hM, hul, HZ⟩ := hrel
          by_cases hlt2 : t2 < 0
          · exact absurd hlt2 (by omega)
          · have hlt2z : ¬ (t2 : Int) < ((0 : Nat) : Int) := by omega
            have hlt2y : ¬ (t2 : Int) < (m : Int) - ((t : Int) + 1) := by omega
            have htt2 : t2 = 0 := by omega
            have htake : D.take t2 = D := by rw [htt2, ← hdl0]; exact List.take_length
            rw [htake] at hO2 HZ
            have hlen : (Q ++ cpL B S c i D).length ≤ 65536 := by rw [List.length_append]; exact hQ65
            obtain ⟨Q2, hQ2⟩ : ∃ Q2, Q ++ cpL B S c i D = Q2 := ⟨_, rfl⟩
            rw [hQ2] at hO2 hlen
            have HQ2 : Hid (Q ++ cpL B S c i D = Q2) := hQ2
            obtain ⟨NQ, hNQ⟩ : ∃ N, Q2.length = N := ⟨_, rfl⟩
            obtain ⟨sp, cp, hu⟩ : ∃ sp cp, u = .slice sp NQ cp := by
              obtain ⟨sp, cp, e, _⟩ := own_prow hO2
              exact ⟨sp, cp, by rw [← hNQ]; exact e⟩
            rw [hNQ] at hlen
            have HNQ : Hid (Q2.length = NQ) := hNQ
            clear htake hQ2 hNQ
            subst hu
            have c5 := hg2.c5
            obtain ⟨mx, hmx⟩ : ∃ x : Nat, x = max met NQ := ⟨_, rfl⟩
            have emx : max (met : Int) (NQ : Int) = (mx : Int) := by omega
            have hmx6 : mx ≤ 65536 := by omega
            clear hmx
            go_wp2_with (first | (go_at_call 63; (with_reducible refine (limit_s mx _ hmx6).mono ?_); rintro e w' ⟨rfl, hw⟩; rw [hw]; clear hw))
            go_roundg (m - (t + 1))
            case measure => omega
            case rel => exact ⟨t + 1, met, _, by go_num, rfl, by omega, Nat.le_refl _, by rw [Nat.add_mul, Nat.one_mul]; omega, hg2, by rw [HC1.out, HQ.out, HQ2.out, HNQ.out]; rw [HNQ.out] at hO2; exact hO2, hM, hul, (show _ → _ from fun e => HZ.out (by rw [HC1.out, HQ.out] at e; exact e))⟩
      · have hRd : RowN W1 N (· = gb) (some ⟨gr, or_ + (t + 1), none⟩) D := by rw [← hDr.out]; exact hR1.drop (t + 1)
        have hcz : ¬ (rc : Int) = (t : Int) + 1 := by omega
        go_wp2
        go_loopg [7, 25] (m - (t + 1)) (fun kx s7 s25 wr => ∃ (t2 met : Nat) (u : Value), s25 = .int .i64 t2 ∧ s7 = .int .i64 met ∧ t2 ≤ (m - (t + 1)) ∧ (m - (t + 1)) - t2 ≤ kx ∧ met ≤ t * m + t2 ∧ G6 wr gb (.slice sa n cap) (.slice (some ⟨sb, 0, none⟩) n n) v2 v3 v4 u ∧ OwnR 2 N wr u (Q ++ cpL B S c i (D.take t2)).length (pRow (Q ++ cpL B S c i (D.take t2))) ∧ Mov gb W1 v5 wr u ∧ (∀ k, vb u = some k → k < wr.heap.size) ∧ Hid ((Q ++ cpL B S c i (D.take t2)).length = 0 → u = v5))
        case atStart => exact ⟨0, met, u, rfl, rfl, by omega, by omega, by omega, hg2, by simpa [cpL] using hO2, hM, hul, (show _ → _ from fun e => HZ.out (by rw [HQ.out]; simpa [cpL] using e))⟩
        case round =>
          clear hg2 hO2 hM hul hmet HZ
          obtain ⟨t2, met, u, rfl, rfl, ht2, hkx2, hmet, hg2, hO2, hM, hul, HZ⟩ := hrel
          by_cases hlt2 : t2 < (m - (t + 1))
          · skip
            have hlt2z : (t2 : Int) < (((m - (t + 1)) : Nat) : Int) := by omega
            have hlt2y : (t2 : Int) < (m : Int) - ((t : Int) + 1) := by omega
            have hwk2 : IntKind.wrap .i64 ((t2 : Int) + 1) = (t2 : Int) + 1 := by rw [IntKind.wrap_i64]; omega
            have hwm : IntKind.wrap .i64 ((met : Int) + 1) = (met : Int) + 1 := by rw [IntKind.wrap_i64]; omega
            obtain ⟨k, hk⟩ : ∃ p, D[t2]? = some p := ⟨_, List.getElem?_eq_getElem (by rw [hdl]; exact hlt2)⟩
            have hkR := hDn k (List.mem_of_getElem? hk)
            have hS2 := hM.sta hNw1 hvN
            obtain ⟨gd, od, hsd, hId⟩ : ∃ g o, (some ⟨gr, or_ + (t + 1), none⟩ : Option Addr) = some ⟨g, o, none⟩ ∧ Is wr g o D := by
              rcases hRd.sta hS2 with h | ⟨g, o, e, _, _, h⟩
              · rw [h] at hk; simp at hk
              · exact ⟨g, o, e, h⟩
            cases hsd
            have z0 := hId t2 k hk
            obtain ⟨b, off, hsa, hbN, hbk, hBs⟩ : ∃ b off, sa = some ⟨b, off, none⟩ ∧ b < N ∧ ¬ b = gb ∧ Bs wr b off n B := by
              rcases hB1.sta hS2 with h | h
              · omega
              · exact h
            have hsp := hSp1.sta hS2 hsN hsg
            have htk : Hid (D.take (t2 + 1) = D.take t2 ++ [k]) := take_snoc hk
            have hlen : (Q ++ cpL B S c i (D.take t2)).length ≤ 65536 := by
              have h1 := cpL_pre (B := B) (S := S) (c := c) (i := i) (R := D) t2
              rw [List.length_append]; omega
            obtain ⟨Q2, hQ2⟩ : ∃ Q2, Q ++ cpL B S c i (D.take t2) = Q2 := ⟨_, rfl⟩
            rw [hQ2] at hO2 hlen
            have HQ2 : Hid (Q ++ cpL B S c i (D.take t2) = Q2) := hQ2
            have hNr : N ≤ wr.heap.size := Nat.le_trans hNw1 hM.size
            clear hk hQ2
            cases ho : ovO (B i) (B k) with
            | false =>
              have HO : Hid (ovO (B i) (B k) = false) := ho
              have hov := fun W (hb : Bel wr W) => isOver_s gb i k n cap b off B W (by have := (hg2.bel hb).c0; rw [hsa] at this; exact this) (hBs.bel hb) hiR.1 hkR.1
              rw [ho] at hov
              clear ho
              go_wp2_with (first | (go_at_call 62; (with_reducible refine (hov _ (bl_refl _)).mono ?_); rintro e w1 ⟨rfl, hb1⟩))
              go_roundg ((m - (t + 1)) - (t2 + 1))
              case measure => omega
              case rel => exact ⟨t2 + 1, met, u, by go_num, rfl, by omega, Nat.le_refl _, by omega, hg2.bel hb1, by rw [htk.out, cpL_snoc, HO.out, Bool.false_and, if_neg (by decide), List.append_nil, HQ2.out]; exact hO2.bel hb1, hM.trans (Mov.of_bel hb1), fun k e => Nat.lt_of_lt_of_le (hul k e) hb1.size, (show _ → _ from fun e => HZ.out (by rw [htk.out, cpL_snoc, HO.out, Bool.false_and, if_neg (by decide), List.append_nil] at e; exact e))⟩
            | true =>
              have HO : Hid (ovO (B i) (B k) = true) := ho
              have hov := fun W (hb : Bel wr W) => isOver_s gb i k n cap b off B W (by have := (hg2.bel hb).c0; rw [hsa] at this; exact this) (hBs.bel hb) hiR.1 hkR.1
              rw [ho] at hov
              clear ho
              go_upto_region 10 with (first | (go_at_call 62; (with_reducible refine (hov _ (bl_refl _)).mono ?_); rintro e w1 ⟨rfl, hb1⟩))
              have hg3 := hg2.bel hb1
              have hM3 := hM.trans (Mov.of_bel (v := u) hb1)
              have hO3 := hO2.bel hb1
              have hul3 : ∀ k, vb u = some k → k < w1.heap.size := fun k e => Nat.lt_of_lt_of_le (hul k e) hb1.size
              have hsp3 := hsp.bel hb1
              obtain ⟨a0, a1, a2, a3⟩ := hsp3 i hiR.1 hiR.2
              obtain ⟨d0, d1, d2, d3⟩ := hsp3 k hkR.1 hkR.2
              have b0 := (hM3.cell (k := bc) (o := 0) hbc1 hbcg hbcv).trans hc0
              have b1 := (hM3.cell (k := bc) (o := 1) hbc1 hbcg hbcv).trans hc1
              have c1 := hg3.c1
              haveI := belBy_some w1
              have q0 := belBy_cell c1
              have y0 := belBy_cell a0
              have y1 := belBy_cell a1
              have y2 := belBy_cell a2
              have y3 := belBy_cell a3
              have x0 := belBy_cell d0
              have x1 := belBy_cell d1
              have x2 := belBy_cell d2
              have x3 := belBy_cell d3
              have r0 := belBy_cell b0
              have r1 := belBy_cell b1
              have hiz : (i : Int) < (n : Int) := by have := hiR.1; omega
              have hkz : (k : Int) < (n : Int) := by have := hkR.1; omega
              obtain ⟨⟨f1, f2⟩, hF⟩ : ∃ p, firstC (S i) (S k) = p := ⟨_, rfl⟩
              obtain ⟨dd, hdd⟩ : ∃ d, decide (firstC (S i) (S k) = c) = d := ⟨_, rfl⟩
              have hfo : ∀ W, Calls Try.prog 64 #[.agg #[.int .i64 (S i).1.1, .int .i64 (S i).1.2, .int .i64 (S i).2.1, .int .i64 (S i).2.2], .agg #[.int .i64 (S k).1.1, .int .i64 (S k).1.2, .int .i64 (S k).2.1, .int .i64 (S k).2.2]] W fun e w' => e = .returned (.agg #[.int .i64 f1, .int .i64 f2]) ∧ Bel W w' := fun W => by have := firstOf_s (S i) (S k) W; rw [hF] at this; exact this
              have qd : ∀ W, (binOp .eql 75 (.agg #[.int .i64 f1, .int .i64 f2]) (.agg #[.int .i64 c.1, .int .i64 c.2])).run Try.prog W = .ok (.bool dd) W := fun W => by rw [← hdd, hF]; exact eqc_run f1 f2 c.1 c.2 W
              have qd2 : ∀ W, (Op.equalIn 10000 75 (.agg #[.int .i64 f1, .int .i64 f2]) (.agg #[.int .i64 c.1, .int .i64 c.2])).run Try.prog W = .ok dd W := fun W => by rw [← hdd, hF]; exact eqk_run (f1, f2) c W
              have qG := eqg_cell
              have HDD : Hid (decide (firstC (S i) (S k) = c) = dd) := hdd
              clear hF hdd
              go_wp2
              refine wp_region_quiet_bel (by kernel_rfl) (by kernel_rfl) ?_
              repeat (go_big_quiet_step (first | (go_at_call 64; exact calls_bel (hfo _))))
              refine wpQuiet_nil ?_
              rintro _ ⟨nq, rfl⟩
              have hb9 := nq.h
              clear q0 y0 y1 y2 y3 x0 x1 x2 x3 r0 r1 this a0 a1 a2 a3 d0 d1 d2 d3 b0 b1 c1 hfo qd qd2 qG
              obtain ⟨w4, hw4⟩ : ∃ x, x = nq.world := ⟨_, rfl⟩
              rw [← hw4] at hb9
              rw [← hw4]
              clear hw4 nq
              have hg4 := hg3.bel hb9
              have hM4 := hM3.trans (Mov.of_bel (v := u) hb9)
              have hO4 := hO3.bel hb9
              have hul4 : ∀ k, vb u = some k → k < w4.heap.size := fun k e => Nat.lt_of_lt_of_le (hul3 k e) hb9.size
              have hN4 : N ≤ w4.heap.size := Nat.le_trans hNw1 hM4.size
              cases dd with
              | false =>
                go_wp2
                go_roundg ((m - (t + 1)) - (t2 + 1))
                case measure => omega
                case rel => exact ⟨t2 + 1, met + 1, u, by go_num, by go_num, by omega, Nat.le_refl _, by omega, hg4, by rw [htk.out, cpL_snoc, HO.out, HDD.out, Bool.and_false, if_neg (by decide), List.append_nil, HQ2.out]; exact hO4, hM4, hul4, (show _ → _ from fun e => HZ.out (by rw [htk.out, cpL_snoc, HO.out, HDD.out, Bool.and_false, if_neg (by decide), List.append_nil] at e; exact e))⟩
              | true =>
                have c5 := hg4.c5
                have hlg := hg4.lt
                have one : ∀ x ∈ ([.int .i64 (i : Int), .int .i64 (k : Int)] : List Value), x.oneCell' = true := by
                  intro x hx
                  simp only [List.mem_cons, List.not_mem_nil, or_false] at hx
                  rcases hx with rfl | rfl <;> rfl
                have hO' := hO4.bel (bl_alloc (bl_refl w4) #[.int .i64 (i : Int), .int .i64 (k : Int)] 37)
                have hg4a := hg4.bel (bl_alloc (bl_refl w4) #[.int .i64 (i : Int), .int .i64 (k : Int)] 37)
                have hu4 := hugb u hO4
                go_wp2_with (first | (at_builtin; refine wpList_appU (P := Try.prog) (sz := 2) (by_ := 16) (R := pRow Q2) (N := [.int .i64 (i : Int), .int .i64 (k : Int)]) 25 37 rfl _ _ rfl Try.underlying25 info_pair rfl rfl _ 0 1 1 rfl hO' rfl (mk_rw w4 [.int .i64 (i : Int), .int .i64 (k : Int)] 37) one (by decide) (by simp only [World.size_alloc]; omega) (by unfold maxLen; omega) (by omega) ?_; intro v9 w9 hO9 hv9 hOh9; obtain ⟨g9, cap9, rfl, hw9⟩ := hv9; have hM9 := Mov.of_app (gb := gb) (m := Q2.length + 1) (cap := cap9) hOh9 hw9; have hg9 := hg4a.oh hOh9 hu4; have c59 := hg9.c5; have f9 := hg9.fr 5; have hlg9 := hg9.lt))
                have e9 : (Q ++ cpL B S c i (D.take (t2 + 1))) = Q2 ++ [(i, k)] := by rw [htk.out, cpL_snoc, HO.out, HDD.out, Bool.and_true, if_pos rfl, ← List.append_assoc, HQ2.out]
                have HE9 : Hid _ := e9
                clear e9
                have hlt9 : ∀ k, vb (.slice (some ⟨g9, 0, none⟩) (Q2.length + 1) cap9) = some k → k < w9.heap.size := own_lt hO9 (.inl (by omega)) (by decide)
                go_roundg ((m - (t + 1)) - (t2 + 1))
                case measure => omega
                case rel => exact ⟨t2 + 1, met + 1, _, by go_num, by go_num, by omega, Nat.le_refl _, by omega, hg9.set5 _, by rw [HE9.out, List.length_append, pRow_app]; exact hO9.set hgN _, (hM4.trans ((Mov.of_bel (v := u) (bl_alloc (bl_refl w4) _ _)).trans hM9)).set _, fun k e => by rw [World.size_setCell]; exact hlt9 k e, (show _ → _ from fun e => by rw [HE9.out, List.length_append] at e; simp at e)⟩
          · have hlt2z : ¬ (t2 : Int) < (((m - (t + 1)) : Nat) : Int) := by omega
            have hlt2y : ¬ (t2 : Int) < (m : Int) - ((t : Int) + 1) := by omega
            have htt2 : t2 = (m - (t + 1)) := by omega
            have htake : D.take t2 = D := by rw [htt2, ← hdl]; exact List.take_length
            rw [htake] at hO2 HZ
            have hlen : (Q ++ cpL B S c i D).length ≤ 65536 := by rw [List.length_append]; exact hQ65
            obtain ⟨Q2, hQ2⟩ : ∃ Q2, Q ++ cpL B S c i D = Q2 := ⟨_, rfl⟩
            rw [hQ2] at hO2 hlen
            have HQ2 : Hid (Q ++ cpL B S c i D = Q2) := hQ2
            obtain ⟨NQ, hNQ⟩ : ∃ N, Q2.length = N := ⟨_, rfl⟩
            obtain ⟨sp, cp, hu⟩ : ∃ sp cp, u = .slice sp NQ cp := by
              obtain ⟨sp, cp, e, _⟩ := own_prow hO2
              exact ⟨sp, cp, by rw [← hNQ]; exact e⟩
            rw [hNQ] at hlen
            have HNQ : Hid (Q2.length = NQ) := hNQ
            clear htake hQ2 hNQ
            subst hu
            have c5 := hg2.c5
            obtain ⟨mx, hmx⟩ : ∃ x : Nat, x = max met NQ := ⟨_, rfl⟩
            have emx : max (met : Int) (NQ : Int) = (mx : Int) := by omega
            have hmx6 : mx ≤ 65536 := by omega
            clear hmx
            go_wp2_with (first | (go_at_call 63; (with_reducible refine (limit_s mx _ hmx6).mono ?_); rintro e w' ⟨rfl, hw⟩; rw [hw]; clear hw))
            go_roundg (m - (t + 1))
            case measure => omega
            case rel => exact ⟨t + 1, met, _, by go_num, rfl, by omega, Nat.le_refl _, by rw [Nat.add_mul, Nat.one_mul]; omega, hg2, by rw [HC1.out, HQ.out, HQ2.out, HNQ.out]; rw [HNQ.out] at hO2; exact hO2, hM, hul, (show _ → _ from fun e => HZ.out (by rw [HC1.out, HQ.out] at e; exact e))⟩
    · have hltz : ¬ (t : Int) < (m : Int) := by omega
      have htt : t = m := by omega
      subst htt
      go_wp2
      go_ret
      exact ⟨rfl, _, hg2, by rw [List.length_append] at hO2; exact hO2, hM0.trans hM, hul, by first | exact HZ.out | (intro e1 e2; exact HZ.out (by simp [e1, e2])) | (intro e; exact HZ.out (by simp [e]))⟩

end Go.Proofs.Ytekhnolpgoejdab
