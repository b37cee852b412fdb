/-
  'tumblelaw14.GridAny' is true of all rows of boxes.
-/
import Derived.Test.YtekhnolpgoejdaaGreatRows
import Derived.Test.YtekhnolpgoejdaaGreatGany
import Derived.WalkKit
import Derived.ProofKit
import Derived.OpenShut
import Derived.WalkLawsBesides
import Derived.WalkSpells
import Derived.Lib.SmallJoins
import Derived.Laws.Cover2
import Derived.Laws.AppendOwn
import Derived.Laws.OwnMore
import Derived.Laws.AppendOwnNone
import Derived.Deep.RegionHeld3
import Derived.Deep.RegionWith
import Derived.Deep.SlicePairs
import Derived.Deep.Strs
import Derived.SizedLaws
import Derived.Below
import Derived.Deep.DeepCutAuto
import Derived.Laws.StructEq
namespace Go.Proofs.YtekhnolpgoejdaaGreat.gridAny
open Go.ChangeShapes Go.WideShapes Go.ChangeAt Go.RowKit Go.Joins Go.Sort
set_option linter.unusedVariables false
set_option linter.unusedSimpArgs false

theorem own : ownKnob Tryz.prog.godebug = none := by kernel_rfl
theorem laidOut : laidOutB Tryz.prog = true := by kernel_rfl
theorem wf_f64 {x : Nat} (h : (Lit.float .f64 x).wf = true) : okK .f64 x := by
  rw [okK64]; simpa [Lit.wf] using h
theorem trod_fl {H : Type} {enc : TypeId × Value → H} {P : Program} {w : World} {base fuel : Nat} {spare : Nat → Bool} {held : Bool} {t : TypeId} {cs : List Value} {x : DataW H × List MemPlace} {k : FloatKind} (ht : P.underlying t = some (.float k)) (h : DataW.trod enc P w base spare held fuel t cs = some x) : ∃ z, cs = [.float k z] ∧ x = (.lit (.float k z), []) ∧ (Lit.float k z).wf = true := by
  cases fuel with
  | zero => simp [DataW.trod] at h
  | succ n =>
    unfold DataW.trod at h
    rw [ht] at h
    split at h <;> simp_all

theorem cellsV : Tryz.prog.cellsOf 35 = 2 := by kernel_rfl
theorem cellsM : Tryz.prog.cellsOf 37 = 4 := by kernel_rfl
theorem cellsF : Tryz.prog.cellsOf 23 = 1 := by kernel_rfl
theorem read_p {w : World} {v : Value} {L : List (Nat × Nat)} (h : PRow w v L) {N : Nat} (hN : L.length = N) : ∃ sa cap, v = .slice sa N cap ∧ ∀ (t : Nat) (x : Nat × Nat), L[t]? = some x → ∃ g o, sa = some ⟨g, o, none⟩ ∧ Ps w g o L := by
  obtain ⟨sa, cap, e, h⟩ := h
  refine ⟨sa, cap, by rw [← hN]; exact e, fun t x ht => ?_⟩
  rcases h with h | h
  · rw [h] at ht; simp at ht
  · exact h
set_option maxRecDepth 100000 in
set_option maxHeartbeats 4000000 in
theorem sameZ_s (L M : List (Nat × Nat)) (va vb : Value) (w : World) (ha : PRow w va L) (hb : PRow w vb M) (h : L.length = M.length → L = M) (hl : L.length < 4611686018427387904) :
    Calls Tryz.prog 11 #[va, vb] w fun e w' => ∃ b, e = .returned (.bool b) ∧ Bel w w' := by
  by_cases he : L = M
  · subst he
    refine (sameP_s L va vb w ha hb hl).mono ?_
    rintro e w' ⟨rfl, hb⟩
    exact ⟨true, rfl, hb⟩
  · obtain ⟨sa, ca, rfl, hA⟩ := ha
    obtain ⟨sb, cb, rfl, hB⟩ := hb
    have hne : ¬ L.length = M.length := fun x => he (h x)
    clear hA hB he h
    generalize L.length = l at *
    generalize M.length = m at *
    have hnz : ¬ (l : Int) = (m : Int) := by omega
    go_enter Tryz.func11, Tryz.ntmps11
    go_wp2
    go_ret
    exact ⟨false, by first | rfl | simp, bl_refl _⟩

set_option maxRecDepth 100000 in
set_option maxHeartbeats 16000000 in
theorem walk_any (sa : Option Addr) (n cap : Nat) (B : Nat → Bo) (d : Nat) (od : okK .f64 d) (d2 : Nat) (od2 : okK .f64 d2) (w : World) (hA : AnyB w sa n B) (hr : n * 32 ≤ 140737488351232) (ho : ∀ i, i < n → okK .f64 (B i).1 ∧ okK .f64 (B i).2.1 ∧ okK .f64 (B i).2.2.1 ∧ okK .f64 (B i).2.2.2) :
    Calls Tryz.prog 6 #[.slice sa n cap, .float .f64 d, .float .f64 d2] w fun e w' => e = .returned (.bool true) ∧ Below w.heap.size w w' := by
  clear ho hr
  by_cases hn : n ≤ 200
  · have hnz : ¬ (200 : Int) < (n : Int) := by omega
    have hp1 := fun (W : World) (h : AnyB W sa n B) => pairs14_s sa n cap d B W h hn
    have hp2 := fun (W : World) (h : AnyB W sa n B) => pairs14_s sa n cap d2 B W h hn
    have hp3 := fun (W : World) (h : AnyB W sa n B) => pairs_any sa n cap B W h
    have lP : (refP B n).length ≤ 40000 := by
      have := allB_le B B (fun i k => decide (i < k)) n n
      have h3 : n * n ≤ 200 * 200 := Nat.mul_le_mul hn hn
      unfold refP
      omega
    have r1 : prE n (refP B n) = 0 := by unfold prE; rw [if_neg (by omega), if_neg (by omega)]
    have r2 : prL n (refP B n) = refP B n := by unfold prL; rw [if_neg (by omega), if_neg (by omega)]
    simp only [r1, r2] at hp3
    clear r1 r2
    have EP : Hid (refP B n = allB B B (fun i k => decide (i < k)) n n) := (show _ = _ from rfl)
    have g1 : ckG n d = if mayW d then 0 else 140 := by unfold ckG; rw [if_neg (by omega)]
    have g2 : ckG n d2 = if mayW d2 then 0 else 140 := by unfold ckG; rw [if_neg (by omega)]
    have l1 : gpL B n d = if mayW d then refP B n else [] := rfl
    have l2 : gpL B n d2 = if mayW d2 then refP B n else [] := rfl
    generalize refP B n = R at hp3 lP EP l1 l2
    have HLR : Hid (R.length < 4611686018427387904) := (show _ < _ from by omega)
    have qA := fun (a b c e : Int) (w : World) => run_equalIn_arr 9998 a b c e w
    have qG := eqg_pair
    cases h1 : mayW d with
    | false =>
      rw [h1] at g1 l1
      rw [if_neg (by decide)] at g1 l1
      simp only [g1, l1] at hp1
      obtain ⟨E2, hE2⟩ : ∃ E, ckG n d2 = E := ⟨_, rfl⟩
      obtain ⟨M, hM⟩ : ∃ L, gpL B n d2 = L := ⟨_, rfl⟩
      simp only [hE2, hM] at hp2
      clear g1 g2 l1 l2 hE2 hM h1
      have HZ1 : Hid (([] : List (Nat × Nat)).length = M.length → [] = M) := (show _ → _ from fun x => (List.eq_nil_of_length_eq_zero x.symm).symm)
      have HZ2 : Hid (([] : List (Nat × Nat)).length = R.length → [] = R) := (show _ → _ from fun x => (List.eq_nil_of_length_eq_zero x.symm).symm)
      have HZ3 : Hid (([] : List (Nat × Nat)).length < 4611686018427387904) := (show _ < _ from by decide)
      go_enter Tryz.func6, Tryz.ntmps6
      go_wp2_with (first | (go_at_call 7; (with_reducible refine (alive14_s _).mono ?_); rintro e w1 ⟨rfl, hb1⟩; have hA1 := hA.below hb1) | (go_at_call 9; first | ((with_reducible refine (hp1 w1 hA1).mono ?_); rintro e w2 ⟨v2, rfl, hO2, hz2, hb2⟩; have zz : v2 = .slice none 0 0 := (by first | exact hz2 | exact hz2 rfl | exact hz2 trivial); subst zz; clear hz2; have hA2 := hA1.below hb2; have K2 := bw_trans hb1 hb2) | ((with_reducible refine (hp2 w2 hA2).mono ?_); rintro e w3 ⟨v3, rfl, hO3, hz3, hb3⟩; have hA3 := hA2.below hb3; have K3 := bw_trans K2 hb3)) | (go_at_call 19; (with_reducible refine (hp3 w3 hA3).mono ?_); rintro e w4 ⟨v4, rfl, hO4, hz4, hb4⟩; have hA4 := hA3.below hb4; have K4 := bw_trans K3 hb4; have p2 : PRow w4 (.slice none 0 0) [] := (own_prow hO2).below (bw_trans hb3 hb4); have p3 : PRow w4 (v3) M := (own_prow hO3).below hb4; have p4 : PRow w4 v4 R := own_prow hO4) | (go_at_call 11; first | ((with_reducible refine (sameZ_s [] M (.slice none 0 0) v3 w4 p2 p3 HZ1.out HZ3.out).mono ?_); rintro e w5 ⟨b1, rfl, hb5⟩; have hA5 := hA4.below hb5.1; have K5 := bw_trans K4 hb5.1; replace p2 := p2.below hb5.1; replace p4 := p4.below hb5.1) | ((with_reducible refine (sameZ_s [] R (.slice none 0 0) v4 w5 p2 p4 HZ2.out HZ3.out).mono ?_); rintro e w6 ⟨b2, rfl, hb6⟩; have hA6 := hA5.below hb6.1; have K6 := bw_trans K5 hb6.1; replace p2 := p2.below hb6.1)))
      go_ret
      exact ⟨by first | rfl | simp, K6⟩
    | true =>
    rw [h1] at g1 l1
    rw [if_pos rfl] at g1 l1
    simp only [g1, l1] at hp1
    clear g1 l1 h1
    cases h2 : mayW d2 with
    | false =>
      rw [h2] at g2 l2
      rw [if_neg (by decide)] at g2 l2
      simp only [g2, l2] at hp2
      clear g2 l2 h2
      have HZ1 : Hid (R.length = ([] : List (Nat × Nat)).length → R = []) := (show _ → _ from fun x => List.eq_nil_of_length_eq_zero x)
      go_enter Tryz.func6, Tryz.ntmps6
      go_upto_region 15 with (first | (go_at_call 7; (with_reducible refine (alive14_s _).mono ?_); rintro e w1 ⟨rfl, hb1⟩; have hA1 := hA.below hb1) | (go_at_call 9; first | ((with_reducible refine (hp1 w1 hA1).mono ?_); rintro e w2 ⟨v2, rfl, hO2, hz2, hb2⟩; have hA2 := hA1.below hb2; have K2 := bw_trans hb1 hb2) | ((with_reducible refine (hp2 w2 hA2).mono ?_); rintro e w3 ⟨v3, rfl, hO3, hz3, hb3⟩; have zz : v3 = .slice none 0 0 := (by first | exact hz3 | exact hz3 rfl | exact hz3 trivial); subst zz; clear hz3; have hA3 := hA2.below hb3; have K3 := bw_trans K2 hb3)) | (go_at_call 19; (with_reducible refine (hp3 w3 hA3).mono ?_); rintro e w4 ⟨v4, rfl, hO4, hz4, hb4⟩; have hA4 := hA3.below hb4; have K4 := bw_trans K3 hb4; have p2 : PRow w4 (v2) R := (own_prow hO2).below (bw_trans hb3 hb4); have p3 : PRow w4 (.slice none 0 0) [] := (own_prow hO3).below hb4; have p4 : PRow w4 v4 R := own_prow hO4) | (go_at_call 11; first | ((with_reducible refine (sameZ_s R [] v2 (.slice none 0 0) w4 p2 p3 HZ1.out HLR.out).mono ?_); rintro e w5 ⟨b1, rfl, hb5⟩; have hA5 := hA4.below hb5.1; have K5 := bw_trans K4 hb5.1; replace p2 := p2.below hb5.1; replace p4 := p4.below hb5.1) | ((with_reducible refine (sameP_s R v2 v4 w5 p2 p4 HLR.out).mono ?_); rintro e w6 ⟨rfl, hb6⟩; have hA6 := hA5.below hb6.1; have K6 := bw_trans K5 hb6.1; replace p2 := p2.below hb6.1)))
      obtain ⟨NP, hNP⟩ : ∃ N, R.length = N := ⟨_, rfl⟩
      obtain ⟨sp, cp, hvp, hPs⟩ := read_p p2 hNP
      subst hvp
      rw [hNP] at lP
      have HNP : Hid (R.length = NP) := hNP
      have HPS : Hid _ := hPs
      clear hNP hPs p2 p3 p4 hO2 hO3 hO4 hz2 hz4 hp1 hp2 hp3
      go_wp2
      go_loopg [16, 17] n (fun kx s16 s17 wr => ∃ i a : Nat, s17 = .int .i64 i ∧ s16 = .int .i64 a ∧ i ≤ n ∧ n - i ≤ kx ∧ Bel w6 wr ∧ Hid (a = (allB B B (fun i k => decide (i < k)) n i).length))
      case atStart => exact ⟨0, 0, rfl, rfl, by omega, by omega, bl_refl _, rfl⟩
      case round =>
        obtain ⟨i, a, rfl, rfl, hin, hkx, hW, ha⟩ := hrel
        by_cases hlt : i < n
        · have hltz : (i : Int) < (n : Int) := by omega
          have hwk : IntKind.wrap .i64 ((i : Int) + 1) = (i : Int) + 1 := by rw [IntKind.wrap_i64]; omega
          obtain ⟨b, off, hsa, hB, hb0⟩ : ∃ b off, sa = some ⟨b, off, none⟩ ∧ Bs w6 b off n B ∧ b < w6.heap.size := by
            rcases hA6 with h0 | h0
            · omega
            · exact h0
          clear hA hA1 hA2 hA3 hA4 hA5 hA6
          subst hsa
          obtain ⟨wo, hwo⟩ : ∃ X, X = wr := ⟨_, rfl⟩
          subst hwo
          go_wp2
          go_loopg [16, 18] n (fun kx s16 s18 wr => ∃ k a : Nat, s18 = .int .i64 k ∧ s16 = .int .i64 a ∧ k ≤ n ∧ i < k ∧ n - k ≤ kx ∧ Bel wo wr ∧ Hid (a = (allB B B (fun i k => decide (i < k)) n i).length + (rowB B B (fun i k => decide (i < k)) k i).length))
          case atStart => exact ⟨i + 1, a, by go_num, rfl, by omega, by omega, by omega, bl_refl _, (show _ = _ from by rw [ha.out, rowB_low (Nat.le_refl _)]; rfl)⟩
          case round =>
            clear ha
            obtain ⟨k, a, rfl, rfl, hkn, hik, hkx2, hW8, ha⟩ := hrel
            by_cases hlt2 : k < n
            · have hlt2z : (k : Int) < (n : Int) := by omega
              have hwk2 : IntKind.wrap .i64 ((k : Int) + 1) = (k : Int) + 1 := by rw [IntKind.wrap_i64]; omega
              have hW6 := bl_trans hW hW8
              obtain ⟨a0, a1, a2, a3⟩ := (hB.bel hW6) i hlt
              obtain ⟨c0, c1, c2, c3⟩ := (hB.bel hW6) k hlt2
              haveI := belBy_some wr
              have y0 := belBy_cell a0
              have y1 := belBy_cell a1
              have y2 := belBy_cell a2
              have y3 := belBy_cell a3
              have u0 := belBy_cell c0
              have u1 := belBy_cell c1
              have u2 := belBy_cell c2
              have u3 := belBy_cell c3
              have mi := chk_may (B i)
              have mk := chk_may (B k)
              have hci := fun W => xCheck_any (B i).1 (B i).2.1 (B i).2.2.1 (B i).2.2.2 W
              have hck := fun W => xCheck_any (B k).1 (B k).2.1 (B k).2.2.1 (B k).2.2.2 W
              have hov := fun W => xOver_any (B i).1 (B i).2.1 (B i).2.2.1 (B i).2.2.2 (B k).1 (B k).2.1 (B k).2.2.1 (B k).2.2.2 W
              have hoe : bOver (B i).1 (B i).2.1 (B i).2.2.1 (B i).2.2.2 (B k).1 (B k).2.1 (B k).2.2.1 (B k).2.2.2 = ovO (B i) (B k) := rfl
              rw [hoe] at hov
              clear hoe
              obtain ⟨x1, hx1⟩ : ∃ c, chkN (bChk (B i).1 (B i).2.1 (B i).2.2.1 (B i).2.2.2) = c := ⟨_, rfl⟩
              obtain ⟨x2, hx2⟩ : ∃ c, chkN (bChk (B k).1 (B k).2.1 (B k).2.2.1 (B k).2.2.2) = c := ⟨_, rfl⟩
              rw [hx1] at mi hci
              rw [hx2] at mk hck
              clear hx1 hx2
              have hme : meO (B i) (B k) = (mayO (B i) && mayO (B k) && ovO (B i) (B k)) := rfl
              obtain ⟨m1, hm1⟩ : ∃ m, mayO (B i) = m := ⟨_, rfl⟩
              obtain ⟨m2, hm2⟩ : ∃ m, mayO (B k) = m := ⟨_, rfl⟩
              obtain ⟨o, hoo⟩ : ∃ m, ovO (B i) (B k) = m := ⟨_, rfl⟩
              rw [hm1] at mi hme
              rw [hm2] at mk hme
              rw [hoo] at hov hme
              clear hm1 hm2 hoo
              have hd : decide (i < k) = true := decide_eq_true hik
              cases m1 with
              | false =>
                have HNN : Hid ((decide (i < k) && meO (B i) (B k)) = false) := (show _ = _ from by rw [hme, hd]; rfl)
                have m0 : ¬ x1 = 0 := fun h => by rw [h] at mi; cases mi
                clear hme hd mk
                go_wp2
                refine wp_region_quiet_bel (by kernel_rfl) (by kernel_rfl) ?_
                repeat (go_big_quiet_step (first | (go_at_call 20; first | (with_reducible exact calls_bel (hci _)) | (with_reducible exact calls_bel (hck _))) | (go_at_call 21; (with_reducible exact calls_bel (hov _)))))
                refine wpQuiet_nil ?_
                rintro _ ⟨nq, rfl⟩
                have hb9 := nq.h
                clear y0 y1 y2 y3 u0 u1 u2 u3 this a0 a1 a2 a3 c0 c1 c2 c3
                obtain ⟨w9, hw9⟩ : ∃ x, x = nq.world := ⟨_, rfl⟩
                rw [← hw9] at hb9
                rw [← hw9]
                clear hw9 nq
                have hW9 := bl_trans hW8 hb9
                go_wp2
                go_roundg (n - (k + 1))
                case measure => omega
                case rel => exact ⟨k + 1, a, by go_num, rfl, by omega, by omega, Nat.le_refl _, hW9, (show _ = _ from by rw [rowB_no (p := fun i k => decide (i < k)) HNN.out]; exact ha.out)⟩
              | true =>
                have m0 : x1 = 0 := by simpa using mi
                subst m0
                clear mi
                cases m2 with
                | false =>
                  have HNN : Hid ((decide (i < k) && meO (B i) (B k)) = false) := (show _ = _ from by rw [hme, hd]; rfl)
                  have m0 : ¬ x2 = 0 := fun h => by rw [h] at mk; cases mk
                  clear hme hd
                  go_wp2
                  refine wp_region_quiet_bel (by kernel_rfl) (by kernel_rfl) ?_
                  repeat (go_big_quiet_step (first | (go_at_call 20; first | (with_reducible exact calls_bel (hci _)) | (with_reducible exact calls_bel (hck _))) | (go_at_call 21; (with_reducible exact calls_bel (hov _)))))
                  refine wpQuiet_nil ?_
                  rintro _ ⟨nq, rfl⟩
                  have hb9 := nq.h
                  clear y0 y1 y2 y3 u0 u1 u2 u3 this a0 a1 a2 a3 c0 c1 c2 c3
                  obtain ⟨w9, hw9⟩ : ∃ x, x = nq.world := ⟨_, rfl⟩
                  rw [← hw9] at hb9
                  rw [← hw9]
                  clear hw9 nq
                  have hW9 := bl_trans hW8 hb9
                  go_wp2
                  go_roundg (n - (k + 1))
                  case measure => omega
                  case rel => exact ⟨k + 1, a, by go_num, rfl, by omega, by omega, Nat.le_refl _, hW9, (show _ = _ from by rw [rowB_no (p := fun i k => decide (i < k)) HNN.out]; exact ha.out)⟩
                | true =>
                  have m0 : x2 = 0 := by simpa using mk
                  subst m0
                  clear mk
                  cases o with
                  | false =>
                    have HNN : Hid ((decide (i < k) && meO (B i) (B k)) = false) := (show _ = _ from by rw [hme, hd]; rfl)
                    clear hme hd
                    go_wp2
                    refine wp_region_quiet_bel (by kernel_rfl) (by kernel_rfl) ?_
                    repeat (go_big_quiet_step (first | (go_at_call 20; first | (with_reducible exact calls_bel (hci _)) | (with_reducible exact calls_bel (hck _))) | (go_at_call 21; (with_reducible exact calls_bel (hov _)))))
                    refine wpQuiet_nil ?_
                    rintro _ ⟨nq, rfl⟩
                    have hb9 := nq.h
                    clear y0 y1 y2 y3 u0 u1 u2 u3 this a0 a1 a2 a3 c0 c1 c2 c3
                    obtain ⟨w9, hw9⟩ : ∃ x, x = nq.world := ⟨_, rfl⟩
                    rw [← hw9] at hb9
                    rw [← hw9]
                    clear hw9 nq
                    have hW9 := bl_trans hW8 hb9
                    go_wp2
                    go_roundg (n - (k + 1))
                    case measure => omega
                    case rel => exact ⟨k + 1, a, by go_num, rfl, by omega, by omega, Nat.le_refl _, hW9, (show _ = _ from by rw [rowB_no (p := fun i k => decide (i < k)) HNN.out]; exact ha.out)⟩
                  | true =>
                    have fp : ((fun i k => decide (i < k) : Nat → Nat → Bool) i k && meO (B i) (B k)) = true := by show (decide (i < k) && _) = true; rw [hme, hd]; rfl
                    have HFP : Hid _ := fp
                    clear hme hd fp
                    go_wp2
                    refine wp_region_quiet_bel (by kernel_rfl) (by kernel_rfl) ?_
                    repeat (go_big_quiet_step (first | (go_at_call 20; first | (with_reducible exact calls_bel (hci _)) | (with_reducible exact calls_bel (hck _))) | (go_at_call 21; (with_reducible exact calls_bel (hov _)))))
                    refine wpQuiet_nil ?_
                    rintro _ ⟨nq, rfl⟩
                    have hb9 := nq.h
                    clear y0 y1 y2 y3 u0 u1 u2 u3 this a0 a1 a2 a3 c0 c1 c2 c3
                    obtain ⟨w9, hw9⟩ : ∃ x, x = nq.world := ⟨_, rfl⟩
                    rw [← hw9] at hb9
                    rw [← hw9]
                    clear hw9 nq
                    have hW9 := bl_trans hW8 hb9
                    have fp := HFP.out
                    have ep1 : R[a]? = some (i, k) := by rw [EP.out]; exact allB_at hlt hlt2 fp ha.out
                    have q1 := at_lt ep1
                    rw [HNP.out] at q1
                    obtain ⟨gp, op, hsp, hPp⟩ := HPS.out a _ ep1
                    subst hsp
                    obtain ⟨z3, z4⟩ := (hPp.bel (bl_trans hW hW9)) a _ ep1
                    have p1z : ¬ (NP : Int) ≤ (a : Int) := by omega
                    have p1y : (a : Int) < (NP : Int) := by omega
                    have hwa : IntKind.wrap .i64 ((a : Int) + 1) = (a : Int) + 1 := by rw [IntKind.wrap_i64]; omega
                    have ha' : Hid (a + 1 = (allB B B (fun i k => decide (i < k)) n i).length + (rowB B B (fun i k => decide (i < k)) (k + 1) i).length) := (show _ = _ from by rw [rowB_yes (p := fun i k => decide (i < k)) fp, List.length_append, ha.out]; rfl)
                    clear fp ep1 hPp
                    go_wp2
                    go_roundg (n - (k + 1))
                    case measure => omega
                    case rel => exact ⟨k + 1, a + 1, by go_num, by go_num, by omega, by omega, Nat.le_refl _, hW9, ha'⟩
            · have hlt2z : ¬ (k : Int) < (n : Int) := by omega
              have hkk : k = n := by omega
              have ha' : Hid (a = (allB B B (fun i k => decide (i < k)) n (i + 1)).length) := (show _ = _ from by rw [allB, List.length_append, ha.out, hkk])
              clear hkk
              go_wp2
              go_roundg (n - (i + 1))
              case measure => omega
              case rel => exact ⟨i + 1, a, by go_num, rfl, by omega, Nat.le_refl _, bl_trans hW hW8, ha'⟩
        · have hltz : ¬ (i : Int) < (n : Int) := by omega
          have hii : i = n := by omega
          have haN : a = NP := by rw [ha.out, ← HNP.out, EP.out, hii]
          subst haN
          go_wp2
          go_ret
          exact ⟨by first | rfl | simp, bw_trans K6 hW.1⟩
    | true =>
      rw [h2] at g2 l2
      rw [if_pos rfl] at g2 l2
      simp only [g2, l2] at hp2
      clear g2 l2 h2
      go_enter Tryz.func6, Tryz.ntmps6
      go_upto_region 15 with (first | (go_at_call 7; (with_reducible refine (alive14_s _).mono ?_); rintro e w1 ⟨rfl, hb1⟩; have hA1 := hA.below hb1) | (go_at_call 9; first | ((with_reducible refine (hp1 w1 hA1).mono ?_); rintro e w2 ⟨v2, rfl, hO2, hz2, hb2⟩; have hA2 := hA1.below hb2; have K2 := bw_trans hb1 hb2) | ((with_reducible refine (hp2 w2 hA2).mono ?_); rintro e w3 ⟨v3, rfl, hO3, hz3, hb3⟩; have hA3 := hA2.below hb3; have K3 := bw_trans K2 hb3)) | (go_at_call 19; (with_reducible refine (hp3 w3 hA3).mono ?_); rintro e w4 ⟨v4, rfl, hO4, hz4, hb4⟩; have hA4 := hA3.below hb4; have K4 := bw_trans K3 hb4; have p2 : PRow w4 (v2) R := (own_prow hO2).below (bw_trans hb3 hb4); have p3 : PRow w4 (v3) R := (own_prow hO3).below hb4; have p4 : PRow w4 v4 R := own_prow hO4) | (go_at_call 11; first | ((with_reducible refine (sameP_s R v2 v3 w4 p2 p3 HLR.out).mono ?_); rintro e w5 ⟨rfl, hb5⟩; have hA5 := hA4.below hb5.1; have K5 := bw_trans K4 hb5.1; replace p2 := p2.below hb5.1; replace p4 := p4.below hb5.1) | ((with_reducible refine (sameP_s R v2 v4 w5 p2 p4 HLR.out).mono ?_); rintro e w6 ⟨rfl, hb6⟩; have hA6 := hA5.below hb6.1; have K6 := bw_trans K5 hb6.1; replace p2 := p2.below hb6.1)))
      obtain ⟨NP, hNP⟩ : ∃ N, R.length = N := ⟨_, rfl⟩
      obtain ⟨sp, cp, hvp, hPs⟩ := read_p p2 hNP
      subst hvp
      rw [hNP] at lP
      have HNP : Hid (R.length = NP) := hNP
      have HPS : Hid _ := hPs
      clear hNP hPs p2 p3 p4 hO2 hO3 hO4 hz2 hz3 hz4 hp1 hp2 hp3
      go_wp2
      go_loopg [16, 17] n (fun kx s16 s17 wr => ∃ i a : Nat, s17 = .int .i64 i ∧ s16 = .int .i64 a ∧ i ≤ n ∧ n - i ≤ kx ∧ Bel w6 wr ∧ Hid (a = (allB B B (fun i k => decide (i < k)) n i).length))
      case atStart => exact ⟨0, 0, rfl, rfl, by omega, by omega, bl_refl _, rfl⟩
      case round =>
        obtain ⟨i, a, rfl, rfl, hin, hkx, hW, ha⟩ := hrel
        by_cases hlt : i < n
        · have hltz : (i : Int) < (n : Int) := by omega
          have hwk : IntKind.wrap .i64 ((i : Int) + 1) = (i : Int) + 1 := by rw [IntKind.wrap_i64]; omega
          obtain ⟨b, off, hsa, hB, hb0⟩ : ∃ b off, sa = some ⟨b, off, none⟩ ∧ Bs w6 b off n B ∧ b < w6.heap.size := by
            rcases hA6 with h0 | h0
            · omega
            · exact h0
          clear hA hA1 hA2 hA3 hA4 hA5 hA6
          subst hsa
          obtain ⟨wo, hwo⟩ : ∃ X, X = wr := ⟨_, rfl⟩
          subst hwo
          go_wp2
          go_loopg [16, 18] n (fun kx s16 s18 wr => ∃ k a : Nat, s18 = .int .i64 k ∧ s16 = .int .i64 a ∧ k ≤ n ∧ i < k ∧ n - k ≤ kx ∧ Bel wo wr ∧ Hid (a = (allB B B (fun i k => decide (i < k)) n i).length + (rowB B B (fun i k => decide (i < k)) k i).length))
          case atStart => exact ⟨i + 1, a, by go_num, rfl, by omega, by omega, by omega, bl_refl _, (show _ = _ from by rw [ha.out, rowB_low (Nat.le_refl _)]; rfl)⟩
          case round =>
            clear ha
            obtain ⟨k, a, rfl, rfl, hkn, hik, hkx2, hW8, ha⟩ := hrel
            by_cases hlt2 : k < n
            · have hlt2z : (k : Int) < (n : Int) := by omega
              have hwk2 : IntKind.wrap .i64 ((k : Int) + 1) = (k : Int) + 1 := by rw [IntKind.wrap_i64]; omega
              have hW6 := bl_trans hW hW8
              obtain ⟨a0, a1, a2, a3⟩ := (hB.bel hW6) i hlt
              obtain ⟨c0, c1, c2, c3⟩ := (hB.bel hW6) k hlt2
              haveI := belBy_some wr
              have y0 := belBy_cell a0
              have y1 := belBy_cell a1
              have y2 := belBy_cell a2
              have y3 := belBy_cell a3
              have u0 := belBy_cell c0
              have u1 := belBy_cell c1
              have u2 := belBy_cell c2
              have u3 := belBy_cell c3
              have mi := chk_may (B i)
              have mk := chk_may (B k)
              have hci := fun W => xCheck_any (B i).1 (B i).2.1 (B i).2.2.1 (B i).2.2.2 W
              have hck := fun W => xCheck_any (B k).1 (B k).2.1 (B k).2.2.1 (B k).2.2.2 W
              have hov := fun W => xOver_any (B i).1 (B i).2.1 (B i).2.2.1 (B i).2.2.2 (B k).1 (B k).2.1 (B k).2.2.1 (B k).2.2.2 W
              have hoe : bOver (B i).1 (B i).2.1 (B i).2.2.1 (B i).2.2.2 (B k).1 (B k).2.1 (B k).2.2.1 (B k).2.2.2 = ovO (B i) (B k) := rfl
              rw [hoe] at hov
              clear hoe
              obtain ⟨x1, hx1⟩ : ∃ c, chkN (bChk (B i).1 (B i).2.1 (B i).2.2.1 (B i).2.2.2) = c := ⟨_, rfl⟩
              obtain ⟨x2, hx2⟩ : ∃ c, chkN (bChk (B k).1 (B k).2.1 (B k).2.2.1 (B k).2.2.2) = c := ⟨_, rfl⟩
              rw [hx1] at mi hci
              rw [hx2] at mk hck
              clear hx1 hx2
              have hme : meO (B i) (B k) = (mayO (B i) && mayO (B k) && ovO (B i) (B k)) := rfl
              obtain ⟨m1, hm1⟩ : ∃ m, mayO (B i) = m := ⟨_, rfl⟩
              obtain ⟨m2, hm2⟩ : ∃ m, mayO (B k) = m := ⟨_, rfl⟩
              obtain ⟨o, hoo⟩ : ∃ m, ovO (B i) (B k) = m := ⟨_, rfl⟩
              rw [hm1] at mi hme
              rw [hm2] at mk hme
              rw [hoo] at hov hme
              clear hm1 hm2 hoo
              have hd : decide (i < k) = true := decide_eq_true hik
              cases m1 with
              | false =>
                have HNN : Hid ((decide (i < k) && meO (B i) (B k)) = false) := (show _ = _ from by rw [hme, hd]; rfl)
                have m0 : ¬ x1 = 0 := fun h => by rw [h] at mi; cases mi
                clear hme hd mk
                go_wp2
                refine wp_region_quiet_bel (by kernel_rfl) (by kernel_rfl) ?_
                repeat (go_big_quiet_step (first | (go_at_call 20; first | (with_reducible exact calls_bel (hci _)) | (with_reducible exact calls_bel (hck _))) | (go_at_call 21; (with_reducible exact calls_bel (hov _)))))
                refine wpQuiet_nil ?_
                rintro _ ⟨nq, rfl⟩
                have hb9 := nq.h
                clear y0 y1 y2 y3 u0 u1 u2 u3 this a0 a1 a2 a3 c0 c1 c2 c3
                obtain ⟨w9, hw9⟩ : ∃ x, x = nq.world := ⟨_, rfl⟩
                rw [← hw9] at hb9
                rw [← hw9]
                clear hw9 nq
                have hW9 := bl_trans hW8 hb9
                go_wp2
                go_roundg (n - (k + 1))
                case measure => omega
                case rel => exact ⟨k + 1, a, by go_num, rfl, by omega, by omega, Nat.le_refl _, hW9, (show _ = _ from by rw [rowB_no (p := fun i k => decide (i < k)) HNN.out]; exact ha.out)⟩
              | true =>
                have m0 : x1 = 0 := by simpa using mi
                subst m0
                clear mi
                cases m2 with
                | false =>
                  have HNN : Hid ((decide (i < k) && meO (B i) (B k)) = false) := (show _ = _ from by rw [hme, hd]; rfl)
                  have m0 : ¬ x2 = 0 := fun h => by rw [h] at mk; cases mk
                  clear hme hd
                  go_wp2
                  refine wp_region_quiet_bel (by kernel_rfl) (by kernel_rfl) ?_
                  repeat (go_big_quiet_step (first | (go_at_call 20; first | (with_reducible exact calls_bel (hci _)) | (with_reducible exact calls_bel (hck _))) | (go_at_call 21; (with_reducible exact calls_bel (hov _)))))
                  refine wpQuiet_nil ?_
                  rintro _ ⟨nq, rfl⟩
                  have hb9 := nq.h
                  clear y0 y1 y2 y3 u0 u1 u2 u3 this a0 a1 a2 a3 c0 c1 c2 c3
                  obtain ⟨w9, hw9⟩ : ∃ x, x = nq.world := ⟨_, rfl⟩
                  rw [← hw9] at hb9
                  rw [← hw9]
                  clear hw9 nq
                  have hW9 := bl_trans hW8 hb9
                  go_wp2
                  go_roundg (n - (k + 1))
                  case measure => omega
                  case rel => exact ⟨k + 1, a, by go_num, rfl, by omega, by omega, Nat.le_refl _, hW9, (show _ = _ from by rw [rowB_no (p := fun i k => decide (i < k)) HNN.out]; exact ha.out)⟩
                | true =>
                  have m0 : x2 = 0 := by simpa using mk
                  subst m0
                  clear mk
                  cases o with
                  | false =>
                    have HNN : Hid ((decide (i < k) && meO (B i) (B k)) = false) := (show _ = _ from by rw [hme, hd]; rfl)
                    clear hme hd
                    go_wp2
                    refine wp_region_quiet_bel (by kernel_rfl) (by kernel_rfl) ?_
                    repeat (go_big_quiet_step (first | (go_at_call 20; first | (with_reducible exact calls_bel (hci _)) | (with_reducible exact calls_bel (hck _))) | (go_at_call 21; (with_reducible exact calls_bel (hov _)))))
                    refine wpQuiet_nil ?_
                    rintro _ ⟨nq, rfl⟩
                    have hb9 := nq.h
                    clear y0 y1 y2 y3 u0 u1 u2 u3 this a0 a1 a2 a3 c0 c1 c2 c3
                    obtain ⟨w9, hw9⟩ : ∃ x, x = nq.world := ⟨_, rfl⟩
                    rw [← hw9] at hb9
                    rw [← hw9]
                    clear hw9 nq
                    have hW9 := bl_trans hW8 hb9
                    go_wp2
                    go_roundg (n - (k + 1))
                    case measure => omega
                    case rel => exact ⟨k + 1, a, by go_num, rfl, by omega, by omega, Nat.le_refl _, hW9, (show _ = _ from by rw [rowB_no (p := fun i k => decide (i < k)) HNN.out]; exact ha.out)⟩
                  | true =>
                    have fp : ((fun i k => decide (i < k) : Nat → Nat → Bool) i k && meO (B i) (B k)) = true := by show (decide (i < k) && _) = true; rw [hme, hd]; rfl
                    have HFP : Hid _ := fp
                    clear hme hd fp
                    go_wp2
                    refine wp_region_quiet_bel (by kernel_rfl) (by kernel_rfl) ?_
                    repeat (go_big_quiet_step (first | (go_at_call 20; first | (with_reducible exact calls_bel (hci _)) | (with_reducible exact calls_bel (hck _))) | (go_at_call 21; (with_reducible exact calls_bel (hov _)))))
                    refine wpQuiet_nil ?_
                    rintro _ ⟨nq, rfl⟩
                    have hb9 := nq.h
                    clear y0 y1 y2 y3 u0 u1 u2 u3 this a0 a1 a2 a3 c0 c1 c2 c3
                    obtain ⟨w9, hw9⟩ : ∃ x, x = nq.world := ⟨_, rfl⟩
                    rw [← hw9] at hb9
                    rw [← hw9]
                    clear hw9 nq
                    have hW9 := bl_trans hW8 hb9
                    have fp := HFP.out
                    have ep1 : R[a]? = some (i, k) := by rw [EP.out]; exact allB_at hlt hlt2 fp ha.out
                    have q1 := at_lt ep1
                    rw [HNP.out] at q1
                    obtain ⟨gp, op, hsp, hPp⟩ := HPS.out a _ ep1
                    subst hsp
                    obtain ⟨z3, z4⟩ := (hPp.bel (bl_trans hW hW9)) a _ ep1
                    have p1z : ¬ (NP : Int) ≤ (a : Int) := by omega
                    have p1y : (a : Int) < (NP : Int) := by omega
                    have hwa : IntKind.wrap .i64 ((a : Int) + 1) = (a : Int) + 1 := by rw [IntKind.wrap_i64]; omega
                    have ha' : Hid (a + 1 = (allB B B (fun i k => decide (i < k)) n i).length + (rowB B B (fun i k => decide (i < k)) (k + 1) i).length) := (show _ = _ from by rw [rowB_yes (p := fun i k => decide (i < k)) fp, List.length_append, ha.out]; rfl)
                    clear fp ep1 hPp
                    go_wp2
                    go_roundg (n - (k + 1))
                    case measure => omega
                    case rel => exact ⟨k + 1, a + 1, by go_num, by go_num, by omega, by omega, Nat.le_refl _, hW9, ha'⟩
            · have hlt2z : ¬ (k : Int) < (n : Int) := by omega
              have hkk : k = n := by omega
              have ha' : Hid (a = (allB B B (fun i k => decide (i < k)) n (i + 1)).length) := (show _ = _ from by rw [allB, List.length_append, ha.out, hkk])
              clear hkk
              go_wp2
              go_roundg (n - (i + 1))
              case measure => omega
              case rel => exact ⟨i + 1, a, by go_num, rfl, by omega, Nat.le_refl _, bl_trans hW hW8, ha'⟩
        · have hltz : ¬ (i : Int) < (n : Int) := by omega
          have hii : i = n := by omega
          have haN : a = NP := by rw [ha.out, ← HNP.out, EP.out, hii]
          subst haN
          go_wp2
          go_ret
          exact ⟨by first | rfl | simp, bw_trans K6 hW.1⟩
  · have hnz : (200 : Int) < (n : Int) := by omega
    go_enter Tryz.func6, Tryz.ntmps6
    go_wp2_with (first | (go_at_call 7; (with_reducible refine (alive14_s _).mono ?_); rintro e w1 ⟨rfl, hb1⟩; have hA1 := hA.below hb1))
    go_ret
    exact ⟨rfl, hb1⟩

/-- a row of boxes: none, or len of them in cells, with room for cap -/
def IsBoxes (w : World) (a : Option Addr) (len cap : Nat) : Prop :=
  (a = none ∧ len = 0 ∧ cap = 0) ∨ ∃ (x : Addr) (B : Nat → Bo), a = some x ∧ len ≤ cap ∧ cap ≤ maxLen ∧ len * 32 ≤ 140737488351232 ∧ ∀ i, i < len → w.cell? (x.add (i * 4)) = some (.float .f64 (B i).1) ∧ w.cell? (x.add (i * 4 + 1)) = some (.float .f64 (B i).2.1) ∧ w.cell? (x.add (i * 4 + 2)) = some (.float .f64 (B i).2.2.1) ∧ w.cell? (x.add (i * 4 + 3)) = some (.float .f64 (B i).2.2.2) ∧ okK .f64 (B i).1 ∧ okK .f64 (B i).2.1 ∧ okK .f64 (B i).2.2.1 ∧ okK .f64 (B i).2.2.2
theorem any_of {w : World} {a : Option Addr} {len cap : Nat} (h : IsBoxes w a len cap) : ∃ B, AnyB w a len B ∧ len * 32 ≤ 140737488351232 ∧ ∀ i, i < len → okK .f64 (B i).1 ∧ okK .f64 (B i).2.1 ∧ okK .f64 (B i).2.2.1 ∧ okK .f64 (B i).2.2.2 := by
  rcases h with ⟨rfl, rfl, rfl⟩ | ⟨x, B, rfl, hl, hm, hr, hcell⟩
  · exact ⟨fun _ => (0, 0, 0, 0), .inl rfl, by omega, fun i hi => by omega⟩
  · refine ⟨B, ?_, hr, fun i hi => (hcell i hi).2.2.2.2⟩
    rcases Nat.eq_zero_or_pos len with h0 | h0
    · exact .inl h0
    · right
      obtain ⟨b, off, spot⟩ := x
      have hspot : spot = none := by simpa [Addr.add] using World.cell?_spot (hcell 0 h0).1
      subst hspot
      have hc0 := (hcell 0 h0).1
      rw [add_plain] at hc0
      refine ⟨b, off, rfl, fun i hi => ?_, World.block_lt_of_cell? _ _ hc0⟩
      obtain ⟨h1, h2, h3, h4, _⟩ := hcell i hi
      rw [add_plain] at h1 h2 h3 h4
      rw [← Nat.add_assoc] at h2 h3 h4
      exact ⟨h1, h2, h3, h4⟩
theorem walk (a0 : Option Addr) (len0 cap0 : Nat) (s1 : Nat) (os1 : okK .f64 s1) (s2 : Nat) (os2 : okK .f64 s2) (w : World) (h0 : IsBoxes w a0 len0 cap0) :
    Calls Tryz.prog 6 #[.slice a0 len0 cap0, .float .f64 s1, .float .f64 s2] w fun e w' => e = .returned (.bool true) ∧ Below w.heap.size w w' := by
  obtain ⟨B0, g0, r0, o0⟩ := any_of h0
  exact walk_any a0 len0 cap0 B0 s1 os1 s2 os2 w g0 r0 o0

set_option maxRecDepth 100000 in
theorem lifted (os : Os) (started : os.Started) (H : Type) (enc : TypeId × Value → H) :
    ReturnsInHanded {} Tryz.checked os 6 .any (Rows.gridAnySpec.pre6 enc Tryz.prog Tryz.f6 Rows.gridAnyRow.domain false) (Rows.gridAnySpec.post enc Tryz.prog Tryz.f6 false true false false) := by
  refine returnsInHanded_of_change_sized (C := Tryz.checked) own started (by kernel_rfl) Tryz.func6
    (ChangeSpec.witness6 (enc := enc) (C := Tryz.checked) false ⟨#[], #[.slice none 0 0, .float .f64 0, .float .f64 0], []⟩ 8 (by kernel_rfl) (by kernel_rfl) (by kernel_rfl) (by kernel_rfl)) ?_
  intro W base args ds gs before hval0 hW hcnd hsz0 _
  have hsz : (DataW.weightsEach Tryz.prog (Tryz.f6.params.toList ++ Rows.gridAnySpec.plain.varTypes Tryz.prog) (ds ++ gs)).all (· ≤ reachBytes) = true := hsz0
  have hval : ∀ (j : Nat) t v, Tryz.f6.params[j]? = some t → args[j]? = some v → Value.okWide Tryz.prog W .any base t v := hval0
  have hW' := hW
  obtain ⟨p, q, hA0, hV, rfl, hfz, hnd⟩ := hW
  have hA : DataW.TrodAll enc Tryz.prog W 0 (fun _ => true) true Tryz.f6.params.toList args.toList ds p := hA0
  rw [Tryz.params6] at hA hval hsz
  obtain ⟨v0, vs0, d0, ds0, p0, q0, hargs, rfl, rfl, h0, r0⟩ := trodAll_cons hA
  obtain ⟨v1, vs1, d1, ds1, p1, q1, rfl, rfl, rfl, h1, r1⟩ := trodAll_cons r0
  obtain ⟨v2, vs2, d2, ds2, p2, q2, rfl, rfl, rfl, h2, r2⟩ := trodAll_cons r1
  obtain ⟨rfl, rfl, rfl⟩ := trodAll_nil r2
  obtain rfl : args = #[v0, v1, v2] := by cases args; simp_all
  obtain ⟨rfl, rfl⟩ := trodVars_none hV
  obtain ⟨a0, len0, cap0, rfl⟩ := okWide_slice Tryz.underlying22 (hval 0 22 v0 rfl rfl)
  obtain ⟨s1, rfl, rfl, rfl, ws1⟩ := open_float Tryz.underlying23 (hval 1 23 v1 rfl rfl) h1
  obtain ⟨s2, rfl, rfl, rfl, ws2⟩ := open_float Tryz.underlying23 (hval 2 23 v2 rfl rfl) h2
  have k0 := h0
  have lt0 : ∀ x ∈ p0, x.block < W.heap.size := by obtain ⟨m, hm⟩ := k0; exact DataW.trod_lt m _ _ _ hm
  have w0 : IsBoxes W a0 len0 cap0 := by
    obtain ⟨fuel, hf⟩ := h0
    rcases Go.Deep.open_slice Tryz.underlying22 hf with ⟨hcs, _⟩ | ⟨x, l, c, m, n, D, Pl, hcs, _, hl, hm, hmm, hx, hcell⟩
    · simp [Value.cells] at hcs
      exact .inl hcs
    · simp [Value.cells] at hcs
      obtain ⟨rfl, rfl, rfl⟩ := hcs
      simp only [Prod.mk.injEq] at hx
      obtain ⟨rfl, rfl⟩ := hx
      have hr := sized_slice hsz (j := 0) (t := 22) (e := 37) rfl rfl Tryz.underlying22
      rw [show Tryz.prog.bytesOf 37 = 32 by kernel_rfl] at hr
      simp only [List.length_map, List.length_range, reachBytes] at hr
      have hlm : len0 ≤ m := by rw [hmm]; split <;> omega
      have V : ∀ i, ∃ q : Nat × Nat × Nat × Nat, i < m → W.cell? (x.add (i * 4)) = some (.float .f64 q.1) ∧ W.cell? (x.add (i * 4 + 1)) = some (.float .f64 q.2.1) ∧ W.cell? (x.add (i * 4 + 2)) = some (.float .f64 q.2.2.1) ∧ W.cell? (x.add (i * 4 + 3)) = some (.float .f64 q.2.2.2) ∧ okK .f64 q.1 ∧ okK .f64 q.2.1 ∧ okK .f64 q.2.2.1 ∧ okK .f64 q.2.2.2 := by
        intro i
        by_cases hi : i < m
        · obtain ⟨cs', h1, h2⟩ := hcell i hi
          rw [cellsM] at h1
          obtain ⟨_, hlen, hce⟩ := World.cells?_some h1
          obtain ⟨y0, y1, n', hx', _, g0, g1⟩ := trod_struct2 Tryz.underlying37 h2
          match cs', hlen with
          | [v0, v1, v2, v3], _ =>
            simp [cellsV] at g0 g1
            obtain ⟨z0, z1, n2, hz, _, g4, g5⟩ := trod_struct2 Tryz.underlying35 g0
            obtain ⟨z2, z3, n3, hz3, _, g6, g7⟩ := trod_struct2 Tryz.underlying35 g1
            simp [cellsF] at g4 g5 g6 g7
            obtain ⟨a, e0, _, wa⟩ := trod_fl Tryz.underlying23 g4
            obtain ⟨b, e1, _, wb⟩ := trod_fl Tryz.underlying23 g5
            obtain ⟨c, e2, _, wc⟩ := trod_fl Tryz.underlying23 g6
            obtain ⟨d, e3, _, wd⟩ := trod_fl Tryz.underlying23 g7
            simp at e0 e1 e2 e3
            subst e0 e1 e2 e3
            have q0 := hce 0 (by omega)
            have q1 := hce 1 (by omega)
            have q2 := hce 2 (by omega)
            have q3 := hce 3 (by omega)
            rw [Go.Deep.add_add] at q0 q1 q2 q3
            exact ⟨(a, b, c, d), fun _ => ⟨by simpa using q0, by simpa using q1, by simpa using q2, by simpa using q3, wf_f64 wa, wf_f64 wb, wf_f64 wc, wf_f64 wd⟩⟩
        · exact ⟨(0, 0, 0, 0), fun h => absurd h hi⟩
      have V' := Classical.axiomOfChoice V
      obtain ⟨f, hf'⟩ := V'
      exact .inr ⟨x, f, rfl, hl, hm, by omega, fun i hi => hf' i (by omega)⟩
  clear hA0 hval0 hsz0
  refine (walk a0 len0 cap0 s1 (wf_f64 ws1) s2 (wf_f64 ws2) W w0).mono fun e W' ⟨he, bel0⟩ => ?_
  have bel := bel0
  subst he
  exact ⟨_, rfl, _, _, _, [], _, [], hW', trodAll_mk1 (shut_bool Tryz.underlying4 _), (trodAll_cons_mk (Below.trod laidOut (by kernel_rfl) (of_decide_eq_true (by kernel_rfl)) k0 bel lt0) (trodAll_cons_mk (shut_float Tryz.underlying23 ws1) (trodAll_cons_mk (shut_float Tryz.underlying23 ws2) trodAll_mk0))), rfl, bel.frame _, fun h => by cases h⟩

theorem over : Rows.gridAnyRow.holds Tryz.pinned (OpenSpec.ofChange Rows.gridAnySpec) :=
  OpenClaim.holds_of_wide 6 Tryz.f6 rfl rfl rfl rfl rfl rfl rfl ⟨rfl, rfl, rfl, rfl, rfl⟩ rfl rfl rfl rfl rfl (by kernel_rfl) Tryz.func6 (by kernel_rfl)
    (of_decide_eq_true (by kernel_rfl)) (by unfold Func.isWrapper; first | (rw [if_pos (by decide +kernel)]; kernel_rfl) | (rw [if_neg (by decide +kernel)]; exact ⟨rfl, rfl⟩))
    (fun os started H enc _ => lifted os started H enc)

theorem proved : Rows.GridAnySaid :=
  over
#print axioms proved
end Go.Proofs.YtekhnolpgoejdaaGreat.gridAny
