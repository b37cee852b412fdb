/-
  'tumblelaw13.SweepAll' is true of all rows of boxes.
-/
import Derived.Test.YtkkncipimbpkkaaRows
import Derived.Test.YtkkncipimbpkkaaSwx
import Derived.Test.YtkkncipimbpkkaaSwam
import Derived.WalkKit
import Derived.ProofKit
import Derived.OpenShut
import Derived.WalkLawsBesides
import Derived.WalkSpells
import Derived.Lib.SmallJoins
import Derived.Laws.Cover2
import Derived.Laws.AppendOwn
import Derived.Laws.OwnMore
import Derived.Laws.AppendOwnNone
import Derived.Deep.RegionHeld3
import Derived.Deep.RegionWith
import Derived.Deep.SlicePairs
import Derived.Deep.Strs
import Derived.SizedLaws
import Derived.Below
import Derived.Deep.DeepCutAuto
import Derived.Laws.StructEq
namespace Go.Proofs.Ytkkncipimbpkkaa.sweepAll
open Go.ChangeShapes Go.WideShapes Go.ChangeAt Go.RowKit Go.Joins Go.Sort
set_option linter.unusedVariables false
set_option linter.unusedSimpArgs false

theorem own : ownKnob Try.prog.godebug = none := by kernel_rfl
theorem laidOut : laidOutB Try.prog = true := by kernel_rfl
theorem wf_f64 {x : Nat} (h : (Lit.float .f64 x).wf = true) : okK .f64 x := by
  rw [okK64]; simpa [Lit.wf] using h
theorem trod_fl {H : Type} {enc : TypeId × Value → H} {P : Program} {w : World} {base fuel : Nat} {spare : Nat → Bool} {held : Bool} {t : TypeId} {cs : List Value} {x : DataW H × List MemPlace} {k : FloatKind} (ht : P.underlying t = some (.float k)) (h : DataW.trod enc P w base spare held fuel t cs = some x) : ∃ z, cs = [.float k z] ∧ x = (.lit (.float k z), []) ∧ (Lit.float k z).wf = true := by
  cases fuel with
  | zero => simp [DataW.trod] at h
  | succ n =>
    unfold DataW.trod at h
    rw [ht] at h
    split at h <;> simp_all

theorem cellsV : Try.prog.cellsOf 25 = 2 := by kernel_rfl
theorem cellsM : Try.prog.cellsOf 27 = 4 := by kernel_rfl
theorem cellsF : Try.prog.cellsOf 23 = 1 := by kernel_rfl

theorem read_p {w : World} {v : Value} {L : List (Nat × Nat)} (h : PRow w v L) {N : Nat} (hN : L.length = N) : ∃ sa cap, v = .slice sa N cap ∧ ∀ (t : Nat) (x : Nat × Nat), L[t]? = some x → ∃ g o, sa = some ⟨g, o, none⟩ ∧ Ps w g o L := by
  obtain ⟨sa, cap, e, h⟩ := h
  refine ⟨sa, cap, by rw [← hN]; exact e, fun t x ht => ?_⟩
  rcases h with h | h
  · rw [h] at ht; simp at ht
  · exact h
theorem few (B : Nat → Bo) (n : Nat) (hn : n ≤ 250) : (refP B n).length ≤ 65536 ∧ (refB B B n n).length ≤ 65536 := by
  have h1 := allB_le B B (fun i k => decide (i < k)) n n
  have h2 := allB_le B B (fun _ _ => true) n n
  have h3 : n * n ≤ 250 * 250 := Nat.mul_le_mul hn hn
  unfold refP refB
  omega
set_option maxRecDepth 100000 in
set_option maxHeartbeats 32000000 in
theorem walk_any (sa : Option Addr) (n cap : Nat) (B : Nat → Bo) (w : World) (hA : AnyB w sa n B) (hr : n * 32 ≤ 140737488351232) (ho : ∀ i, i < n → okK .f64 (B i).1 ∧ okK .f64 (B i).2.1 ∧ okK .f64 (B i).2.2.1 ∧ okK .f64 (B i).2.2.2) :
    Calls Try.prog 7 #[.slice sa n cap] w fun e w' => e = .returned (.bool true) ∧ Below w.heap.size w w' := by
  clear ho hr
  by_cases hn4 : 400 < n
  · have hn4z : (400 : Int) < (n : Int) := by omega
    go_enter Try.func7, Try.ntmps7
    go_wp2_with (first | (go_at_call 14; (with_reducible refine (alive_s _).mono ?_); rintro e w1 ⟨rfl, hb1⟩; have hA1 := hA.below hb1))
    go_ret
    exact ⟨rfl, hb1⟩
  have hn4z : ¬ (400 : Int) < (n : Int) := by omega
  obtain ⟨E, hE⟩ : ∃ E, prE n (refP B n) = E := ⟨_, rfl⟩
  obtain ⟨PL, hPL⟩ : ∃ L, prL n (refP B n) = L := ⟨_, rfl⟩
  obtain ⟨F, hF⟩ : ∃ E, prE (max n n) (refB B B n n) = E := ⟨_, rfl⟩
  obtain ⟨QL, hQL⟩ : ∃ L, prL (max n n) (refB B B n n) = L := ⟨_, rfl⟩
  have HE : Hid (prE n (refP B n) = E) := hE
  have HL : Hid (prL n (refP B n) = PL) := hPL
  have HF : Hid (prE (max n n) (refB B B n n) = F) := hF
  have HT : Hid (prL (max n n) (refB B B n n) = QL) := hQL
  clear hE hPL hF hQL
  by_cases hfit : (refP B n).length ≤ 65536 ∧ (refB B B n n).length ≤ 65536
  case neg =>
    have h25 : (250 : Int) < (n : Int) := by
      have : ¬ n ≤ 250 := fun h => hfit (few B n h)
      omega
    have hEF : (E = 0 ∧ F = 4) ∨ E = 4 := by
      have e1 : E = if 65536 < (refP B n).length then 4 else 0 := by rw [← HE.out, prE, if_neg (by omega)]
      have e2 : F = if 65536 < (refB B B n n).length then 4 else 0 := by rw [← HF.out, prE, if_neg (by omega)]
      rw [e1, e2]
      by_cases h1 : 65536 < (refP B n).length
      · exact .inr (by rw [if_pos h1])
      · exact .inl ⟨by rw [if_neg h1], by rw [if_pos (by omega)]⟩
    clear hfit
    rcases hEF with ⟨e1, e2⟩ | e1
    · subst e1 e2
      go_enter Try.func7, Try.ntmps7
      go_wp2_with (first | (go_at_call 14; (with_reducible refine (alive_s _).mono ?_); rintro e w1 ⟨rfl, hb1⟩; have hA1 := hA.below hb1) | (go_at_call 10; (with_reducible refine (pairs_any sa n cap B w1 hA1).mono ?_); rintro e w2 ⟨vp, rfl, hOp, _, hb2⟩; rw [HE.out]; rw [HL.out] at hOp; have L2 := bw_trans hb1 hb2; have hA2 := hA.below L2; have hp := own_prow hOp) | (go_at_call 13; (with_reducible refine (bet_any sa sa n cap n cap B B w2 hA2 hA2).mono ?_); rintro e w3 ⟨vq, rfl, hOq, _, hb3⟩; rw [HF.out]; rw [HT.out] at hOq; have L3 := bw_trans L2 hb3; have hA3 := hA.below L3; replace hp := hp.below hb3; have hq := own_prow hOq))
      go_ret
      exact ⟨rfl, L3⟩
    · subst e1
      go_enter Try.func7, Try.ntmps7
      go_wp2_with (first | (go_at_call 14; (with_reducible refine (alive_s _).mono ?_); rintro e w1 ⟨rfl, hb1⟩; have hA1 := hA.below hb1) | (go_at_call 10; (with_reducible refine (pairs_any sa n cap B w1 hA1).mono ?_); rintro e w2 ⟨vp, rfl, hOp, _, hb2⟩; rw [HE.out]; rw [HL.out] at hOp; have L2 := bw_trans hb1 hb2; have hA2 := hA.below L2; have hp := own_prow hOp) | (go_at_call 13; (with_reducible refine (bet_any sa sa n cap n cap B B w2 hA2 hA2).mono ?_); rintro e w3 ⟨vq, rfl, hOq, _, hb3⟩; rw [HF.out]; rw [HT.out] at hOq; have L3 := bw_trans L2 hb3; have hA3 := hA.below L3; replace hp := hp.below hb3; have hq := own_prow hOq))
      go_ret
      exact ⟨rfl, L3⟩
  case pos =>
    obtain ⟨hf1, hf2⟩ := hfit
    obtain rfl : E = 0 := by rw [← HE.out]; unfold prE; rw [if_neg (by omega), if_neg (by omega)]
    obtain rfl : F = 0 := by rw [← HF.out]; unfold prE; rw [if_neg (by omega), if_neg (by omega)]
    have eP : PL = allB B B (fun i k => decide (i < k)) n n := by rw [← HL.out]; unfold prL; rw [if_neg (by omega), if_neg (by omega)]; rfl
    have eQ : QL = allB B B (fun _ _ => true) n n := by rw [← HT.out]; unfold prL; rw [if_neg (by omega), if_neg (by omega)]; rfl
    have lP : PL.length ≤ 65536 := by rw [eP]; exact hf1
    have lQ : QL.length ≤ 65536 := by rw [eQ]; exact hf2
    have EP : Hid (PL = allB B B (fun i k => decide (i < k)) n n) := eP
    have EQ : Hid (QL = allB B B (fun _ _ => true) n n) := eQ
    clear hf1 hf2 eP eQ
    have qA := fun (a b c e : Int) (w : World) => run_equalIn_arr 9998 a b c e w
    have qG := eqg_pair
    go_enter Try.func7, Try.ntmps7
    go_upto_region 8 with (first | (go_at_call 14; (with_reducible refine (alive_s _).mono ?_); rintro e w1 ⟨rfl, hb1⟩; have hA1 := hA.below hb1) | (go_at_call 10; (with_reducible refine (pairs_any sa n cap B w1 hA1).mono ?_); rintro e w2 ⟨vp, rfl, hOp, _, hb2⟩; rw [HE.out]; rw [HL.out] at hOp; have L2 := bw_trans hb1 hb2; have hA2 := hA.below L2; have hp := own_prow hOp) | (go_at_call 13; (with_reducible refine (bet_any sa sa n cap n cap B B w2 hA2 hA2).mono ?_); rintro e w3 ⟨vq, rfl, hOq, _, hb3⟩; rw [HF.out]; rw [HT.out] at hOq; have L3 := bw_trans L2 hb3; have hA3 := hA.below L3; replace hp := hp.below hb3; have hq := own_prow hOq))
    obtain ⟨NP, hNP⟩ : ∃ N, PL.length = N := ⟨_, rfl⟩
    obtain ⟨NQ, hNQ⟩ : ∃ N, QL.length = N := ⟨_, rfl⟩
    obtain ⟨sp, cp, hvp, hPs⟩ := read_p hp hNP
    obtain ⟨sq, cq, hvq, hQs⟩ := read_p hq hNQ
    subst hvp hvq
    rw [hNP] at lP
    rw [hNQ] at lQ
    have HNP : Hid (PL.length = NP) := hNP
    have HNQ : Hid (QL.length = NQ) := hNQ
    have HPS : Hid _ := hPs
    have HQS : Hid _ := hQs
    clear hNP hNQ hp hq hOp hOq HE HF HL HT hPs hQs
    go_wp2
    go_loopg [8, 9, 10] n (fun kx s8 s9 s10 wr => ∃ i a t : Nat, s10 = .int .i64 i ∧ s8 = .int .i64 a ∧ s9 = .int .i64 t ∧ i ≤ n ∧ n - i ≤ kx ∧ Bel w3 wr ∧ Hid (a = (allB B B (fun i k => decide (i < k)) n i).length) ∧ Hid (t = (allB B B (fun _ _ => true) n i).length))
    case atStart => exact ⟨0, 0, 0, rfl, rfl, rfl, by omega, by omega, bl_refl _, rfl, rfl⟩
    case round =>
      obtain ⟨i, a, t, rfl, rfl, rfl, hin, hkx, hW, ha, ht⟩ := hrel
      by_cases hlt : i < n
      · have hltz : (i : Int) < (n : Int) := by omega
        have hwk : IntKind.wrap .i64 ((i : Int) + 1) = (i : Int) + 1 := by rw [IntKind.wrap_i64]; omega
        obtain ⟨b, off, hsa, hB, hb0⟩ : ∃ b off, sa = some ⟨b, off, none⟩ ∧ Bs w3 b off n B ∧ b < w3.heap.size := by
          rcases hA3 with h0 | h0
          · omega
          · exact h0
        clear hA hA1 hA2 hA3
        subst hsa
        obtain ⟨x0, x1, x2, x3⟩ := (hB.bel hW) i hlt
        have hwi : ∀ W, Bel w3 W → Calls Try.prog 11 #[.slice (some ⟨b, off, none⟩) n cap, .agg #[.float .f64 (B i).1, .float .f64 (B i).2.1, .float .f64 (B i).2.2.1, .float .f64 (B i).2.2.2]] W fun e w' => ∃ v, e = .returned (.tuple #[v, .int .i64 0]) ∧ IRow w' v (nums (fun k => meO (B k) (B i)) n) ∧ Bel W w' := fun W hb => by
          refine (with_s b off n cap B (B i) W (hB.bel hb) (by omega)).mono ?_
          rintro e w' ⟨v, rfl, h1, h2⟩
          exact ⟨v, rfl, own_row h1, h2⟩
        obtain ⟨wo, hwo⟩ : ∃ X, X = wr := ⟨_, rfl⟩
        subst hwo
        go_upto_region 15 with (first | (go_at_call 11; (with_reducible refine (hwi _ hW).mono ?_); rintro e w4 ⟨vw, rfl, hiw, hb4⟩; have hW4 := bl_trans hW hb4))
        obtain ⟨WL, hWL⟩ : ∃ L, nums (fun k => meO (B k) (B i)) n = L := ⟨_, rfl⟩
        rw [hWL] at hiw
        have HWL : Hid (nums (fun k => meO (B k) (B i)) n = WL) := hWL
        obtain ⟨sw, cw, hvw, hIw⟩ := hiw
        obtain ⟨NW, hNW⟩ : ∃ N, WL.length = N := ⟨_, rfl⟩
        rw [hNW] at hvw
        subst hvw
        have HNW : Hid (WL.length = NW) := hNW
        have HIW : Hid _ := hIw
        clear hWL hNW hIw hwi
        go_wp2
        go_loopg [8, 9, 13, 14] n (fun kx s8 s9 s13 s14 wr => ∃ k a t m : Nat, s14 = .int .i64 k ∧ s8 = .int .i64 a ∧ s9 = .int .i64 t ∧ s13 = .int .i64 m ∧ k ≤ n ∧ n - k ≤ kx ∧ Bel w4 wr ∧ Hid (a = (allB B B (fun i k => decide (i < k)) n i).length + (rowB B B (fun i k => decide (i < k)) k i).length) ∧ Hid (t = (allB B B (fun _ _ => true) n i).length + (rowB B B (fun _ _ => true) k i).length) ∧ Hid (m = (nums (fun k => meO (B k) (B i)) k).length))
        case atStart => exact ⟨0, a, t, 0, rfl, rfl, rfl, rfl, by omega, by omega, bl_refl _, (show _ = _ from by rw [ha.out]; rfl), (show _ = _ from by rw [ht.out]; rfl), rfl⟩
        case round =>
          clear ha ht
          obtain ⟨k, a, t, m, rfl, rfl, rfl, rfl, hkn, hkx2, hW5, ha, ht, hm⟩ := hrel
          by_cases hlt2 : k < n
          · have hlt2z : (k : Int) < (n : Int) := by omega
            have hwk2 : IntKind.wrap .i64 ((k : Int) + 1) = (k : Int) + 1 := by rw [IntKind.wrap_i64]; omega
            have hW6 := bl_trans hW4 hW5
            obtain ⟨a0, a1, a2, a3⟩ := (hB.bel hW6) i hlt
            obtain ⟨c0, c1, c2, c3⟩ := (hB.bel hW6) k hlt2
            haveI := belBy_some wr
            have y0 := belBy_cell a0
            have y1 := belBy_cell a1
            have y2 := belBy_cell a2
            have y3 := belBy_cell a3
            have v0 := belBy_cell c0
            have v1 := belBy_cell c1
            have v2 := belBy_cell c2
            have v3 := belBy_cell c3
            obtain ⟨o, hoo⟩ : ∃ o, meO (B i) (B k) = o := ⟨_, rfl⟩
            have hov : ∀ W, Calls Try.prog 24 #[.agg #[.float .f64 (B i).1, .float .f64 (B i).2.1, .float .f64 (B i).2.2.1, .float .f64 (B i).2.2.2], .agg #[.float .f64 (B k).1, .float .f64 (B k).2.1, .float .f64 (B k).2.2.1, .float .f64 (B k).2.2.2]] W fun e w' => e = .returned (.bool o) ∧ Bel W w' := fun W => by rw [← hoo]; exact meet13_s _ _ W
            have HO : Hid (meO (B i) (B k) = o) := hoo
            clear hoo
            go_wp2
            refine wp_region_quiet_bel (by kernel_rfl) (by kernel_rfl) ?_
            repeat (go_big_quiet_step (first | (go_at_call 24; exact calls_bel (hov _))))
            refine wpQuiet_nil ?_
            rintro _ ⟨nq, rfl⟩
            have hb9 := nq.h
            clear y0 y1 y2 y3 v0 v1 v2 v3 this a0 a1 a2 a3 c0 c1 c2 c3
            obtain ⟨w7, hw7⟩ : ∃ x, x = nq.world := ⟨_, rfl⟩
            rw [← hw7] at hb9
            rw [← hw7]
            clear hw7 nq
            have hW7 := bl_trans hW5 hb9
            cases o with
            | false =>
              have hN : ∀ p : Nat → Nat → Bool, (p i k && meO (B i) (B k)) = false := fun p => by rw [HO.out, Bool.and_false]
              have HNN : Hid _ := hN
              clear hN
              go_wp2
              go_roundg (n - (k + 1))
              case measure => omega
              case rel => exact ⟨k + 1, a, t, m, by go_num, rfl, rfl, rfl, by omega, Nat.le_refl _, hW7, (show _ = _ from by rw [rowB_no (p := fun i k => decide (i < k)) (HNN.out (fun i k => decide (i < k)))]; exact ha.out), (show _ = _ from by rw [rowB_no (p := fun _ _ => true) (HNN.out (fun _ _ => true))]; exact ht.out), (show _ = _ from by rw [nums_no (by show meO (B k) (B i) = false; rw [me_sym]; exact HO.out)]; exact hm.out)⟩
            | true =>
              have fq : ((fun _ _ => true : Nat → Nat → Bool) i k && meO (B i) (B k)) = true := by rw [HO.out]; rfl
              have eq1 : QL[t]? = some (i, k) := by rw [EQ.out]; exact allB_at hlt hlt2 fq ht.out
              have fw : (fun k => meO (B k) (B i)) k = true := by show meO (B k) (B i) = true; rw [me_sym]; exact HO.out
              have ew1 : WL[m]? = some k := by rw [← HWL.out]; exact nums_at hlt2 fw hm.out
              have q1 := at_lt eq1
              have q2 := at_lt ew1
              rw [HNQ.out] at q1
              rw [HNW.out] at q2
              obtain ⟨gq, oq, hsq, hPq⟩ := HQS.out t _ eq1
              obtain ⟨gw, ow, hsw, hPw⟩ : ∃ g o, sw = some ⟨g, o, none⟩ ∧ Is w4 g o WL := by
                rcases HIW.out with h | h
                · rw [h] at ew1; simp at ew1
                · exact h
              subst hsq hsw
              obtain ⟨z0, z1⟩ := (hPq.bel (bl_trans hW4 hW7)) t _ eq1
              have z2 := (hPw.bel hW7) m _ ew1
              have q1z : ¬ (NQ : Int) ≤ (t : Int) := by omega
              have q2z : ¬ (NW : Int) ≤ (m : Int) := by omega
              have q1y : (t : Int) < (NQ : Int) := by omega
              have q2y : (m : Int) < (NW : Int) := by omega
              have hNW4 : NW ≤ 400 := by
                have h1 := nums_len (fun k => meO (B k) (B i)) n
                rw [HWL.out, HNW.out] at h1
                omega
              have hwt : IntKind.wrap .i64 ((t : Int) + 1) = (t : Int) + 1 := by rw [IntKind.wrap_i64]; omega
              have hwm : IntKind.wrap .i64 ((m : Int) + 1) = (m : Int) + 1 := by rw [IntKind.wrap_i64]; omega
              have HFQ : Hid _ := fq
              have HFW : Hid _ := fw
              have ht' : Hid (t + 1 = (allB B B (fun _ _ => true) n i).length + (rowB B B (fun _ _ => true) (k + 1) i).length) := (show _ = _ from by rw [rowB_yes (p := fun _ _ => true) fq, List.length_append, ht.out]; rfl)
              have hm' : Hid (m + 1 = (nums (fun k => meO (B k) (B i)) (k + 1)).length) := (show _ = _ from by rw [nums_yes fw, List.length_append, hm.out]; rfl)
              clear fq fw eq1 ew1 hPq hPw
              by_cases hik : k ≤ i
              · have hikz : (k : Int) ≤ (i : Int) := by omega
                have fp : ((fun i k => decide (i < k) : Nat → Nat → Bool) i k && meO (B i) (B k)) = false := by show (decide (i < k) && _) = false; rw [decide_eq_false (by omega)]; rfl
                have ha' : Hid (a = (allB B B (fun i k => decide (i < k)) n i).length + (rowB B B (fun i k => decide (i < k)) (k + 1) i).length) := (show _ = _ from by rw [rowB_no (p := fun i k => decide (i < k)) fp]; exact ha.out)
                clear fp
                go_wp2
                go_roundg (n - (k + 1))
                case measure => omega
                case rel => exact ⟨k + 1, a, t + 1, m + 1, by go_num, rfl, by go_num, by go_num, by omega, Nat.le_refl _, hW7, ha', ht', hm'⟩
              · have hikz : ¬ (k : Int) ≤ (i : Int) := by omega
                have fp : ((fun i k => decide (i < k) : Nat → Nat → Bool) i k && meO (B i) (B k)) = true := by show (decide (i < k) && _) = true; rw [decide_eq_true (by omega), HO.out]; rfl
                have ep1 : PL[a]? = some (i, k) := by rw [EP.out]; exact allB_at hlt hlt2 fp ha.out
                have p1 := at_lt ep1
                rw [HNP.out] at p1
                obtain ⟨gp, op, hsp, hPp⟩ := HPS.out a _ ep1
                subst hsp
                obtain ⟨z3, z4⟩ := (hPp.bel (bl_trans hW4 hW7)) a _ ep1
                have p1z : ¬ (NP : Int) ≤ (a : Int) := by omega
                have p1y : (a : Int) < (NP : Int) := by omega
                have hwa : IntKind.wrap .i64 ((a : Int) + 1) = (a : Int) + 1 := by rw [IntKind.wrap_i64]; omega
                have ha' : Hid (a + 1 = (allB B B (fun i k => decide (i < k)) n i).length + (rowB B B (fun i k => decide (i < k)) (k + 1) i).length) := (show _ = _ from by rw [rowB_yes (p := fun i k => decide (i < k)) fp, List.length_append, ha.out]; rfl)
                clear fp ep1 hPp
                go_wp2
                go_roundg (n - (k + 1))
                case measure => omega
                case rel => exact ⟨k + 1, a + 1, t + 1, m + 1, by go_num, by go_num, by go_num, by go_num, by omega, Nat.le_refl _, hW7, ha', ht', hm'⟩
          · have hlt2z : ¬ (k : Int) < (n : Int) := by omega
            have hkk : k = n := by omega
            have hmN : m = NW := by rw [hm.out, ← HNW.out, ← HWL.out, hkk]
            subst hmN
            have ha' : Hid (a = (allB B B (fun i k => decide (i < k)) n (i + 1)).length) := (show _ = _ from by rw [allB, List.length_append, ha.out, hkk])
            have ht' : Hid (t = (allB B B (fun _ _ => true) n (i + 1)).length) := (show _ = _ from by rw [allB, List.length_append, ht.out, hkk])
            go_wp2
            go_roundg (n - (i + 1))
            case measure => omega
            case rel => exact ⟨i + 1, a, t, by go_num, rfl, rfl, by omega, Nat.le_refl _, bl_trans hW4 hW5, ha', ht'⟩
      · have hltz : ¬ (i : Int) < (n : Int) := by omega
        have hii : i = n := by omega
        have haN : a = NP := by rw [ha.out, ← HNP.out, EP.out, hii]
        have htN : t = NQ := by rw [ht.out, ← HNQ.out, EQ.out, hii]
        subst haN htN
        go_wp2
        go_ret
        exact ⟨by first | rfl | simp, bw_trans L3 hW.1⟩

/-- a row of boxes: none, or len of them in cells, with room for cap -/
def IsBoxes (w : World) (a : Option Addr) (len cap : Nat) : Prop :=
  (a = none ∧ len = 0 ∧ cap = 0) ∨ ∃ (x : Addr) (B : Nat → Bo), a = some x ∧ len ≤ cap ∧ cap ≤ maxLen ∧ len * 32 ≤ 140737488351232 ∧ ∀ i, i < len → w.cell? (x.add (i * 4)) = some (.float .f64 (B i).1) ∧ w.cell? (x.add (i * 4 + 1)) = some (.float .f64 (B i).2.1) ∧ w.cell? (x.add (i * 4 + 2)) = some (.float .f64 (B i).2.2.1) ∧ w.cell? (x.add (i * 4 + 3)) = some (.float .f64 (B i).2.2.2) ∧ okK .f64 (B i).1 ∧ okK .f64 (B i).2.1 ∧ okK .f64 (B i).2.2.1 ∧ okK .f64 (B i).2.2.2
theorem any_of {w : World} {a : Option Addr} {len cap : Nat} (h : IsBoxes w a len cap) : ∃ B, AnyB w a len B ∧ len * 32 ≤ 140737488351232 ∧ ∀ i, i < len → okK .f64 (B i).1 ∧ okK .f64 (B i).2.1 ∧ okK .f64 (B i).2.2.1 ∧ okK .f64 (B i).2.2.2 := by
  rcases h with ⟨rfl, rfl, rfl⟩ | ⟨x, B, rfl, hl, hm, hr, hcell⟩
  · exact ⟨fun _ => (0, 0, 0, 0), .inl rfl, by omega, fun i hi => by omega⟩
  · refine ⟨B, ?_, hr, fun i hi => (hcell i hi).2.2.2.2⟩
    rcases Nat.eq_zero_or_pos len with h0 | h0
    · exact .inl h0
    · right
      obtain ⟨b, off, spot⟩ := x
      have hspot : spot = none := by simpa [Addr.add] using World.cell?_spot (hcell 0 h0).1
      subst hspot
      have hc0 := (hcell 0 h0).1
      rw [add_plain] at hc0
      refine ⟨b, off, rfl, fun i hi => ?_, World.block_lt_of_cell? _ _ hc0⟩
      obtain ⟨h1, h2, h3, h4, _⟩ := hcell i hi
      rw [add_plain] at h1 h2 h3 h4
      rw [← Nat.add_assoc] at h2 h3 h4
      exact ⟨h1, h2, h3, h4⟩
theorem walk (a0 : Option Addr) (len0 cap0 : Nat) (w : World) (h0 : IsBoxes w a0 len0 cap0) :
    Calls Try.prog 7 #[.slice a0 len0 cap0] w fun e w' => e = .returned (.bool true) ∧ Below w.heap.size w w' := by
  obtain ⟨B0, g0, r0, o0⟩ := any_of h0
  exact walk_any a0 len0 cap0 B0 w g0 r0 o0

set_option maxRecDepth 100000 in
theorem lifted (os : Os) (started : os.Started) (H : Type) (enc : TypeId × Value → H) :
    ReturnsInHanded {} Try.checked os 7 .any (Rows.sweepAllSpec.pre6 enc Try.prog Try.f7 Rows.sweepAllRow.domain false) (Rows.sweepAllSpec.post enc Try.prog Try.f7 false true false false) := by
  refine returnsInHanded_of_change_sized (C := Try.checked) own started (by kernel_rfl) Try.func7
    (ChangeSpec.witness6 (enc := enc) (C := Try.checked) false ⟨#[], #[.slice none 0 0], []⟩ 8 (by kernel_rfl) (by kernel_rfl) (by kernel_rfl) (by kernel_rfl)) ?_
  intro W base args ds gs before hval0 hW hcnd hsz0 _
  have hsz : (DataW.weightsEach Try.prog (Try.f7.params.toList ++ Rows.sweepAllSpec.plain.varTypes Try.prog) (ds ++ gs)).all (· ≤ reachBytes) = true := hsz0
  have hval : ∀ (j : Nat) t v, Try.f7.params[j]? = some t → args[j]? = some v → Value.okWide Try.prog W .any base t v := hval0
  have hW' := hW
  obtain ⟨p, q, hA0, hV, rfl, hfz, hnd⟩ := hW
  have hA : DataW.TrodAll enc Try.prog W 0 (fun _ => true) true Try.f7.params.toList args.toList ds p := hA0
  rw [Try.params7] at hA hval hsz
  obtain ⟨v0, vs0, d0, ds0, p0, q0, hargs, rfl, rfl, h0, r0⟩ := trodAll_cons hA
  obtain ⟨rfl, rfl, rfl⟩ := trodAll_nil r0
  obtain rfl : args = #[v0] := by cases args; simp_all
  obtain ⟨rfl, rfl⟩ := trodVars_none hV
  obtain ⟨a0, len0, cap0, rfl⟩ := okWide_slice Try.underlying22 (hval 0 22 v0 rfl rfl)
  have k0 := h0
  have lt0 : ∀ x ∈ p0, x.block < W.heap.size := by obtain ⟨m, hm⟩ := k0; exact DataW.trod_lt m _ _ _ hm
  have w0 : IsBoxes W a0 len0 cap0 := by
    obtain ⟨fuel, hf⟩ := h0
    rcases Go.Deep.open_slice Try.underlying22 hf with ⟨hcs, _⟩ | ⟨x, l, c, m, n, D, Pl, hcs, _, hl, hm, hmm, hx, hcell⟩
    · simp [Value.cells] at hcs
      exact .inl hcs
    · simp [Value.cells] at hcs
      obtain ⟨rfl, rfl, rfl⟩ := hcs
      simp only [Prod.mk.injEq] at hx
      obtain ⟨rfl, rfl⟩ := hx
      have hr := sized_slice hsz (j := 0) (t := 22) (e := 27) rfl rfl Try.underlying22
      rw [show Try.prog.bytesOf 27 = 32 by kernel_rfl] at hr
      simp only [List.length_map, List.length_range, reachBytes] at hr
      have hlm : len0 ≤ m := by rw [hmm]; split <;> omega
      have V : ∀ i, ∃ q : Nat × Nat × Nat × Nat, i < m → W.cell? (x.add (i * 4)) = some (.float .f64 q.1) ∧ W.cell? (x.add (i * 4 + 1)) = some (.float .f64 q.2.1) ∧ W.cell? (x.add (i * 4 + 2)) = some (.float .f64 q.2.2.1) ∧ W.cell? (x.add (i * 4 + 3)) = some (.float .f64 q.2.2.2) ∧ okK .f64 q.1 ∧ okK .f64 q.2.1 ∧ okK .f64 q.2.2.1 ∧ okK .f64 q.2.2.2 := by
        intro i
        by_cases hi : i < m
        · obtain ⟨cs', h1, h2⟩ := hcell i hi
          rw [cellsM] at h1
          obtain ⟨_, hlen, hce⟩ := World.cells?_some h1
          obtain ⟨y0, y1, n', hx', _, g0, g1⟩ := trod_struct2 Try.underlying27 h2
          match cs', hlen with
          | [v0, v1, v2, v3], _ =>
            simp [cellsV] at g0 g1
            obtain ⟨z0, z1, n2, hz, _, g4, g5⟩ := trod_struct2 Try.underlying25 g0
            obtain ⟨z2, z3, n3, hz3, _, g6, g7⟩ := trod_struct2 Try.underlying25 g1
            simp [cellsF] at g4 g5 g6 g7
            obtain ⟨a, e0, _, wa⟩ := trod_fl Try.underlying23 g4
            obtain ⟨b, e1, _, wb⟩ := trod_fl Try.underlying23 g5
            obtain ⟨c, e2, _, wc⟩ := trod_fl Try.underlying23 g6
            obtain ⟨d, e3, _, wd⟩ := trod_fl Try.underlying23 g7
            simp at e0 e1 e2 e3
            subst e0 e1 e2 e3
            have q0 := hce 0 (by omega)
            have q1 := hce 1 (by omega)
            have q2 := hce 2 (by omega)
            have q3 := hce 3 (by omega)
            rw [Go.Deep.add_add] at q0 q1 q2 q3
            exact ⟨(a, b, c, d), fun _ => ⟨by simpa using q0, by simpa using q1, by simpa using q2, by simpa using q3, wf_f64 wa, wf_f64 wb, wf_f64 wc, wf_f64 wd⟩⟩
        · exact ⟨(0, 0, 0, 0), fun h => absurd h hi⟩
      have V' := Classical.axiomOfChoice V
      obtain ⟨f, hf'⟩ := V'
      exact .inr ⟨x, f, rfl, hl, hm, by omega, fun i hi => hf' i (by omega)⟩
  clear hA0 hval0 hsz0
  refine (walk a0 len0 cap0 W w0).mono fun e W' ⟨he, bel0⟩ => ?_
  have bel := bel0
  subst he
  exact ⟨_, rfl, _, _, _, [], _, [], hW', trodAll_mk1 (shut_bool Try.underlying4 _), (trodAll_cons_mk (Below.trod laidOut (by kernel_rfl) (of_decide_eq_true (by kernel_rfl)) k0 bel lt0) trodAll_mk0), rfl, bel.frame _, fun h => by cases h⟩

theorem over : Rows.sweepAllRow.holds Try.pinned (OpenSpec.ofChange Rows.sweepAllSpec) :=
  OpenClaim.holds_of_wide 7 Try.f7 rfl rfl rfl rfl rfl rfl rfl ⟨rfl, rfl, rfl, rfl, rfl⟩ rfl rfl rfl rfl rfl (by kernel_rfl) Try.func7 (by kernel_rfl)
    (of_decide_eq_true (by kernel_rfl)) (by unfold Func.isWrapper; first | (rw [if_pos (by decide +kernel)]; kernel_rfl) | (rw [if_neg (by decide +kernel)]; exact ⟨rfl, rfl⟩))
    (fun os started H enc _ => lifted os started H enc)

theorem proved : Rows.SweepAllSaid :=
  over
#print axioms proved
end Go.Proofs.Ytkkncipimbpkkaa.sweepAll
