/-
  'tumblelaw14.GridPartners' is true of all rows of boxes.
-/
import Derived.Test.YtekhnolpgoejdabRows
import Derived.Test.YtekhnolpgoejdabGq
import Derived.Test.YtekhnolpgoejdabGpt
import Derived.WalkKit
import Derived.ProofKit
import Derived.OpenShut
import Derived.WalkLawsBesides
import Derived.WalkSpells
import Derived.Lib.SmallJoins
import Derived.Laws.Cover2
import Derived.Laws.AppendOwn
import Derived.Laws.OwnMore
import Derived.Laws.AppendOwnNone
import Derived.Deep.RegionHeld3
import Derived.Deep.RegionWith
import Derived.Deep.SlicePairs
import Derived.Deep.Strs
import Derived.SizedLaws
import Derived.Below
import Derived.Deep.DeepCutAuto
import Derived.Laws.StructEq
namespace Go.Proofs.Ytekhnolpgoejdab.gridPartners
open Go.ChangeShapes Go.WideShapes Go.ChangeAt Go.RowKit Go.Joins Go.Sort
set_option linter.unusedVariables false
set_option linter.unusedSimpArgs false

theorem own : ownKnob Try.prog.godebug = none := by kernel_rfl
theorem laidOut : laidOutB Try.prog = true := by kernel_rfl
theorem wf_f64 {x : Nat} (h : (Lit.float .f64 x).wf = true) : okK .f64 x := by
  rw [okK64]; simpa [Lit.wf] using h
theorem trod_fl {H : Type} {enc : TypeId × Value → H} {P : Program} {w : World} {base fuel : Nat} {spare : Nat → Bool} {held : Bool} {t : TypeId} {cs : List Value} {x : DataW H × List MemPlace} {k : FloatKind} (ht : P.underlying t = some (.float k)) (h : DataW.trod enc P w base spare held fuel t cs = some x) : ∃ z, cs = [.float k z] ∧ x = (.lit (.float k z), []) ∧ (Lit.float k z).wf = true := by
  cases fuel with
  | zero => simp [DataW.trod] at h
  | succ n =>
    unfold DataW.trod at h
    rw [ht] at h
    split at h <;> simp_all

theorem cellsV : Try.prog.cellsOf 33 = 2 := by kernel_rfl
theorem cellsM : Try.prog.cellsOf 35 = 4 := by kernel_rfl
theorem cellsF : Try.prog.cellsOf 23 = 1 := by kernel_rfl

set_option maxRecDepth 100000 in
set_option maxHeartbeats 16000000 in
theorem walk_any (sa : Option Addr) (n cap : Nat) (B : Nat → Bo) (at_ : Int) (wi : (Lit.int .i64 at_).wf = true) (d : Nat) (od : okK .f64 d) (w : World) (hA : AnyB w sa n B) (hr : n * 32 ≤ 140737488351232) (ho : ∀ i, i < n → okK .f64 (B i).1 ∧ okK .f64 (B i).2.1 ∧ okK .f64 (B i).2.2.1 ∧ okK .f64 (B i).2.2.2) :
    Calls Try.prog 3 #[.slice sa n cap, .int .i64 at_, .float .f64 d] w fun e w' => e = .returned (.bool true) ∧ Below w.heap.size w w' := by
  by_cases h0 : n = 0
  · have hz : (n : Int) = 0 := by omega
    go_enter Try.func3, Try.ntmps3
    go_wp2_with (first | (go_at_call 6; (with_reducible refine (alive14_s _).mono ?_); rintro e w1 ⟨rfl, hb1⟩; have hA1 := hA.below hb1))
    go_ret
    exact ⟨rfl, hb1⟩
  · have hnz0 : ¬ (n : Int) = 0 := by omega
    by_cases hn : n ≤ 200
    · have hnz : ¬ (200 : Int) < (n : Int) := by omega
      have hnd : decide ((200 : Int) < (n : Int)) = false := decide_eq_false hnz
      have qA := fun (a b c e : Int) (w : World) => run_equalIn_arr 9998 a b c e w
      have qG := eqg_pair
      obtain ⟨K, hK, hKn⟩ := at_in at_ n (by omega)
      obtain ⟨h1, h2⟩ := tmod_in at_ n (by omega)
      have ew1 : IntKind.wrap .i64 (Int.tmod at_ n) = Int.tmod at_ n := by rw [IntKind.wrap_i64]; omega
      have ew2 : IntKind.wrap .i64 (Int.tmod at_ n + n) = Int.tmod at_ n + n := by rw [IntKind.wrap_i64]; omega
      have ew3 : IntKind.wrap .i64 (K : Int) = (K : Int) := by rw [IntKind.wrap_i64]; omega
      clear h1 h2
      have hKz : (K : Int) < (n : Int) := by omega
      obtain ⟨b, off, hsa, hBs, hbl⟩ : ∃ b off, sa = some ⟨b, off, none⟩ ∧ Bs w b off n B ∧ b < w.heap.size := by
        rcases hA with h0' | h0'
        · omega
        · exact h0'
      subst hsa
      have hpa := fun (W : World) (h : AnyB W (some ⟨b, off, none⟩) n B) => pairs14_s (some ⟨b, off, none⟩) n cap d B W h hn
      have hpw := fun (W : World) (h : AnyB W (some ⟨b, off, none⟩) n B) => with14_s (some ⟨b, off, none⟩) n cap d B (B K) W h
      have PAA : True := trivial
      cases hm : mayW d with
      | false =>
        have e1 : ckG n d = 140 := by unfold ckG; rw [if_neg (by omega), hm]; rfl
        simp only [e1] at hpa hpw
        go_enter Try.func3, Try.ntmps3
        go_wp2_with (first | (go_at_call 6; (with_reducible refine (alive14_s _).mono ?_); rintro e w1 ⟨rfl, hb1⟩; have hA1 := hA.below hb1); obtain ⟨x0, x1, x2, x3⟩ := (hBs.below hb1) K hKn | (go_at_call 7; (with_reducible refine (hpa w1 hA1).mono ?_); rintro e w2 ⟨v2, rfl, hO2, hz2, hb2⟩; have hA2 := hA1.below hb2; have K2 := bw_trans hb1 hb2; obtain ⟨y0, y1, y2, y3⟩ := (hBs.below K2) K hKn) | (go_at_call 8; (with_reducible refine (hpw w2 hA2).mono ?_); rintro e w3 ⟨v3, rfl, hO3, hz3, hb3⟩; have K3 := bw_trans K2 hb3.1))
        go_ret
        exact ⟨by first | rfl | simp, K3⟩
      | true =>
        have e1 : ckG n d = 0 := by unfold ckG; rw [if_neg (by omega), hm]; rfl
        have e2 : gpL B n d = refP B n := by unfold gpL; rw [hm]; rfl
        have e3 : gwL B n d (B K) = nums (fun i => meO (B i) (B K)) n := by unfold gwL; rw [if_neg (by omega), hm, if_pos rfl]
        have hsq := refP_sq B hn
        obtain ⟨PL, hPL⟩ : ∃ L, refP B n = L := ⟨_, rfl⟩
        obtain ⟨GL, hGL⟩ : ∃ L, nums (fun i => meO (B i) (B K)) n = L := ⟨_, rfl⟩
        have HPL : Hid (refP B n = PL) := hPL
        have HGL : Hid (nums (fun i => meO (B i) (B K)) n = GL) := hGL
        have hgl : GL.length ≤ n := by rw [← hGL]; exact nums_len _ _
        simp only [e1, e2, e3, hPL, hGL] at hpa hpw
        rw [hPL] at hsq
        obtain ⟨N, hN⟩ : ∃ N, PL.length = N := ⟨_, rfl⟩
        have HN : Hid (PL.length = N) := hN
        rw [hN] at hpa hsq
        clear hPL hGL hN e1 e2 e3 hm
        go_enter Try.func3, Try.ntmps3
        go_upto_region 12 with (first | (go_at_call 6; (with_reducible refine (alive14_s _).mono ?_); rintro e w1 ⟨rfl, hb1⟩; have hA1 := hA.below hb1); obtain ⟨x0, x1, x2, x3⟩ := (hBs.below hb1) K hKn | (go_at_call 7; (with_reducible refine (hpa w1 hA1).mono ?_); rintro e w2 ⟨v2, rfl, hO2, hz2, hb2⟩; have hA2 := hA1.below hb2; have K2 := bw_trans hb1 hb2; obtain ⟨y0, y1, y2, y3⟩ := (hBs.below K2) K hKn) | (go_at_call 8; (with_reducible refine (hpw w2 hA2).mono ?_); rintro e w3 ⟨v3, rfl, hO3, hz3, hb3⟩; have K3 := bw_trans K2 hb3.1))
        have q3 : IRow w3 v3 GL := own_row hO3
        have q2 : PRow w3 v2 PL := own_prow (by rw [HN.out]; exact hO2.bel hb3)
        obtain ⟨s2', c2', hv2⟩ := own_len14 hO2
        subst hv2
        clear hO2 hO3 hz2 hz3 x0 x1 x2 x3 y0 y1 y2 y3 hpa hpw
        go_wp2
        go_loopg [13, 14] n (fun kx s13 s14 wr => ∃ (i : Nat) (acc : List Nat), s14 = .int .i64 i ∧ i ≤ n ∧ n - i ≤ kx ∧ acc.length ≤ i ∧ OwnR 1 w3.heap.size wr s13 acc.length (iRow acc) ∧ Bel w3 wr ∧ Hid (acc = nums (fun i => meO (B i) (B K)) i))
        case atStart => exact ⟨0, [], rfl, Nat.zero_le _, Nat.le_refl _, Nat.le_refl _, OwnR.nil _ _ _, bl_refl _, (show _ = _ from by simp [nums])⟩
        case round =>
          obtain ⟨i, acc, rfl, hin, hkx, hal, hO, hW, HAC⟩ := hrel
          obtain ⟨sg, cg, hv⟩ := own_len14 hO
          subst hv
          by_cases hlt : i < n
          · have hltz : (i : Int) < (n : Int) := by omega
            have hwk : IntKind.wrap .i64 ((i : Int) + 1) = (i : Int) + 1 := by rw [IntKind.wrap_i64]; omega
            obtain ⟨x0, x1, x2, x3⟩ := ((hBs.below K3).bel hW) K hKn
            have hxc : ∀ W, Calls Try.prog 9 #[.agg #[.float .f64 (B K).1, .float .f64 (B K).2.1, .float .f64 (B K).2.2.1, .float .f64 (B K).2.2.2]] W fun e w' => e = .returned (.int .i64 (chkN (bChk (B K).1 (B K).2.1 (B K).2.2.1 (B K).2.2.2))) ∧ Bel W w' := fun W => xCheck_any _ _ _ _ W
            have cm := chk_may (B K)
            obtain ⟨kb, hkb⟩ : ∃ k, chkN (bChk (B K).1 (B K).2.1 (B K).2.2.1 (B K).2.2.2) = k := ⟨_, rfl⟩
            simp only [hkb] at hxc cm
            clear hkb
            obtain ⟨c0, hc0⟩ : ∃ c, (decide (i = K) && mayO (B K)) = c := ⟨_, rfl⟩
            have HME : Hid (inJ c0 PL i K PL.length = meO (B i) (B K)) := (show _ = _ from by rw [inJ_all, ← hc0, ← HPL.out]; exact (me_part B hlt hKn).symm)
            by_cases hiK : i = K
            · have hbe : ((i : Int) == (K : Int)) = true := by rw [hiK]; simp
              have hde : decide ((i : Int) = (K : Int)) = true := by rw [hiK]; simp
              have hc1 : (kb == 0) = c0 := by rw [cm, ← hc0, decide_eq_true hiK, Bool.true_and]
              have HC1 : Hid ((kb == 0) = c0) := hc1
              clear hc0 cm hiK hc1
              go_upto_region 16 with (first | (go_at_call 9; (with_reducible refine (hxc _).mono ?_); rintro e w4 ⟨rfl, hb4⟩))
              replace hO := hO.bel hb4
              replace hW := bl_trans hW hb4
              clear x0 x1 x2 x3 hxc hb4 hbe hde
              go_wp2
              obtain ⟨wo, hwo⟩ : ∃ X, X = w4 := ⟨_, rfl⟩
              rw [← hwo] at hO hW ⊢
              clear hwo
              go_loopg [15, 16] N (fun kx s15 s16 wr => ∃ j : Nat, s16 = .int .i64 j ∧ j ≤ N ∧ N - j ≤ kx ∧ wr = wo ∧ s15 = .bool (inJ c0 PL i K j))
              case atStart => exact ⟨0, rfl, Nat.zero_le _, Nat.le_refl _, rfl, by rw [inJ_zero]; rw [← HC1.out]⟩
              case round =>
                obtain ⟨j, rfl, hjn, hkx2, hwe, rfl⟩ := hrel
                subst hwe
                by_cases hltj : j < N
                · have hltjz : (j : Int) < (N : Int) := by omega
                  have hwj : IntKind.wrap .i64 ((j : Int) + 1) = (j : Int) + 1 := by rw [IntKind.wrap_i64]; omega
                  obtain ⟨p, hp⟩ : ∃ p, PL[j]? = some p := ⟨_, List.getElem?_eq_getElem (by rw [HN.out]; exact hltj)⟩
                  have hsu := inJ_succ (c0 := c0) (i := i) (K := K) hp
                  obtain ⟨gp, op, hgp, hPs⟩ : ∃ gp op, s2' = some ⟨gp, op, none⟩ ∧ Ps w3 gp op PL := by
                    obtain ⟨sq, cq, e, h⟩ := q2
                    injection e with e1 _ _
                    rcases h with h | ⟨g', o', e', h⟩
                    · rw [h] at hp; simp at hp
                    · exact ⟨g', o', by rw [e1, e'], h⟩
                  subst hgp
                  obtain ⟨z0, z1⟩ := (hPs.bel hW) j p hp
                  obtain ⟨cj, hcj⟩ : ∃ c, inJ c0 PL i K j = c := ⟨_, rfl⟩
                  rw [hcj] at hsu ⊢
                  have HSU : Hid _ := hsu
                  have i1 : (((p.1 : Int) == (i : Int)) : Bool) = (p.1 == i) := by rw [Bool.eq_iff_iff]; simp; omega
                  have i2 : (((p.2 : Int) == (K : Int)) : Bool) = (p.2 == K) := by rw [Bool.eq_iff_iff]; simp; omega
                  have i3 : (((p.1 : Int) == (K : Int)) : Bool) = (p.1 == K) := by rw [Bool.eq_iff_iff]; simp; omega
                  have i4 : (((p.2 : Int) == (i : Int)) : Bool) = (p.2 == i) := by rw [Bool.eq_iff_iff]; simp; omega
                  obtain ⟨d1, hd1⟩ : ∃ c, (p.1 == i && p.2 == K) = c := ⟨_, rfl⟩
                  obtain ⟨d2, hd2⟩ : ∃ c, (p.1 == K && p.2 == i) = c := ⟨_, rfl⟩
                  have r1 : ∀ W, (Op.equalIn 10000 37 (.agg #[.int .i64 (p.1 : Int), .int .i64 (p.2 : Int)]) (.agg #[.int .i64 (i : Int), .int .i64 (K : Int)])).run Try.prog W = .ok d1 W := fun W => by rw [qA, i1, i2, hd1]
                  have r2 : ∀ W, (Op.equalIn 10000 37 (.agg #[.int .i64 (p.1 : Int), .int .i64 (p.2 : Int)]) (.agg #[.int .i64 (K : Int), .int .i64 (i : Int)])).run Try.prog W = .ok d2 W := fun W => by rw [qA, i3, i4, hd2]
                  have HS2 : Hid (inJ c0 PL i K (j + 1) = (cj || d1 || d2)) := (show _ = _ from by rw [← hd1, ← hd2]; exact HSU.out)
                  clear hp hsu hd1 hd2 HSU i1 i2 i3 i4 hcj qA
                  cases cj with
                  | true =>
                    go_wp2
                    go_roundg (N - (j + 1))
                    case measure => omega
                    case rel => exact ⟨j + 1, by go_num, by omega, Nat.le_refl _, rfl, by rw [HS2.out]; rfl⟩
                  | false =>
                    cases d1 with
                    | true =>
                      go_wp2
                      go_roundg (N - (j + 1))
                      case measure => omega
                      case rel => exact ⟨j + 1, by go_num, by omega, Nat.le_refl _, rfl, by rw [HS2.out]; rfl⟩
                    | false =>
                      cases d2
                      all_goals
                        go_wp2
                        go_roundg (N - (j + 1))
                        case measure => omega
                        case rel => exact ⟨j + 1, by go_num, by omega, Nat.le_refl _, rfl, by rw [HS2.out]; rfl⟩
                · have hltjz : ¬ (j : Int) < (N : Int) := by omega
                  have hjN : j = N := by omega
                  obtain ⟨me, hme⟩ : ∃ c, meO (B i) (B K) = c := ⟨_, rfl⟩
                  have hfin : inJ c0 PL i K j = me := by rw [hjN, ← HN.out, HME.out]; exact hme
                  rw [hfin]
                  have HM2 : Hid (meO (B i) (B K) = me) := hme
                  clear hme hfin hjN
                  cases me with
                  | true =>
                    have hs3 := hW.size
                    have own9 := hO.bel (bl_alloc (bl_refl wr) #[.int .i64 (i : Int)] 3)
                    go_wp2_with (first | (at_builtin; refine wpList_appS (P := Try.prog) (sz := 1) (by_ := 8) (R := iRow acc) (N := [.int .i64 (i : Int)]) 29 3 rfl _ _ rfl Try.underlying29 info_int rfl rfl _ 0 1 1 rfl own9 rfl (mk_rw wr [.int .i64 (i : Int)] 3) one_int (by decide) (by simp only [World.size_alloc]; omega) (by unfold maxLen; omega) (by omega) ?_; intro v9 w9 hO9 hv9 hbX hoth hlow; obtain ⟨g9, c9, rfl, hg9⟩ := hv9; have B91 := hbX w3 (bl_alloc hW _ _) (Nat.le_refl _)))
                    go_roundg (n - (i + 1))
                    case measure => omega
                    case rel => exact ⟨i + 1, acc ++ [i], by go_num, by omega, Nat.le_refl _, by rw [List.length_append]; simp; omega, by rw [List.length_append, iRow_app]; exact hO9, B91, (show _ = _ from by rw [nums_yes (p := fun i => meO (B i) (B K)) HM2.out, HAC.out])⟩
                  | false =>
                    go_wp2
                    go_roundg (n - (i + 1))
                    case measure => omega
                    case rel => exact ⟨i + 1, acc, by go_num, by omega, Nat.le_refl _, by omega, hO, hW, (show _ = _ from by rw [nums_no (p := fun i => meO (B i) (B K)) HM2.out]; exact HAC.out)⟩
            · have hbe : ((i : Int) == (K : Int)) = false := by simp; omega
              have hde : decide ((i : Int) = (K : Int)) = false := by simp; omega
              have hc1 : c0 = false := by rw [← hc0, decide_eq_false hiK]; rfl
              have HC1 : Hid (c0 = false) := hc1
              clear hc0 cm hiK hc1
              go_upto_region 16 with (fail)
              clear x0 x1 x2 x3 hxc hbe hde
              go_wp2
              obtain ⟨wo, hwo⟩ : ∃ X, X = wr := ⟨_, rfl⟩
              rw [← hwo] at hO hW ⊢
              clear hwo
              go_loopg [15, 16] N (fun kx s15 s16 wr => ∃ j : Nat, s16 = .int .i64 j ∧ j ≤ N ∧ N - j ≤ kx ∧ wr = wo ∧ s15 = .bool (inJ c0 PL i K j))
              case atStart => exact ⟨0, rfl, Nat.zero_le _, Nat.le_refl _, rfl, by rw [inJ_zero]; rw [HC1.out]⟩
              case round =>
                obtain ⟨j, rfl, hjn, hkx2, hwe, rfl⟩ := hrel
                subst hwe
                by_cases hltj : j < N
                · have hltjz : (j : Int) < (N : Int) := by omega
                  have hwj : IntKind.wrap .i64 ((j : Int) + 1) = (j : Int) + 1 := by rw [IntKind.wrap_i64]; omega
                  obtain ⟨p, hp⟩ : ∃ p, PL[j]? = some p := ⟨_, List.getElem?_eq_getElem (by rw [HN.out]; exact hltj)⟩
                  have hsu := inJ_succ (c0 := c0) (i := i) (K := K) hp
                  obtain ⟨gp, op, hgp, hPs⟩ : ∃ gp op, s2' = some ⟨gp, op, none⟩ ∧ Ps w3 gp op PL := by
                    obtain ⟨sq, cq, e, h⟩ := q2
                    injection e with e1 _ _
                    rcases h with h | ⟨g', o', e', h⟩
                    · rw [h] at hp; simp at hp
                    · exact ⟨g', o', by rw [e1, e'], h⟩
                  subst hgp
                  obtain ⟨z0, z1⟩ := (hPs.bel hW) j p hp
                  obtain ⟨cj, hcj⟩ : ∃ c, inJ c0 PL i K j = c := ⟨_, rfl⟩
                  rw [hcj] at hsu ⊢
                  have HSU : Hid _ := hsu
                  have i1 : (((p.1 : Int) == (i : Int)) : Bool) = (p.1 == i) := by rw [Bool.eq_iff_iff]; simp; omega
                  have i2 : (((p.2 : Int) == (K : Int)) : Bool) = (p.2 == K) := by rw [Bool.eq_iff_iff]; simp; omega
                  have i3 : (((p.1 : Int) == (K : Int)) : Bool) = (p.1 == K) := by rw [Bool.eq_iff_iff]; simp; omega
                  have i4 : (((p.2 : Int) == (i : Int)) : Bool) = (p.2 == i) := by rw [Bool.eq_iff_iff]; simp; omega
                  obtain ⟨d1, hd1⟩ : ∃ c, (p.1 == i && p.2 == K) = c := ⟨_, rfl⟩
                  obtain ⟨d2, hd2⟩ : ∃ c, (p.1 == K && p.2 == i) = c := ⟨_, rfl⟩
                  have r1 : ∀ W, (Op.equalIn 10000 37 (.agg #[.int .i64 (p.1 : Int), .int .i64 (p.2 : Int)]) (.agg #[.int .i64 (i : Int), .int .i64 (K : Int)])).run Try.prog W = .ok d1 W := fun W => by rw [qA, i1, i2, hd1]
                  have r2 : ∀ W, (Op.equalIn 10000 37 (.agg #[.int .i64 (p.1 : Int), .int .i64 (p.2 : Int)]) (.agg #[.int .i64 (K : Int), .int .i64 (i : Int)])).run Try.prog W = .ok d2 W := fun W => by rw [qA, i3, i4, hd2]
                  have HS2 : Hid (inJ c0 PL i K (j + 1) = (cj || d1 || d2)) := (show _ = _ from by rw [← hd1, ← hd2]; exact HSU.out)
                  clear hp hsu hd1 hd2 HSU i1 i2 i3 i4 hcj qA
                  cases cj with
                  | true =>
                    go_wp2
                    go_roundg (N - (j + 1))
                    case measure => omega
                    case rel => exact ⟨j + 1, by go_num, by omega, Nat.le_refl _, rfl, by rw [HS2.out]; rfl⟩
                  | false =>
                    cases d1 with
                    | true =>
                      go_wp2
                      go_roundg (N - (j + 1))
                      case measure => omega
                      case rel => exact ⟨j + 1, by go_num, by omega, Nat.le_refl _, rfl, by rw [HS2.out]; rfl⟩
                    | false =>
                      cases d2
                      all_goals
                        go_wp2
                        go_roundg (N - (j + 1))
                        case measure => omega
                        case rel => exact ⟨j + 1, by go_num, by omega, Nat.le_refl _, rfl, by rw [HS2.out]; rfl⟩
                · have hltjz : ¬ (j : Int) < (N : Int) := by omega
                  have hjN : j = N := by omega
                  obtain ⟨me, hme⟩ : ∃ c, meO (B i) (B K) = c := ⟨_, rfl⟩
                  have hfin : inJ c0 PL i K j = me := by rw [hjN, ← HN.out, HME.out]; exact hme
                  rw [hfin]
                  have HM2 : Hid (meO (B i) (B K) = me) := hme
                  clear hme hfin hjN
                  cases me with
                  | true =>
                    have hs3 := hW.size
                    have own9 := hO.bel (bl_alloc (bl_refl wr) #[.int .i64 (i : Int)] 3)
                    go_wp2_with (first | (at_builtin; refine wpList_appS (P := Try.prog) (sz := 1) (by_ := 8) (R := iRow acc) (N := [.int .i64 (i : Int)]) 29 3 rfl _ _ rfl Try.underlying29 info_int rfl rfl _ 0 1 1 rfl own9 rfl (mk_rw wr [.int .i64 (i : Int)] 3) one_int (by decide) (by simp only [World.size_alloc]; omega) (by unfold maxLen; omega) (by omega) ?_; intro v9 w9 hO9 hv9 hbX hoth hlow; obtain ⟨g9, c9, rfl, hg9⟩ := hv9; have B91 := hbX w3 (bl_alloc hW _ _) (Nat.le_refl _)))
                    go_roundg (n - (i + 1))
                    case measure => omega
                    case rel => exact ⟨i + 1, acc ++ [i], by go_num, by omega, Nat.le_refl _, by rw [List.length_append]; simp; omega, by rw [List.length_append, iRow_app]; exact hO9, B91, (show _ = _ from by rw [nums_yes (p := fun i => meO (B i) (B K)) HM2.out, HAC.out])⟩
                  | false =>
                    go_wp2
                    go_roundg (n - (i + 1))
                    case measure => omega
                    case rel => exact ⟨i + 1, acc, by go_num, by omega, Nat.le_refl _, by omega, hO, hW, (show _ = _ from by rw [nums_no (p := fun i => meO (B i) (B K)) HM2.out]; exact HAC.out)⟩
          · have hltz : ¬ (i : Int) < (n : Int) := by omega
            have hii : i = n := by omega
            have HG : Hid (acc = GL) := (show _ = _ from by rw [HAC.out, hii]; exact HGL.out)
            clear hii
            have q3r := q3.below hW.1
            have qo : IRow wr (.slice sg acc.length cg) GL := by rw [← HG.out]; exact own_row hO
            go_wp2_with (first | (go_at_call 10; (with_reducible refine (sameI_s GL v3 (.slice sg acc.length cg) wr q3r qo (by omega)).mono ?_); rintro e w8 ⟨rfl, hb8⟩))
            go_ret
            exact ⟨by first | rfl | simp, (K3.trans (hW.1.mono K3.size)).trans (hb8.1.mono (Nat.le_trans K3.size hW.size))⟩
    · have hnz : (200 : Int) < (n : Int) := by omega
      go_enter Try.func3, Try.ntmps3
      go_wp2_with (first | (go_at_call 6; (with_reducible refine (alive14_s _).mono ?_); rintro e w1 ⟨rfl, hb1⟩; have hA1 := hA.below hb1))
      go_ret
      exact ⟨rfl, hb1⟩

/-- a row of boxes: none, or len of them in cells, with room for cap -/
def IsBoxes (w : World) (a : Option Addr) (len cap : Nat) : Prop :=
  (a = none ∧ len = 0 ∧ cap = 0) ∨ ∃ (x : Addr) (B : Nat → Bo), a = some x ∧ len ≤ cap ∧ cap ≤ maxLen ∧ len * 32 ≤ 140737488351232 ∧ ∀ i, i < len → w.cell? (x.add (i * 4)) = some (.float .f64 (B i).1) ∧ w.cell? (x.add (i * 4 + 1)) = some (.float .f64 (B i).2.1) ∧ w.cell? (x.add (i * 4 + 2)) = some (.float .f64 (B i).2.2.1) ∧ w.cell? (x.add (i * 4 + 3)) = some (.float .f64 (B i).2.2.2) ∧ okK .f64 (B i).1 ∧ okK .f64 (B i).2.1 ∧ okK .f64 (B i).2.2.1 ∧ okK .f64 (B i).2.2.2
theorem any_of {w : World} {a : Option Addr} {len cap : Nat} (h : IsBoxes w a len cap) : ∃ B, AnyB w a len B ∧ len * 32 ≤ 140737488351232 ∧ ∀ i, i < len → okK .f64 (B i).1 ∧ okK .f64 (B i).2.1 ∧ okK .f64 (B i).2.2.1 ∧ okK .f64 (B i).2.2.2 := by
  rcases h with ⟨rfl, rfl, rfl⟩ | ⟨x, B, rfl, hl, hm, hr, hcell⟩
  · exact ⟨fun _ => (0, 0, 0, 0), .inl rfl, by omega, fun i hi => by omega⟩
  · refine ⟨B, ?_, hr, fun i hi => (hcell i hi).2.2.2.2⟩
    rcases Nat.eq_zero_or_pos len with h0 | h0
    · exact .inl h0
    · right
      obtain ⟨b, off, spot⟩ := x
      have hspot : spot = none := by simpa [Addr.add] using World.cell?_spot (hcell 0 h0).1
      subst hspot
      have hc0 := (hcell 0 h0).1
      rw [add_plain] at hc0
      refine ⟨b, off, rfl, fun i hi => ?_, World.block_lt_of_cell? _ _ hc0⟩
      obtain ⟨h1, h2, h3, h4, _⟩ := hcell i hi
      rw [add_plain] at h1 h2 h3 h4
      rw [← Nat.add_assoc] at h2 h3 h4
      exact ⟨h1, h2, h3, h4⟩
theorem walk (a0 : Option Addr) (len0 cap0 : Nat) (i1 : Int) (wi1 : (Lit.int .i64 i1).wf = true) (s2 : Nat) (os2 : okK .f64 s2) (w : World) (h0 : IsBoxes w a0 len0 cap0) :
    Calls Try.prog 3 #[.slice a0 len0 cap0, .int .i64 i1, .float .f64 s2] w fun e w' => e = .returned (.bool true) ∧ Below w.heap.size w w' := by
  obtain ⟨B0, g0, r0, o0⟩ := any_of h0
  exact walk_any a0 len0 cap0 B0 i1 wi1 s2 os2 w g0 r0 o0

set_option maxRecDepth 100000 in
theorem lifted (os : Os) (started : os.Started) (H : Type) (enc : TypeId × Value → H) :
    ReturnsInHanded {} Try.checked os 3 .any (Rows.gridPartnersSpec.pre6 enc Try.prog Try.f3 Rows.gridPartnersRow.domain false) (Rows.gridPartnersSpec.post enc Try.prog Try.f3 false true false false) := by
  refine returnsInHanded_of_change_sized (C := Try.checked) own started (by kernel_rfl) Try.func3
    (ChangeSpec.witness6 (enc := enc) (C := Try.checked) false ⟨#[], #[.slice none 0 0, .int .i64 0, .float .f64 0], []⟩ 8 (by kernel_rfl) (by kernel_rfl) (by kernel_rfl) (by kernel_rfl)) ?_
  intro W base args ds gs before hval0 hW hcnd hsz0 _
  have hsz : (DataW.weightsEach Try.prog (Try.f3.params.toList ++ Rows.gridPartnersSpec.plain.varTypes Try.prog) (ds ++ gs)).all (· ≤ reachBytes) = true := hsz0
  have hval : ∀ (j : Nat) t v, Try.f3.params[j]? = some t → args[j]? = some v → Value.okWide Try.prog W .any base t v := hval0
  have hW' := hW
  obtain ⟨p, q, hA0, hV, rfl, hfz, hnd⟩ := hW
  have hA : DataW.TrodAll enc Try.prog W 0 (fun _ => true) true Try.f3.params.toList args.toList ds p := hA0
  rw [Try.params3] at hA hval hsz
  obtain ⟨v0, vs0, d0, ds0, p0, q0, hargs, rfl, rfl, h0, r0⟩ := trodAll_cons hA
  obtain ⟨v1, vs1, d1, ds1, p1, q1, rfl, rfl, rfl, h1, r1⟩ := trodAll_cons r0
  obtain ⟨v2, vs2, d2, ds2, p2, q2, rfl, rfl, rfl, h2, r2⟩ := trodAll_cons r1
  obtain ⟨rfl, rfl, rfl⟩ := trodAll_nil r2
  obtain rfl : args = #[v0, v1, v2] := by cases args; simp_all
  obtain ⟨rfl, rfl⟩ := trodVars_none hV
  obtain ⟨a0, len0, cap0, rfl⟩ := okWide_slice Try.underlying22 (hval 0 22 v0 rfl rfl)
  obtain ⟨i1, rfl, rfl, rfl, wi1⟩ := open_int Try.underlying3 (hval 1 3 v1 rfl rfl) h1
  obtain ⟨s2, rfl, rfl, rfl, ws2⟩ := open_float Try.underlying23 (hval 2 23 v2 rfl rfl) h2
  have k0 := h0
  have lt0 : ∀ x ∈ p0, x.block < W.heap.size := by obtain ⟨m, hm⟩ := k0; exact DataW.trod_lt m _ _ _ hm
  have w0 : IsBoxes W a0 len0 cap0 := by
    obtain ⟨fuel, hf⟩ := h0
    rcases Go.Deep.open_slice Try.underlying22 hf with ⟨hcs, _⟩ | ⟨x, l, c, m, n, D, Pl, hcs, _, hl, hm, hmm, hx, hcell⟩
    · simp [Value.cells] at hcs
      exact .inl hcs
    · simp [Value.cells] at hcs
      obtain ⟨rfl, rfl, rfl⟩ := hcs
      simp only [Prod.mk.injEq] at hx
      obtain ⟨rfl, rfl⟩ := hx
      have hr := sized_slice hsz (j := 0) (t := 22) (e := 35) rfl rfl Try.underlying22
      rw [show Try.prog.bytesOf 35 = 32 by kernel_rfl] at hr
      simp only [List.length_map, List.length_range, reachBytes] at hr
      have hlm : len0 ≤ m := by rw [hmm]; split <;> omega
      have V : ∀ i, ∃ q : Nat × Nat × Nat × Nat, i < m → W.cell? (x.add (i * 4)) = some (.float .f64 q.1) ∧ W.cell? (x.add (i * 4 + 1)) = some (.float .f64 q.2.1) ∧ W.cell? (x.add (i * 4 + 2)) = some (.float .f64 q.2.2.1) ∧ W.cell? (x.add (i * 4 + 3)) = some (.float .f64 q.2.2.2) ∧ okK .f64 q.1 ∧ okK .f64 q.2.1 ∧ okK .f64 q.2.2.1 ∧ okK .f64 q.2.2.2 := by
        intro i
        by_cases hi : i < m
        · obtain ⟨cs', h1, h2⟩ := hcell i hi
          rw [cellsM] at h1
          obtain ⟨_, hlen, hce⟩ := World.cells?_some h1
          obtain ⟨y0, y1, n', hx', _, g0, g1⟩ := trod_struct2 Try.underlying35 h2
          match cs', hlen with
          | [v0, v1, v2, v3], _ =>
            simp [cellsV] at g0 g1
            obtain ⟨z0, z1, n2, hz, _, g4, g5⟩ := trod_struct2 Try.underlying33 g0
            obtain ⟨z2, z3, n3, hz3, _, g6, g7⟩ := trod_struct2 Try.underlying33 g1
            simp [cellsF] at g4 g5 g6 g7
            obtain ⟨a, e0, _, wa⟩ := trod_fl Try.underlying23 g4
            obtain ⟨b, e1, _, wb⟩ := trod_fl Try.underlying23 g5
            obtain ⟨c, e2, _, wc⟩ := trod_fl Try.underlying23 g6
            obtain ⟨d, e3, _, wd⟩ := trod_fl Try.underlying23 g7
            simp at e0 e1 e2 e3
            subst e0 e1 e2 e3
            have q0 := hce 0 (by omega)
            have q1 := hce 1 (by omega)
            have q2 := hce 2 (by omega)
            have q3 := hce 3 (by omega)
            rw [Go.Deep.add_add] at q0 q1 q2 q3
            exact ⟨(a, b, c, d), fun _ => ⟨by simpa using q0, by simpa using q1, by simpa using q2, by simpa using q3, wf_f64 wa, wf_f64 wb, wf_f64 wc, wf_f64 wd⟩⟩
        · exact ⟨(0, 0, 0, 0), fun h => absurd h hi⟩
      have V' := Classical.axiomOfChoice V
      obtain ⟨f, hf'⟩ := V'
      exact .inr ⟨x, f, rfl, hl, hm, by omega, fun i hi => hf' i (by omega)⟩
  clear hA0 hval0 hsz0
  refine (walk a0 len0 cap0 i1 wi1 s2 (wf_f64 ws2) W w0).mono fun e W' ⟨he, bel0⟩ => ?_
  have bel := bel0
  subst he
  exact ⟨_, rfl, _, _, _, [], _, [], hW', trodAll_mk1 (shut_bool Try.underlying4 _), (trodAll_cons_mk (Below.trod laidOut (by kernel_rfl) (of_decide_eq_true (by kernel_rfl)) k0 bel lt0) (trodAll_cons_mk (shut_int Try.underlying3 wi1) (trodAll_cons_mk (shut_float Try.underlying23 ws2) trodAll_mk0))), rfl, bel.frame _, fun h => by cases h⟩

theorem over : Rows.gridPartnersRow.holds Try.pinned (OpenSpec.ofChange Rows.gridPartnersSpec) :=
  OpenClaim.holds_of_wide 3 Try.f3 rfl rfl rfl rfl rfl rfl rfl ⟨rfl, rfl, rfl, rfl, rfl⟩ rfl rfl rfl rfl rfl (by kernel_rfl) Try.func3 (by kernel_rfl)
    (of_decide_eq_true (by kernel_rfl)) (by unfold Func.isWrapper; first | (rw [if_pos (by decide +kernel)]; kernel_rfl) | (rw [if_neg (by decide +kernel)]; exact ⟨rfl, rfl⟩))
    (fun os started H enc _ => lifted os started H enc)

theorem proved : Rows.GridPartnersSaid :=
  over
#print axioms proved
end Go.Proofs.Ytekhnolpgoejdab.gridPartners
