/-
  'tumblelaw13.SweepTurned' is true of all rows of boxes.
-/
import Derived.Test.YtgcklheijcfneaaRows
import Derived.Test.YtgcklheijcfneaaSwan
import Derived.Test.YtgcklheijcfneaaOnc5
import Derived.Test.YtgcklheijcfneaaApps
import Derived.WalkKit
import Derived.ProofKit
import Derived.OpenShut
import Derived.WalkLawsBesides
import Derived.WalkSpells
import Derived.Lib.SmallJoins
import Derived.Laws.Cover2
import Derived.Laws.AppendOwn
import Derived.Laws.OwnMore
import Derived.Laws.AppendOwnNone
import Derived.Deep.RegionHeld3
import Derived.Deep.RegionWith
import Derived.Deep.SlicePairs
import Derived.Deep.Strs
import Derived.SizedLaws
import Derived.Below
import Derived.Deep.DeepCutAuto
import Derived.Laws.StructEq
namespace Go.Proofs.Ytgcklheijcfneaa.sweepTurned
open Go.ChangeShapes Go.WideShapes Go.ChangeAt Go.RowKit Go.Joins Go.Sort
set_option linter.unusedVariables false
set_option linter.unusedSimpArgs false

theorem own : ownKnob Try.prog.godebug = none := by kernel_rfl
theorem laidOut : laidOutB Try.prog = true := by kernel_rfl
theorem wf_f64 {x : Nat} (h : (Lit.float .f64 x).wf = true) : okK .f64 x := by
  rw [okK64]; simpa [Lit.wf] using h
theorem trod_fl {H : Type} {enc : TypeId × Value → H} {P : Program} {w : World} {base fuel : Nat} {spare : Nat → Bool} {held : Bool} {t : TypeId} {cs : List Value} {x : DataW H × List MemPlace} {k : FloatKind} (ht : P.underlying t = some (.float k)) (h : DataW.trod enc P w base spare held fuel t cs = some x) : ∃ z, cs = [.float k z] ∧ x = (.lit (.float k z), []) ∧ (Lit.float k z).wf = true := by
  cases fuel with
  | zero => simp [DataW.trod] at h
  | succ n =>
    unfold DataW.trod at h
    rw [ht] at h
    split at h <;> simp_all

theorem cellsV : Try.prog.cellsOf 25 = 2 := by kernel_rfl
theorem cellsM : Try.prog.cellsOf 27 = 4 := by kernel_rfl
theorem cellsF : Try.prog.cellsOf 23 = 1 := by kernel_rfl

theorem bRow_snoc (B : Nat → Bo) (n : Nat) : bRow B (n + 1) = bRow B n ++ [.float .f64 (B n).1, .float .f64 (B n).2.1, .float .f64 (B n).2.2.1, .float .f64 (B n).2.2.2] := by
  have e : List.range ((n + 1) * 4) = List.range (n * 4) ++ [n * 4, n * 4 + 1, n * 4 + 2, n * 4 + 3] := by
    rw [show (n + 1) * 4 = n * 4 + 1 + 1 + 1 + 1 by omega, List.range_succ, List.range_succ, List.range_succ, List.range_succ]
    simp
  unfold bRow
  rw [e, List.map_append]
  congr 1
  simp only [List.map_cons, List.map_nil]
  rw [show n * 4 / 4 = n by omega, show (n * 4 + 1) / 4 = n by omega, show (n * 4 + 2) / 4 = n by omega, show (n * 4 + 3) / 4 = n by omega, show n * 4 % 4 = 0 by omega, show (n * 4 + 1) % 4 = 1 by omega, show (n * 4 + 2) % 4 = 2 by omega, show (n * 4 + 3) % 4 = 3 by omega]
  rfl
theorem ord_len {B : Nat → Bo} {n : Nat} {O : List Nat} (h : OrdL B n O) : O.length = (nums (fun i => mayO (B i)) n).length := by
  refine List.Perm.length_eq ((List.perm_ext_iff_of_nodup h.nodup ((nums_lt _ n).imp fun h e => by omega)).2 fun i => ?_)
  rw [h.mem, nums_mem]
theorem any_back {base n : Nat} {w : World} {v : Value} {B : Nat → Bo} (h : OwnR 4 base w v n (bRow B n)) : ∃ sb c, v = .slice sb n c ∧ AnyB w sb n B := by
  rcases own_split h (by decide) with ⟨rfl, sa, cap, rfl⟩ | ⟨h0, g, cap, rfl, _, hg, _⟩
  · exact ⟨sa, cap, rfl, .inl rfl⟩
  · refine ⟨_, cap, rfl, .inr ⟨g, 0, rfl, ?_, hg⟩⟩
    refine rw_bs ?_
    have h2 := h.2
    rcases h2 with ⟨e, rfl⟩ | ⟨g', cap', e, _, _, _, h4, _⟩
    · cases e
    · cases e; exact h4
theorem read_q {w : World} {v : Value} {L : List (Nat × Nat)} (h : PRow w v L) {N : Nat} (hN : L.length = N) : ∃ sa cap, v = .slice sa N cap ∧ ∀ (t : Nat) (x : Nat × Nat), L[t]? = some x → ∃ g o, sa = some ⟨g, o, none⟩ ∧ Ps w g o L := by
  obtain ⟨sa, cap, e, h⟩ := h
  refine ⟨sa, cap, by rw [← hN]; exact e, fun t x ht => ?_⟩
  rcases h with h | h
  · rw [h] at ht; simp at ht
  · exact h
theorem read_i {w : World} {v : Value} {L : List Nat} (h : IRow w v L) {N : Nat} (hN : L.length = N) : ∃ sa cap, v = .slice sa N cap ∧ ∀ (t : Nat) (x : Nat), L[t]? = some x → ∃ g o, sa = some ⟨g, o, none⟩ ∧ Is w g o L := by
  obtain ⟨sa, cap, e, h⟩ := h
  refine ⟨sa, cap, by rw [← hN]; exact e, fun t x ht => ?_⟩
  rcases h with h | h
  · rw [h] at ht; simp at ht
  · exact h
theorem pw_at {α : Type} {r : α → α → Prop} {l : List α} (h : l.Pairwise r) {i : Nat} {x y : α} (hx : l[i]? = some x) (hy : l[i + 1]? = some y) : r x y := by
  rw [List.pairwise_iff_getElem] at h
  obtain ⟨h1, e1⟩ := List.getElem?_eq_some_iff.1 hx
  obtain ⟨h2, e2⟩ := List.getElem?_eq_some_iff.1 hy
  have := h i (i + 1) h1 h2 (by omega)
  rw [e1, e2] at this
  exact this
theorem eq_kX {a b : Bo} (ha : mayO a = true) (hb : mayO b = true) : eqK .f64 a.1 b.1 = decide (kX a = kX b) := by
  unfold eqK kX
  rw [(may_nan ha).1, (may_nan hb).1]
  rfl
set_option maxRecDepth 100000 in
set_option maxHeartbeats 32000000 in
theorem walk_any (sa : Option Addr) (n cap : Nat) (B : Nat → Bo) (w : World) (hA : AnyB w sa n B) (hr : n * 32 ≤ 140737488351232) (ho : ∀ i, i < n → okK .f64 (B i).1 ∧ okK .f64 (B i).2.1 ∧ okK .f64 (B i).2.2.1 ∧ okK .f64 (B i).2.2.2) :
    Calls Try.prog 4 #[.slice sa n cap] w fun e w' => e = .returned (.bool true) ∧ Below w.heap.size w w' := by
  clear ho
  obtain ⟨C, hC⟩ : ∃ C : Nat → Bo, C = fun i => B (n - 1 - i) := ⟨_, rfl⟩
  have HC : Hid (C = fun i => B (n - 1 - i)) := hC
  clear hC
  obtain ⟨E, hE⟩ : ∃ E, prE n (refP B n) = E := ⟨_, rfl⟩
  obtain ⟨PL, hPL⟩ : ∃ L, prL n (refP B n) = L := ⟨_, rfl⟩
  obtain ⟨QL, hQL⟩ : ∃ L, prL n (refP C n) = L := ⟨_, rfl⟩
  have hlen : (refP C n).length = (refP B n).length := by rw [HC.out]; exact refP_back B n
  have hF : prE n (refP C n) = E := by rw [← hE]; unfold prE; rw [hlen]
  have hPQ : QL.length = PL.length := by
    rw [← hPL, ← hQL]; unfold prL
    split
    · rfl
    · rw [hlen]; split
      · rfl
      · exact hlen
  have HE : Hid (prE n (refP B n) = E) := hE
  have HL : Hid (prL n (refP B n) = PL) := hPL
  have HF : Hid (prE n (refP C n) = E) := hF
  have HT : Hid (prL n (refP C n) = QL) := hQL
  have HPQ : Hid (QL.length = PL.length) := hPQ
  obtain ⟨M, hM⟩ : ∃ M, mnE n = M := ⟨_, rfl⟩
  have HM : Hid (mnE n = M) := hM
  clear hE hPL hF hQL hlen hPQ hM
  have cge := cmp_gt .f64
  have clt := cmp_lt .f64
  have ceq := cmp_eq .f64
  have hw0 : IntKind.wrap .i64 ((n : Int) - 1) = (n : Int) - 1 := by rw [IntKind.wrap_i64]; omega
  go_enter Try.func4, Try.ntmps4
  go_wp2_with (first | (go_at_call 13; (with_reducible refine (alive_s _).mono ?_); rintro e w1 ⟨rfl, hb1⟩; have hA1 := hA.below hb1))
  go_loopg [4, 5] n (fun kx s4 s5 wr => ∃ (k : Nat) (i : Int), s5 = .int .i64 i ∧ i + k + 1 = n ∧ k ≤ n ∧ n - k ≤ kx ∧ OwnR 4 w1.heap.size wr s4 k (bRow C k) ∧ Bel w1 wr)
  case atStart => exact ⟨0, (n : Int) - 1, rfl, by omega, by omega, by omega, OwnR.nil _ _ _, bl_refl _⟩
  case round =>
    obtain ⟨k, i, rfl, hik, hkn, hkx, hO, hW⟩ := hrel
    by_cases hi0 : 0 ≤ i
    · obtain ⟨j, rfl⟩ : ∃ j : Nat, i = j := ⟨i.toNat, by omega⟩
      have hjn : j < n := by omega
      have hjz : (j : Int) < (n : Int) := by omega
      have hwk : IntKind.wrap .i64 ((j : Int) - 1) = (j : Int) - 1 := by rw [IntKind.wrap_i64]; omega
      obtain ⟨b, off, hsa, hB, hb0⟩ : ∃ b off, sa = some ⟨b, off, none⟩ ∧ Bs w1 b off n B ∧ b < w1.heap.size := by
        rcases hA1 with h0 | h0
        · omega
        · exact h0
      clear hA hA1
      subst hsa
      obtain ⟨x0, x1, x2, x3⟩ := (hB.bel hW) j hjn
      have hCk : C k = B j := by rw [HC.out]; show B (n - 1 - k) = B j; congr 1; omega
      have one : ∀ u ∈ ([.float .f64 (B j).1, .float .f64 (B j).2.1, .float .f64 (B j).2.2.1, .float .f64 (B j).2.2.2] : List Value), u.oneCell' = true := by
        intro u hu
        simp only [List.mem_cons, List.not_mem_nil, or_false] at hu
        rcases hu with rfl | rfl | rfl | rfl <;> rfl
      have hsz := hW.size
      have HCK : Hid (C k = B j) := hCk
      clear hCk
      have hO' := hO.bel (bl_alloc (bl_refl wr) #[.float .f64 (B j).1, .float .f64 (B j).2.1, .float .f64 (B j).2.2.1, .float .f64 (B j).2.2.2] 27)
      go_wp2_with (first | (at_builtin; refine wpList_appR (P := Try.prog) (sz := 4) (by_ := 32) (R := bRow C k) (N := [.float .f64 (B j).1, .float .f64 (B j).2.1, .float .f64 (B j).2.2.1, .float .f64 (B j).2.2.2]) 22 27 rfl _ _ rfl Try.underlying22 info_box rfl rfl _ 0 1 1 rfl hO' rfl (mk_rw wr [.float .f64 (B j).1, .float .f64 (B j).2.1, .float .f64 (B j).2.2.1, .float .f64 (B j).2.2.2] 27) one (by decide) (by simp only [World.size_alloc]; omega) (by unfold maxLen; omega) (by omega) ?_; intro v2 w2 hO2 hv2 hb2; have B2 := hb2 w1 (bl_alloc hW _ _) (Nat.le_refl _)))
      go_roundg (n - (k + 1))
      case measure => omega
      case rel => exact ⟨k + 1, (j : Int) - 1, by go_num, by omega, by omega, Nat.le_refl _, by rw [bRow_snoc, HCK.out]; exact hO2, B2⟩
    · have hnk : n = k := by omega
      subst hnk
      have him : i = -1 := by omega
      subst him
      obtain ⟨w2, hw2⟩ : ∃ X, X = wr := ⟨_, rfl⟩
      subst hw2
      obtain ⟨sb, cb, hvb, hAb⟩ := any_back hO
      subst hvb
      have L2 := bw_trans hb1 hW.1
      have hA2 := hA1.below hW.1
      clear hik hkn hkx hi0 hO
      go_upto_region 10 with (first | (go_at_call 11; (with_reducible refine (ord_any sa n cap B w4 hA4).mono ?_); rintro e w5 ⟨vo, O, rfl, hord, hOo, hb5, _⟩; rw [HM.out]; have L5 := bw_trans L4 hb5; have hA5 := hA4.below hb5; replace hq := hq.below hb5; have hio := own_row hOo) | (have zz := hA3; go_at_call 9; (with_reducible refine (pairs_any sb n cb C w3 hAb3).mono ?_); rintro e w4 ⟨vq, rfl, hOq, _, hb4⟩; rw [HF.out]; rw [HT.out] at hOq; have L4 := bw_trans L3 hb4; have hA4 := hA3.below hb4; have hq := own_prow hOq) | (go_at_call 9; (with_reducible refine (pairs_any sa n cap B w2 hA2).mono ?_); rintro e w3 ⟨vp, rfl, hOp, _, hb3⟩; rw [HE.out]; rw [HL.out] at hOp; have L3 := bw_trans L2 hb3; have hA3 := hA2.below hb3; have hAb3 := hAb.below hb3; obtain ⟨sp, cp, hvp, _⟩ := own_prow hOp; subst hvp))
      obtain ⟨NQ, hNQ⟩ : ∃ N, QL.length = N := ⟨_, rfl⟩
      obtain ⟨NO, hNO⟩ : ∃ N, O.length = N := ⟨_, rfl⟩
      obtain ⟨sq, cq, hvq, hQs⟩ := read_q hq hNQ
      obtain ⟨so, co, hvo, hIs⟩ := read_i hio hNO
      subst hvq hvo
      have hPN : PL.length = NQ := by rw [← HPQ.out]; exact hNQ
      rw [hPN]
      have HNQ : Hid (QL.length = NQ) := hNQ
      have HNO : Hid (O.length = NO) := hNO
      have HQS : Hid _ := hQs
      have HIS : Hid _ := hIs
      have HORD : Hid _ := hord
      clear hq hio hOq hOo hOp hNQ hNO hQs hIs hord hA1 hA2 hA3 hAb hAb3 hA4 L2 L3 L4 hPN hb3 hb4 hb5
      by_cases hdo : E ≠ 0 ∨ 2000 < n
      · rcases (show E = 4 ∨ (E = 0 ∧ 2000 < n) by
          rw [← HE.out] at hdo ⊢
          unfold prE at hdo ⊢
          split
          · exact .inl rfl
          · split
            · exact .inl rfl
            · rename_i h1 h2
              rw [if_neg h1, if_neg h2] at hdo
              exact .inr ⟨rfl, by rcases hdo with h | h; exact absurd rfl h; exact h⟩) with e4 | ⟨e0, h2⟩
        · subst e4
          clear hdo
          go_wp2
          go_ret
          exact ⟨by first | rfl | simp, L5⟩
        · subst e0
          clear hdo
          have h2z : (2000 : Int) < (n : Int) := by omega
          go_wp2
          go_ret
          exact ⟨by first | rfl | simp, L5⟩
      · have h2 : n ≤ 2000 := by
          apply Decidable.byContradiction
          intro h; exact hdo (.inr (by omega))
        have e0 : E = 0 := by
          apply Decidable.byContradiction
          intro h; exact hdo (.inl h)
        subst e0
        clear hdo
        have h2z : ¬ (2000 : Int) < (n : Int) := by omega
        have hm0 : M = 0 := by rw [← HM.out, mnE, if_neg (by omega)]
        subst hm0
        have eQ : QL = refP C n := by
          have h := HE.out
          rw [← HF.out] at h
          have h' := HF.out
          rw [← HT.out]
          unfold prE at h'
          unfold prL
          rw [if_neg (by omega)] at h' ⊢
          split at h'
          · cases h'
          · rename_i hh; rw [if_neg hh]
        have lQ : NQ ≤ 65536 := by
          rw [← HNQ.out, ← HT.out]; exact prL_len n _
        have EQ : Hid (QL = refP C n) := eQ
        have hol : OrdL B n O := HORD.out.2 (by omega)
        have lO : NO ≤ 2000 := by have := hol.len; rw [HNO.out] at this; omega
        have HOL : Hid (OrdL B n O) := hol
        clear eQ hol HORD
        go_wp2
        go_loopg [12] NQ (fun kx s12 wr => ∃ t : Nat, s12 = .int .i64 t ∧ t ≤ NQ ∧ NQ - t ≤ kx ∧ Bel w5 wr)
        case atStart => exact ⟨0, rfl, by omega, by omega, bl_refl _⟩
        case round =>
          obtain ⟨t, rfl, htn, hkx, hW5⟩ := hrel
          by_cases hlt : t < NQ
          · have hltz : (t : Int) < (NQ : Int) := by omega
            have hwk : IntKind.wrap .i64 ((t : Int) + 1) = (t : Int) + 1 := by rw [IntKind.wrap_i64]; omega
            obtain ⟨⟨x, y⟩, hxy⟩ : ∃ p, QL[t]? = some p := ⟨_, List.getElem?_eq_getElem (by rw [HNQ.out]; exact hlt)⟩
            obtain ⟨hx1, hx2, hx3⟩ : x < y ∧ y < n ∧ meO (C x) (C y) = true := by
              have := List.mem_of_getElem? hxy
              rw [EQ.out, mem_refP] at this
              exact this
            obtain ⟨gq, oq, hsq, hPq⟩ := HQS.out t _ hxy
            subst hsq
            obtain ⟨z0, z1⟩ := (hPq.bel hW5) t _ hxy
            clear hxy hPq
            obtain ⟨a, ha⟩ : ∃ a, a = n - 1 - y := ⟨_, rfl⟩
            obtain ⟨c, hc⟩ : ∃ c, c = n - 1 - x := ⟨_, rfl⟩
            have hmo : meO (B a) (B c) = true := by
              rw [HC.out] at hx3
              rw [me_sym, ha, hc]; exact hx3
            have ea : IntKind.wrap .i64 ((n : Int) - 1 - (y : Int)) = (a : Int) := by rw [IntKind.wrap_i64]; omega
            have ec : IntKind.wrap .i64 ((n : Int) - 1 - (x : Int)) = (c : Int) := by rw [IntKind.wrap_i64]; omega
            have hac : a < c := by omega
            have hcn : c < n := by omega
            have HM2 : Hid (meO (B a) (B c) = true) := hmo
            clear ha hc hmo hx1 hx2 hx3
            have q1 : ¬ (a : Int) < 0 := by omega
            have q2 : ¬ (n : Int) ≤ (c : Int) := by omega
            have q3 : ¬ (c : Int) ≤ (a : Int) := by omega
            have q1d : decide ((a : Int) < 0) = false := decide_eq_false q1
            have q2d : decide ((n : Int) ≤ (c : Int)) = false := decide_eq_false q2
            have q3d : decide ((c : Int) ≤ (a : Int)) = false := decide_eq_false q3
            have q2g : decide (n ≤ c) = false := decide_eq_false (by omega)
            have q3g : decide (c ≤ a) = false := decide_eq_false (by omega)
            have q2e : decide ((c : Int) ≥ (n : Int)) = false := q2d
            have q3e : decide ((a : Int) ≥ (c : Int)) = false := q3d
            have q2f : decide ((c : Int) < (n : Int)) = true := decide_eq_true (by omega)
            have q3f : decide ((a : Int) < (c : Int)) = true := decide_eq_true (by omega)
            have q4 : (a : Int) < (n : Int) := by omega
            have q5 : (c : Int) < (n : Int) := by omega
            obtain ⟨b, off, hsa, hB, hb0⟩ : ∃ b off, sa = some ⟨b, off, none⟩ ∧ Bs w5 b off n B ∧ b < w5.heap.size := by
              rcases hA5 with h0 | h0
              · omega
              · exact h0
            clear hA hA5
            subst hsa
            obtain ⟨a0, a1, a2, a3⟩ := (hB.bel hW5) a (by omega)
            obtain ⟨c0, c1, c2, c3⟩ := (hB.bel hW5) c (by omega)
            haveI := belBy_some wr
            have y0 := belBy_cell a0
            have y1 := belBy_cell a1
            have y2 := belBy_cell a2
            have y3 := belBy_cell a3
            have v0 := belBy_cell c0
            have v1 := belBy_cell c1
            have v2 := belBy_cell c2
            have v3 := belBy_cell c3
            have u0 := belBy_cell z0
            have u1 := belBy_cell z1
            have hov : ∀ W, Calls Try.prog 14 #[.agg #[.float .f64 (B a).1, .float .f64 (B a).2.1, .float .f64 (B a).2.2.1, .float .f64 (B a).2.2.2], .agg #[.float .f64 (B c).1, .float .f64 (B c).2.1, .float .f64 (B c).2.2.1, .float .f64 (B c).2.2.2]] W fun e w' => e = .returned (.bool true) ∧ Bel W w' := fun W => by have := meet13_s (B a) (B c) W; rw [HM2.out] at this; exact this
            go_wp2
            refine wp_region_quiet_bel (by kernel_rfl) (by kernel_rfl) ?_
            repeat (go_big_quiet_step (fail))
            refine wpQuiet_nil ?_
            rintro _ ⟨nq, rfl⟩
            have hb9 := nq.h
            clear y0 y1 y2 y3 v0 v1 v2 v3 u0 u1 this
            obtain ⟨w7, hw7⟩ : ∃ x, x = nq.world := ⟨_, rfl⟩
            rw [← hw7] at hb9
            rw [← hw7]
            clear hw7 nq
            replace a0 := keepB hb9 a0
            replace a1 := keepB hb9 a1
            replace a2 := keepB hb9 a2
            replace a3 := keepB hb9 a3
            replace c0 := keepB hb9 c0
            replace c1 := keepB hb9 c1
            replace c2 := keepB hb9 c2
            replace c3 := keepB hb9 c3
            have hW7 := bl_trans hW5 hb9
            clear hb9 z0 z1
            haveI := belBy_some w7
            have y0 := belBy_cell a0
            have y1 := belBy_cell a1
            have y2 := belBy_cell a2
            have y3 := belBy_cell a3
            have v0 := belBy_cell c0
            have v1 := belBy_cell c1
            have v2 := belBy_cell c2
            have v3 := belBy_cell c3
            go_wp2
            refine wp_region_quiet_bel (by kernel_rfl) (by kernel_rfl) ?_
            repeat (go_big_quiet_step (first | (go_at_call 14; exact calls_bel (hov _))))
            refine wpQuiet_nil ?_
            rintro _ ⟨nq, rfl⟩
            have hb9 := nq.h
            clear y0 y1 y2 y3 v0 v1 v2 v3 this a0 a1 a2 a3 c0 c1 c2 c3 hov
            obtain ⟨w8, hw8⟩ : ∃ x, x = nq.world := ⟨_, rfl⟩
            rw [← hw8] at hb9
            rw [← hw8]
            clear hw8 nq
            go_wp2
            go_roundg (NQ - (t + 1))
            case measure => omega
            case rel => exact ⟨t + 1, by go_num, by omega, Nat.le_refl _, bl_trans hW7 hb9⟩
          · have hltz : ¬ (t : Int) < (NQ : Int) := by omega
            obtain ⟨w6, hw6⟩ : ∃ X, X = wr := ⟨_, rfl⟩
            subst hw6
            have hL6 := bw_trans L5 hW5.1
            have hA6 := hA5.below hW5.1
            have HIS6 : Hid (∀ (t : Nat) (x : Nat), O[t]? = some x → ∃ g o, so = some ⟨g, o, none⟩ ∧ Is w6 g o O) := (show ∀ (t : Nat) (x : Nat), O[t]? = some x → ∃ g o, so = some ⟨g, o, none⟩ ∧ Is w6 g o O from fun t x h => by
              obtain ⟨g, o, e, h2⟩ := HIS.out t x h
              exact ⟨g, o, e, h2.bel hW5⟩)
            clear HIS htn hkx hW5 L5 hA5 HQS EQ
            go_wp2
            go_loopg [15, 16] n (fun kx s15 s16 wr => ∃ k m : Nat, s16 = .int .i64 k ∧ s15 = .int .i64 m ∧ k ≤ n ∧ n - k ≤ kx ∧ Bel w6 wr ∧ m ≤ k ∧ Hid (m = (nums (fun i => mayO (B i)) k).length))
            case atStart => exact ⟨0, 0, rfl, rfl, by omega, by omega, bl_refl _, Nat.le_refl _, rfl⟩
            case round =>
              obtain ⟨k, m, rfl, rfl, hkn, hkx, hW, hmk, hm⟩ := hrel
              by_cases hlt : k < n
              · have hltz : (k : Int) < (n : Int) := by omega
                have hwk : IntKind.wrap .i64 ((k : Int) + 1) = (k : Int) + 1 := by rw [IntKind.wrap_i64]; omega
                have hwm : IntKind.wrap .i64 ((m : Int) + 1) = (m : Int) + 1 := by rw [IntKind.wrap_i64]; omega
                obtain ⟨b, off, hsa, hB, hb0⟩ : ∃ b off, sa = some ⟨b, off, none⟩ ∧ Bs w6 b off n B ∧ b < w6.heap.size := by
                  rcases hA6 with h0 | h0
                  · omega
                  · exact h0
                clear hA hA6
                subst hsa
                obtain ⟨x0, x1, x2, x3⟩ := (hB.bel hW) k hlt
                have hcm := chk_may (B k)
                cases hmay : mayO (B k) with
                | true =>
                  have hc0 : chkN (bChk (B k).1 (B k).2.1 (B k).2.2.1 (B k).2.2.2) = 0 := by rw [hmay] at hcm; simpa using hcm
                  have HMA : Hid (mayO (B k) = true) := hmay
                  clear hcm hmay
                  go_wp2_with (first | (go_at_call 15; (with_reducible refine (xCheck_any _ _ _ _ _).mono ?_); rintro e w7 ⟨rfl, hb7⟩; rw [hc0]; clear hc0))
                  go_roundg (n - (k + 1))
                  case measure => omega
                  case rel => exact ⟨k + 1, m + 1, by go_num, by go_num, by omega, Nat.le_refl _, bl_trans hW hb7, by omega, (show _ = _ from by rw [nums_yes (p := fun i => mayO (B i)) HMA.out, List.length_append, ← hm.out]; rfl)⟩
                | false =>
                  obtain ⟨e9, he9, hne⟩ : ∃ x, chkN (bChk (B k).1 (B k).2.1 (B k).2.2.1 (B k).2.2.2) = x ∧ x ≠ 0 := ⟨_, rfl, fun h => by rw [h, hmay] at hcm; cases hcm⟩
                  have hnez : (e9 == 0) = false := by simpa using hne
                  have HMA : Hid (mayO (B k) = false) := hmay
                  clear hcm hmay
                  go_wp2_with (first | (go_at_call 15; (with_reducible refine (xCheck_any _ _ _ _ _).mono ?_); rintro e w7 ⟨rfl, hb7⟩; rw [he9]; clear he9))
                  go_roundg (n - (k + 1))
                  case measure => omega
                  case rel => exact ⟨k + 1, m, by go_num, rfl, by omega, Nat.le_refl _, bl_trans hW hb7, by omega, (show _ = _ from by rw [nums_no (p := fun i => mayO (B i)) HMA.out]; exact hm.out)⟩
              · have hltz : ¬ (k : Int) < (n : Int) := by omega
                have hkk : k = n := by omega
                have hmO : m = NO := by rw [hm.out, hkk, ← ord_len HOL.out]; exact HNO.out
                subst hmO
                obtain ⟨wa, hwa⟩ : ∃ X, X = wr := ⟨_, rfl⟩
                subst hwa
                have hLa := bw_trans hL6 hW.1
                have hAa := hA6.below hW.1
                have HISa : Hid (∀ (t : Nat) (x : Nat), O[t]? = some x → ∃ g o, so = some ⟨g, o, none⟩ ∧ Is wa g o O) := (show ∀ (t : Nat) (x : Nat), O[t]? = some x → ∃ g o, so = some ⟨g, o, none⟩ ∧ Is wa g o O from fun t x h => by
                  obtain ⟨g, o, e, h2⟩ := HIS6.out t x h
                  exact ⟨g, o, e, h2.bel hW⟩)
                clear HIS6 hkn hkx hW hL6 hA6 hm hkk hmk
                go_wp2
                go_loopg [17] m (fun kx s17 wr => ∃ t : Nat, s17 = .int .i64 t ∧ t ≤ m ∧ m - t ≤ kx ∧ Bel wa wr)
                case atStart => exact ⟨0, rfl, by omega, by omega, bl_refl _⟩
                case round =>
                  obtain ⟨t, rfl, htm, hkx, hW⟩ := hrel
                  by_cases hlt : t < m
                  · have hltz : (t : Int) < (m : Int) := by omega
                    have hwk : IntKind.wrap .i64 ((t : Int) + 1) = (t : Int) + 1 := by rw [IntKind.wrap_i64]; omega
                    obtain ⟨x, hx⟩ : ∃ p, O[t]? = some p := ⟨_, List.getElem?_eq_getElem (by rw [HNO.out]; exact hlt)⟩
                    obtain ⟨hxn, hxm⟩ : x < n ∧ mayO (B x) = true := (HOL.out.mem x).1 (List.mem_of_getElem? hx)
                    obtain ⟨go, oo, hso, hIs⟩ := HISa.out t _ hx
                    subst hso
                    have z0 := (hIs.bel hW) t _ hx
                    obtain ⟨b, off, hsa, hB, hb0⟩ : ∃ b off, sa = some ⟨b, off, none⟩ ∧ Bs wa b off n B ∧ b < wa.heap.size := by
                      rcases hAa with h0 | h0
                      · omega
                      · exact h0
                    clear hA hAa
                    subst hsa
                    obtain ⟨x0, x1, x2, x3⟩ := (hB.bel hW) x hxn
                    have hc0 : chkN (bChk (B x).1 (B x).2.1 (B x).2.2.1 (B x).2.2.2) = 0 := by have hcm := chk_may (B x); rw [hxm] at hcm; simpa using hcm
                    have p1 : ¬ (x : Int) < 0 := by omega
                    have p2 : ¬ (n : Int) ≤ (x : Int) := by omega
                    have p3 : (x : Int) < (n : Int) := by omega
                    have HXM : Hid (mayO (B x) = true) := hxm
                    have HX : Hid (O[t]? = some x) := hx
                    clear hxm hx
                    go_upto_region 31 with (first | (go_at_call 15; (with_reducible refine (xCheck_any _ _ _ _ _).mono ?_); rintro e w7 ⟨rfl, hb7⟩; rw [hc0]; clear hc0))
                    have hW7 := bl_trans hW hb7
                    have z1 := keepB hb7 z0
                    have x4 := keepB hb7 x0
                    haveI := belBy_some w7
                    have y0 := belBy_cell z1
                    have y1 := belBy_cell x4
                    by_cases ht0 : t = 0
                    · have d1 : decide (0 < t) = false := decide_eq_false (by omega)
                      have d2 : ¬ (0 : Int) < (t : Int) := by omega
                      have d3 : decide ((t : Int) > 0) = false := decide_eq_false (by omega)
                      go_wp2
                      refine wp_region_quiet_bel (by kernel_rfl) (by kernel_rfl) ?_
                      repeat (go_big_quiet_step (fail))
                      refine wpQuiet_nil ?_
                      rintro _ ⟨nq, rfl⟩
                      have hb9 := nq.h
                      clear y0 y1 this
                      obtain ⟨w8, hw8⟩ : ∃ x, x = nq.world := ⟨_, rfl⟩
                      rw [← hw8] at hb9
                      rw [← hw8]
                      clear hw8 nq
                      go_wp2
                      go_roundg (m - (t + 1))
                      case measure => omega
                      case rel => exact ⟨t + 1, by go_num, by omega, Nat.le_refl _, bl_trans hW7 hb9⟩
                    · have d1 : decide (0 < t) = true := decide_eq_true (by omega)
                      have d2 : (0 : Int) < (t : Int) := by omega
                      have d3 : decide ((t : Int) > 0) = true := decide_eq_true (by omega)
                      obtain ⟨r, hr⟩ : ∃ r, r + 1 = t := ⟨t - 1, by omega⟩
                      have hwr : IntKind.wrap .i64 ((t : Int) - 1) = (r : Int) := by rw [IntKind.wrap_i64]; omega
                      have hrm : (r : Int) < (m : Int) := by omega
                      obtain ⟨u, hu⟩ : ∃ p, O[r]? = some p := ⟨_, List.getElem?_eq_getElem (by rw [HNO.out]; omega)⟩
                      obtain ⟨hun, hum⟩ : u < n ∧ mayO (B u) = true := (HOL.out.mem u).1 (List.mem_of_getElem? hu)
                      have hunz : (u : Int) < (n : Int) := by omega
                      have z2 := (hIs.bel hW7) r _ hu
                      obtain ⟨u0, _, _, _⟩ := (hB.bel hW7) u hun
                      have y2 := belBy_cell z2
                      have y3 := belBy_cell u0
                      have hto : tO B u x := pw_at HOL.out.pw hu (by rw [hr]; exact HX.out)
                      have elt := lt_kX hum HXM.out
                      have eeq := eq_kX hum HXM.out
                      by_cases hk : kX (B u) < kX (B x)
                      · have f1 : ltK .f64 (B u).1 (B x).1 = true := by rw [elt]; exact decide_eq_true hk
                        clear elt eeq hto hk hum hu hr
                        go_wp2
                        refine wp_region_quiet_bel (by kernel_rfl) (by kernel_rfl) ?_
                        repeat (go_big_quiet_step (fail))
                        refine wpQuiet_nil ?_
                        rintro _ ⟨nq, rfl⟩
                        have hb9 := nq.h
                        clear y0 y1 y2 y3 this
                        obtain ⟨w8, hw8⟩ : ∃ x, x = nq.world := ⟨_, rfl⟩
                        rw [← hw8] at hb9
                        rw [← hw8]
                        clear hw8 nq
                        go_wp2
                        go_roundg (m - (t + 1))
                        case measure => omega
                        case rel => exact ⟨t + 1, by go_num, by omega, Nat.le_refl _, bl_trans hW7 hb9⟩
                      · have f1 : ltK .f64 (B u).1 (B x).1 = false := by rw [elt]; exact decide_eq_false hk
                        have hux : kX (B u) = kX (B x) ∧ u < x := by
                          rcases hto with h | h
                          · exact absurd h hk
                          · exact h
                        have f2 : eqK .f64 (B u).1 (B x).1 = true := by rw [eeq]; exact decide_eq_true hux.1
                        have f3 : decide (u < x) = true := decide_eq_true hux.2
                        have f4 : (u : Int) < (x : Int) := by have := hux.2; omega
                        clear elt eeq hto hk hum hu hr hux
                        go_wp2
                        refine wp_region_quiet_bel (by kernel_rfl) (by kernel_rfl) ?_
                        repeat (go_big_quiet_step (fail))
                        refine wpQuiet_nil ?_
                        rintro _ ⟨nq, rfl⟩
                        have hb9 := nq.h
                        clear y0 y1 y2 y3 this
                        obtain ⟨w8, hw8⟩ : ∃ x, x = nq.world := ⟨_, rfl⟩
                        rw [← hw8] at hb9
                        rw [← hw8]
                        clear hw8 nq
                        go_wp2
                        go_roundg (m - (t + 1))
                        case measure => omega
                        case rel => exact ⟨t + 1, by go_num, by omega, Nat.le_refl _, bl_trans hW7 hb9⟩
                  · have hltz : ¬ (t : Int) < (m : Int) := by omega
                    go_wp2
                    go_ret
                    exact ⟨by first | rfl | simp, bw_trans hLa hW.1⟩

/-- a row of boxes: none, or len of them in cells, with room for cap -/
def IsBoxes (w : World) (a : Option Addr) (len cap : Nat) : Prop :=
  (a = none ∧ len = 0 ∧ cap = 0) ∨ ∃ (x : Addr) (B : Nat → Bo), a = some x ∧ len ≤ cap ∧ cap ≤ maxLen ∧ len * 32 ≤ 140737488351232 ∧ ∀ i, i < len → w.cell? (x.add (i * 4)) = some (.float .f64 (B i).1) ∧ w.cell? (x.add (i * 4 + 1)) = some (.float .f64 (B i).2.1) ∧ w.cell? (x.add (i * 4 + 2)) = some (.float .f64 (B i).2.2.1) ∧ w.cell? (x.add (i * 4 + 3)) = some (.float .f64 (B i).2.2.2) ∧ okK .f64 (B i).1 ∧ okK .f64 (B i).2.1 ∧ okK .f64 (B i).2.2.1 ∧ okK .f64 (B i).2.2.2
theorem any_of {w : World} {a : Option Addr} {len cap : Nat} (h : IsBoxes w a len cap) : ∃ B, AnyB w a len B ∧ len * 32 ≤ 140737488351232 ∧ ∀ i, i < len → okK .f64 (B i).1 ∧ okK .f64 (B i).2.1 ∧ okK .f64 (B i).2.2.1 ∧ okK .f64 (B i).2.2.2 := by
  rcases h with ⟨rfl, rfl, rfl⟩ | ⟨x, B, rfl, hl, hm, hr, hcell⟩
  · exact ⟨fun _ => (0, 0, 0, 0), .inl rfl, by omega, fun i hi => by omega⟩
  · refine ⟨B, ?_, hr, fun i hi => (hcell i hi).2.2.2.2⟩
    rcases Nat.eq_zero_or_pos len with h0 | h0
    · exact .inl h0
    · right
      obtain ⟨b, off, spot⟩ := x
      have hspot : spot = none := by simpa [Addr.add] using World.cell?_spot (hcell 0 h0).1
      subst hspot
      have hc0 := (hcell 0 h0).1
      rw [add_plain] at hc0
      refine ⟨b, off, rfl, fun i hi => ?_, World.block_lt_of_cell? _ _ hc0⟩
      obtain ⟨h1, h2, h3, h4, _⟩ := hcell i hi
      rw [add_plain] at h1 h2 h3 h4
      rw [← Nat.add_assoc] at h2 h3 h4
      exact ⟨h1, h2, h3, h4⟩
theorem walk (a0 : Option Addr) (len0 cap0 : Nat) (w : World) (h0 : IsBoxes w a0 len0 cap0) :
    Calls Try.prog 4 #[.slice a0 len0 cap0] w fun e w' => e = .returned (.bool true) ∧ Below w.heap.size w w' := by
  obtain ⟨B0, g0, r0, o0⟩ := any_of h0
  exact walk_any a0 len0 cap0 B0 w g0 r0 o0

set_option maxRecDepth 100000 in
theorem lifted (os : Os) (started : os.Started) (H : Type) (enc : TypeId × Value → H) :
    ReturnsInHanded {} Try.checked os 4 .any (Rows.sweepTurnedSpec.pre6 enc Try.prog Try.f4 Rows.sweepTurnedRow.domain false) (Rows.sweepTurnedSpec.post enc Try.prog Try.f4 false true false false) := by
  refine returnsInHanded_of_change_sized (C := Try.checked) own started (by kernel_rfl) Try.func4
    (ChangeSpec.witness6 (enc := enc) (C := Try.checked) false ⟨#[], #[.slice none 0 0], []⟩ 8 (by kernel_rfl) (by kernel_rfl) (by kernel_rfl) (by kernel_rfl)) ?_
  intro W base args ds gs before hval0 hW hcnd hsz0 _
  have hsz : (DataW.weightsEach Try.prog (Try.f4.params.toList ++ Rows.sweepTurnedSpec.plain.varTypes Try.prog) (ds ++ gs)).all (· ≤ reachBytes) = true := hsz0
  have hval : ∀ (j : Nat) t v, Try.f4.params[j]? = some t → args[j]? = some v → Value.okWide Try.prog W .any base t v := hval0
  have hW' := hW
  obtain ⟨p, q, hA0, hV, rfl, hfz, hnd⟩ := hW
  have hA : DataW.TrodAll enc Try.prog W 0 (fun _ => true) true Try.f4.params.toList args.toList ds p := hA0
  rw [Try.params4] at hA hval hsz
  obtain ⟨v0, vs0, d0, ds0, p0, q0, hargs, rfl, rfl, h0, r0⟩ := trodAll_cons hA
  obtain ⟨rfl, rfl, rfl⟩ := trodAll_nil r0
  obtain rfl : args = #[v0] := by cases args; simp_all
  obtain ⟨rfl, rfl⟩ := trodVars_none hV
  obtain ⟨a0, len0, cap0, rfl⟩ := okWide_slice Try.underlying22 (hval 0 22 v0 rfl rfl)
  have k0 := h0
  have lt0 : ∀ x ∈ p0, x.block < W.heap.size := by obtain ⟨m, hm⟩ := k0; exact DataW.trod_lt m _ _ _ hm
  have w0 : IsBoxes W a0 len0 cap0 := by
    obtain ⟨fuel, hf⟩ := h0
    rcases Go.Deep.open_slice Try.underlying22 hf with ⟨hcs, _⟩ | ⟨x, l, c, m, n, D, Pl, hcs, _, hl, hm, hmm, hx, hcell⟩
    · simp [Value.cells] at hcs
      exact .inl hcs
    · simp [Value.cells] at hcs
      obtain ⟨rfl, rfl, rfl⟩ := hcs
      simp only [Prod.mk.injEq] at hx
      obtain ⟨rfl, rfl⟩ := hx
      have hr := sized_slice hsz (j := 0) (t := 22) (e := 27) rfl rfl Try.underlying22
      rw [show Try.prog.bytesOf 27 = 32 by kernel_rfl] at hr
      simp only [List.length_map, List.length_range, reachBytes] at hr
      have hlm : len0 ≤ m := by rw [hmm]; split <;> omega
      have V : ∀ i, ∃ q : Nat × Nat × Nat × Nat, i < m → W.cell? (x.add (i * 4)) = some (.float .f64 q.1) ∧ W.cell? (x.add (i * 4 + 1)) = some (.float .f64 q.2.1) ∧ W.cell? (x.add (i * 4 + 2)) = some (.float .f64 q.2.2.1) ∧ W.cell? (x.add (i * 4 + 3)) = some (.float .f64 q.2.2.2) ∧ okK .f64 q.1 ∧ okK .f64 q.2.1 ∧ okK .f64 q.2.2.1 ∧ okK .f64 q.2.2.2 := by
        intro i
        by_cases hi : i < m
        · obtain ⟨cs', h1, h2⟩ := hcell i hi
          rw [cellsM] at h1
          obtain ⟨_, hlen, hce⟩ := World.cells?_some h1
          obtain ⟨y0, y1, n', hx', _, g0, g1⟩ := trod_struct2 Try.underlying27 h2
          match cs', hlen with
          | [v0, v1, v2, v3], _ =>
            simp [cellsV] at g0 g1
            obtain ⟨z0, z1, n2, hz, _, g4, g5⟩ := trod_struct2 Try.underlying25 g0
            obtain ⟨z2, z3, n3, hz3, _, g6, g7⟩ := trod_struct2 Try.underlying25 g1
            simp [cellsF] at g4 g5 g6 g7
            obtain ⟨a, e0, _, wa⟩ := trod_fl Try.underlying23 g4
            obtain ⟨b, e1, _, wb⟩ := trod_fl Try.underlying23 g5
            obtain ⟨c, e2, _, wc⟩ := trod_fl Try.underlying23 g6
            obtain ⟨d, e3, _, wd⟩ := trod_fl Try.underlying23 g7
            simp at e0 e1 e2 e3
            subst e0 e1 e2 e3
            have q0 := hce 0 (by omega)
            have q1 := hce 1 (by omega)
            have q2 := hce 2 (by omega)
            have q3 := hce 3 (by omega)
            rw [Go.Deep.add_add] at q0 q1 q2 q3
            exact ⟨(a, b, c, d), fun _ => ⟨by simpa using q0, by simpa using q1, by simpa using q2, by simpa using q3, wf_f64 wa, wf_f64 wb, wf_f64 wc, wf_f64 wd⟩⟩
        · exact ⟨(0, 0, 0, 0), fun h => absurd h hi⟩
      have V' := Classical.axiomOfChoice V
      obtain ⟨f, hf'⟩ := V'
      exact .inr ⟨x, f, rfl, hl, hm, by omega, fun i hi => hf' i (by omega)⟩
  clear hA0 hval0 hsz0
  refine (walk a0 len0 cap0 W w0).mono fun e W' ⟨he, bel0⟩ => ?_
  have bel := bel0
  subst he
  exact ⟨_, rfl, _, _, _, [], _, [], hW', trodAll_mk1 (shut_bool Try.underlying4 _), (trodAll_cons_mk (Below.trod laidOut (by kernel_rfl) (of_decide_eq_true (by kernel_rfl)) k0 bel lt0) trodAll_mk0), rfl, bel.frame _, fun h => by cases h⟩

theorem over : Rows.sweepTurnedRow.holds Try.pinned (OpenSpec.ofChange Rows.sweepTurnedSpec) :=
  OpenClaim.holds_of_wide 4 Try.f4 rfl rfl rfl rfl rfl rfl rfl ⟨rfl, rfl, rfl, rfl, rfl⟩ rfl rfl rfl rfl rfl (by kernel_rfl) Try.func4 (by kernel_rfl)
    (of_decide_eq_true (by kernel_rfl)) (by unfold Func.isWrapper; first | (rw [if_pos (by decide +kernel)]; kernel_rfl) | (rw [if_neg (by decide +kernel)]; exact ⟨rfl, rfl⟩))
    (fun os started H enc _ => lifted os started H enc)

theorem proved : Rows.SweepTurnedSaid :=
  over
#print axioms proved
end Go.Proofs.Ytgcklheijcfneaa.sweepTurned
