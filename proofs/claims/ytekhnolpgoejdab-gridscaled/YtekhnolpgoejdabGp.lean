/-
  What each function of package grid answers: one contract a function.
-/
import Derived.Test.YtekhnolpgoejdabGn
import Derived.Test.YtekhnolpgoejdabGwd
import Derived.Test.YtekhnolpgoejdabLay
import Derived.Laws.FloatArith
import Derived.Laws.StructEq
import Derived.Deep.DeepCutAuto
import Derived.Laws.MakeOwn
import Derived.Below
import Derived.BigQuiet
import Derived.OwnWalk
import Derived.Laws.AppendOwn
import Derived.Laws.AppendOwnNone
import Derived.WalkKit
import Derived.WalkLawsBesides
import Derived.WalkSpells
import Derived.ProofKit
import Derived.OpenShut
import Derived.Deep.RegionHeld3
import Derived.Deep.LoopGhost
namespace Go.Proofs.Ytekhnolpgoejdab
open Go.ChangeShapes Go.WideShapes Go.ChangeAt Go.RowKit Go.Shelf Go.Lib Go.Sort
set_option linter.unusedVariables false
set_option linter.unusedSimpArgs false


theorem run_add_some (t : TypeId) {x y v : Nat} (h : floatBits .add .f64 x y = some v) (w : World) : (binOp .add t (.float .f64 x) (.float .f64 y)).run Try.prog w = .ok (.float .f64 v) w := by
  rw [run_add]
  unfold fv fd
  rw [h]
  rfl
theorem power_s (s : Nat) (os : okK .f64 s) (w : World) : Calls Try.prog 41 #[.float .f64 s] w fun e w' => e = .returned (.float .f64 (pwR (rkK s))) ∧ w' = w := by
  have c1 := cmp_lt .f64
  obtain ⟨A, hA⟩ : ∃ A, lwR (rkK s) 70 = A := ⟨_, rfl⟩
  unfold pwR
  rw [hA]
  have HA : Hid (lwR (rkK s) 70 = A) := hA
  clear hA
  go_enter Try.func41, Try.ntmps41
  go_wp2
  go_loopg [3] 70 (fun kx s3 wr => ∃ k : Nat, s3 = .float .f64 (wdW k) ∧ k ≤ 70 ∧ 70 - k ≤ kx ∧ wr = w ∧ Hid (lwR (rkK s) (70 - k) = A))
  case atStart => exact ⟨0, rfl, by omega, by omega, rfl, HA⟩
  case round =>
    obtain ⟨k, rfl, hk, hkx, hw, HK⟩ := hrel
    subst hw
    have hmo := wd_most hk
    have hlt := lt_wd hk os
    by_cases h70 : k < 70
    · rw [decide_eq_true h70] at hmo
      have q := fun W => run_add_some 23 (wd_add h70) W
      cases hl : ltK .f64 (wdW k) s with
      | true =>
        have hl2 : rkK (wdW k) < rkK s := by rw [hl] at hlt; simpa using hlt.symm
        have HN : Hid (lwR (rkK s) (70 - (k + 1)) = A) := (show _ = _ from by
          have := HK.out
          rw [show 70 - k = (70 - (k + 1)) + 1 by omega, lwR, show 70 - (70 - (k + 1) + 1) = k by omega, if_pos hl2] at this
          exact this)
        obtain ⟨wk, hwk⟩ : ∃ x, wdW k = x := ⟨_, rfl⟩
        obtain ⟨wk1, hwk1⟩ : ∃ x, wdW (k + 1) = x := ⟨_, rfl⟩
        have H1 : Hid (wdW (k + 1) = wk1) := hwk1
        rw [hwk] at hl hmo q ⊢
        rw [hwk1] at q
        clear hwk hwk1 hlt hl2
        go_wp2
        go_roundg (70 - (k + 1))
        case measure => omega
        case rel => exact ⟨k + 1, by rw [H1.out], by omega, Nat.le_refl _, rfl, HN⟩
      | false =>
        have hl2 : ¬ rkK (wdW k) < rkK s := by rw [hl] at hlt; simpa using hlt.symm
        have HE : A = k := by
          have := HK.out
          rw [show 70 - k = (70 - (k + 1)) + 1 by omega, lwR, show 70 - (70 - (k + 1) + 1) = k by omega, if_neg hl2] at this
          exact this.symm
        subst HE
        obtain ⟨wk, hwk⟩ : ∃ x, wdW A = x := ⟨_, rfl⟩
        rw [hwk] at hl ⊢
        have HW : Hid (wdW A = wk) := hwk
        clear hwk hlt hl2 hmo q HK HA
        go_wp2
        go_ret
        exact ⟨by rw [HW.out]; rfl, rfl⟩
    · have e70 : k = 70 := by omega
      subst e70
      have HE : A = 70 := by have := HK.out; simpa [lwR] using this.symm
      subst HE
      rw [decide_eq_false h70] at hmo
      obtain ⟨wk, hwk⟩ : ∃ x, wdW 70 = x := ⟨_, rfl⟩
      rw [hwk] at hmo hlt ⊢
      have HW : Hid (wdW 70 = wk) := hwk
      clear hwk
      cases hl : ltK .f64 wk s
      all_goals
        clear hlt HK HA
        go_wp2
        go_ret
        exact ⟨by rw [HW.out]; rfl, rfl⟩

theorem sort1_s (base : Nat) (v : Value) (L : List Nat) (w : World) (hok : ∀ x ∈ L, okK .f64 x) (hO : OwnR 1 base w v L.length (fRow L)) (h0 : L ≠ []) (hl : L.length < 4611686018427387904) :
    Calls Try.prog 39 #[v, .func (.func 40) #[] #[]] w fun e w' => e = .returned (.tuple #[]) ∧ ∃ L', L'.Perm L ∧ (L'.map rkK).Pairwise (· ≤ ·) ∧ OwnR 1 base w' v L'.length (fRow L') ∧ Below base w w' := by
  obtain ⟨ml, hml⟩ := withOk L hok
  have hlen : ml.length = L.length := by rw [← hml, List.length_map]
  rcases own_split hO (by decide) with ⟨hz, _⟩ | ⟨hz, g, cp, rfl, hg, hgs, hcp⟩
  · exact absurd (List.eq_nil_of_length_eq_zero hz) h0
  · haveI : Inhabited Ow := ⟨⟨0, by rw [okK64]; decide⟩⟩
    have hO1 : OwnR 1 base w (.slice (some ⟨g, 0, none⟩) L.length cp) L.length (ml.toArray.toList.map encO) := by rw [List.toList_toArray, map_encO, hml]; exact hO
    have hH : Holds encO w g 0 ml.toArray := own_holds hO1
    have hcmp : CmpLays1 Try.prog 40 #[] encO cfO g 0 ml.toArray.size w := fun m os dk hs x y => (order_any x.1 y.1 _ x.2 y.2).mono fun e w' ⟨he, hw⟩ => ⟨he, 0, #[], by rw [hw, grow_empty]; rfl⟩
    have q := Any.slices_SortFunc (P := Try.prog) sortF encO (fun _ => rfl) cfO swo_cfO 40 #[] g 0 cp ml.toArray w (enters_of Try.func40 (by kernel_rfl) rfl) hcmp hH hgs (by rw [List.size_toArray, hlen]; exact hl)
    rw [List.size_toArray, hlen] at q
    refine q.mono ?_
    rintro e w' ⟨rfl, d', m, os, hp, hs, rfl⟩
    have hds : d'.size = ml.toArray.size := hp.1
    have hO2 := sort_own (enc := encO) (m := m) (os := os) hO1 (d := d') (by rw [List.length_map, Array.length_toList, hds]) hgs hH hds
    rw [map_encO] at hO2
    have hl' : (d'.toList.map (·.1)).length = L.length := by rw [List.length_map, Array.length_toList, hds, List.size_toArray, hlen]
    have hpm : d'.toList.Perm ml := by
      have := permIn_list (by rw [List.size_toArray, hlen]) hp
      rwa [List.toList_toArray] at this
    refine ⟨rfl, d'.toList.map (·.1), ?_, ?_, by rw [hl']; exact hO2, sort_below hg hgs⟩
    · rw [← hml]; exact hpm.map _
    · rw [List.map_map, List.pairwise_map]
      refine (sorted_list (by rw [hds, List.size_toArray, hlen]) hs).imp ?_
      intro a b hab
      rw [lt_cfO] at hab
      simpa using hab

def ZOk (B : Nat → Bo) (t : Nat) (acc : List Nat) : Prop := (∀ x ∈ acc, okK .f64 x) ∧ acc.map rkK = zrL B t
theorem zok_nil (B : Nat → Bo) : ZOk B 0 [] := ⟨fun x hx => (by cases hx), by simp [zrL, nums]⟩
theorem ZOk.no {B : Nat → Bo} {t : Nat} {acc : List Nat} (h : ZOk B t acc) (hm : mayO (B t) = false) : ZOk B (t + 1) acc := ⟨h.1, by unfold zrL; rw [nums_no (p := fun i => mayO (B i)) hm]; exact h.2⟩
theorem ZOk.yes {B : Nat → Bo} {t r : Nat} {acc : List Nat} (h : ZOk B t acc) (hm : mayO (B t) = true) (hr : rkK r = zrk (B t) ∧ okK .f64 r) : ZOk B (t + 1) (acc ++ [r]) := ⟨fun x hx => by
  rcases List.mem_append.1 hx with h' | h'
  · exact h.1 x h'
  · simp only [List.mem_cons, List.not_mem_nil, or_false] at h'
    rw [h']; exact hr.2, by
  unfold zrL
  rw [nums_yes (p := fun i => mayO (B i)) hm, List.map_append, List.map_append]
  have := h.2
  unfold zrL at this
  rw [this]
  simp [hr.1]⟩
theorem own_fl {base : Nat} {w : World} {g cap n : Nat} {L : List Nat} (h : OwnR 1 base w (.slice (some ⟨g, 0, none⟩) n cap) n (fRow L)) {j x : Nat} (hj : L[j]? = some x) : w.cell? ⟨g, j, none⟩ = some (.float .f64 x) := by
  rcases h.2 with ⟨e, _⟩ | ⟨g', cp, e, _, _, _, h4, _⟩
  · cases e
  · cases e
    have := h4 j (.float .f64 x) (by unfold fRow; rw [List.getElem?_map, hj]; rfl)
    rwa [Nat.zero_add] at this
/-- the middle one -/
theorem mid_is {B : Nat → Bo} {n : Nat} {acc L' : List Nat} (h : ZOk B n acc) (h0 : 0 < acc.length) (hp : L'.Perm acc) (hs : (L'.map rkK).Pairwise (· ≤ ·)) : ∃ s, L'[(acc.length - 1) / 2]? = some s ∧ okK .f64 s ∧ midW (zrL B n) = pwR (rkK s) := by
  have e1 : srtZ (zrL B n) = L'.map rkK := pw_uniq ((srtZ_perm _).trans (by rw [← h.2]; exact (hp.map rkK).symm)) (srtZ_pw _) hs
  have e2 : (zrL B n).length = acc.length := by rw [← h.2, List.length_map]
  have hl : (acc.length - 1) / 2 < L'.length := by rw [hp.length_eq]; omega
  refine ⟨L'[(acc.length - 1) / 2], List.getElem?_eq_getElem hl, h.1 _ (hp.mem_iff.1 (List.getElem_mem hl)), ?_⟩
  unfold midW
  rw [e1, e2, List.getElem?_map, List.getElem?_eq_getElem hl]
  rfl
theorem info_fl : (Try.prog.info? 23).map (fun i => (i.zero, i.size, i.bytes)) = some (some (.float .f64 0), 1, 8) := by kernel_rfl
theorem one_fl {k : Nat} : ∀ u ∈ ([.float .f64 k] : List Value), u.oneCell' = true := by
  intro u hu
  simp only [List.mem_cons, List.not_mem_nil, or_false] at hu
  subst hu; rfl
set_option maxRecDepth 100000 in
set_option maxHeartbeats 8000000 in
theorem width14_s (sa : Option Addr) (n cap : Nat) (B : Nat → Bo) (w : World) (hA : AnyB w sa n B) (ho : ∀ i, i < n → okK .f64 (B i).1 ∧ okK .f64 (B i).2.1) :
    Calls Try.prog 16 #[.slice sa n cap] w fun e w' => e = .returned (.tuple #[.float .f64 (gwW B n), .int .i64 (mnE n)]) ∧ Below w.heap.size w w' := by
  obtain ⟨A, hA0⟩ : ∃ A, gwW B n = A := ⟨_, rfl⟩
  rw [hA0]
  rcases Nat.lt_or_ge 16384 n with hn | hn
  · have hz : (16384 : Int) < (n : Int) := by omega
    have e1 : A = 0 := by rw [← hA0]; unfold gwW; rw [if_pos hn]
    have e2 : mnE n = 4 := by unfold mnE; rw [if_pos hn]
    subst e1
    rw [e2]
    go_enter Try.func16, Try.ntmps16
    go_wp2
    refine bodyPost_ret (v := .tuple #[.float .f64 0, .int .i64 4]) (by simp [results, Try.results16, go_sem]) rfl ?_
    exact ⟨rfl, Below.refl _ _⟩
  · have hz : ¬ (16384 : Int) < (n : Int) := by omega
    have e2 : mnE n = 0 := by unfold mnE; rw [if_neg (by omega)]
    rw [e2]
    have HA : Hid (midW (zrL B n) = A) := (show _ = _ from by rw [← hA0]; unfold gwW; rw [if_neg (by omega)])
    clear hA0 e2
    go_enter Try.func16, Try.ntmps16
    go_wp2
    go_loopg [4, 12] n (fun kx s4 s12 wr => ∃ (t : Nat) (acc : List Nat), s12 = .int .i64 t ∧ t ≤ n ∧ n - t ≤ kx ∧ acc.length ≤ t ∧ OwnR 1 w.heap.size wr s4 acc.length (fRow acc) ∧ Bel w wr ∧ Hid (ZOk B t acc))
    case atStart => exact ⟨0, [], rfl, Nat.zero_le _, Nat.le_refl _, Nat.le_refl _, OwnR.nil _ _ _, bl_refl _, zok_nil B⟩
    case round =>
      obtain ⟨t, acc, rfl, htn, hkx, hal, hO, hW, HAC⟩ := hrel
      have hsz := hW.size
      by_cases hlt : t < n
      · have hltz : (t : Int) < (n : Int) := by omega
        have hwk : IntKind.wrap .i64 ((t : Int) + 1) = (t : Int) + 1 := by rw [IntKind.wrap_i64]; omega
        obtain ⟨b, off, hsa, hBs, hbl⟩ : ∃ b off, sa = some ⟨b, off, none⟩ ∧ Bs w b off n B ∧ b < w.heap.size := by
          rcases hA with h0 | h0
          · omega
          · exact h0
        clear hA
        subst hsa
        obtain ⟨x0, x1, x2, x3⟩ := (hBs.bel hW) t hlt
        have Bx := bl_alloc (bl_refl wr) #[.float .f64 (B t).1, .float .f64 (B t).2.1, .float .f64 (B t).2.2.1, .float .f64 (B t).2.2.2] 35
        have t0 : (wr.alloc (.cells #[.float .f64 (B t).1, .float .f64 (B t).2.1, .float .f64 (B t).2.2.1, .float .f64 (B t).2.2.2] 35)).cell? ⟨wr.heap.size, 0, none⟩ = some (.float .f64 (B t).1) := by rw [World.cell?_alloc_new]; rfl
        have t1 : (wr.alloc (.cells #[.float .f64 (B t).1, .float .f64 (B t).2.1, .float .f64 (B t).2.2.1, .float .f64 (B t).2.2.2] 35)).cell? ⟨wr.heap.size, 1, none⟩ = some (.float .f64 (B t).2.1) := by rw [World.cell?_alloc_new]; rfl
        have t2 : (wr.alloc (.cells #[.float .f64 (B t).1, .float .f64 (B t).2.1, .float .f64 (B t).2.2.1, .float .f64 (B t).2.2.2] 35)).cell? ⟨wr.heap.size, 2, none⟩ = some (.float .f64 (B t).2.2.1) := by rw [World.cell?_alloc_new]; rfl
        have t3 : (wr.alloc (.cells #[.float .f64 (B t).1, .float .f64 (B t).2.1, .float .f64 (B t).2.2.1, .float .f64 (B t).2.2.2] 35)).cell? ⟨wr.heap.size, 3, none⟩ = some (.float .f64 (B t).2.2.2) := by rw [World.cell?_alloc_new]; rfl
        have hlie : ∀ W, Calls Try.prog 26 #[.agg #[.float .f64 (B t).1, .float .f64 (B t).2.1, .float .f64 (B t).2.2.1, .float .f64 (B t).2.2.2]] W fun e w' => e = .returned (.bool (mayO (B t))) ∧ Bel W w' := fun W => lies_s (B t) W
        have hsiz : ∀ W, Calls Try.prog 38 #[.agg #[.float .f64 (B t).1, .float .f64 (B t).2.1, .float .f64 (B t).2.2.1, .float .f64 (B t).2.2.2]] W fun e w' => ∃ r, SizeR (B t).1 (B t).2.1 (B t).2.2.1 (B t).2.2.2 r ∧ e = .returned (.float .f64 r) ∧ Bel W w' := fun W => xSize_any _ _ _ _ W
        have hoo := ho t hlt
        cases hmt : mayO (B t) with
        | false =>
          rw [hmt] at hlie
          have HP : Hid (mayO (B t) = false) := hmt
          clear hmt
          go_wp2_with (first | (go_at_call 26; (with_reducible refine (hlie _).mono ?_); rintro e w2 ⟨rfl, hb2⟩))
          have B2 := bl_trans Bx hb2
          go_roundg (n - (t + 1))
          case measure => omega
          case rel => exact ⟨t + 1, acc, by go_num, by omega, Nat.le_refl _, by omega, hO.bel B2, bl_trans hW B2, HAC.out.no HP.out⟩
        | true =>
          rw [hmt] at hlie
          have HP : Hid (mayO (B t) = true) := hmt
          clear hmt
          go_wp2_with (first | (go_at_call 26; (with_reducible refine (hlie _).mono ?_); rintro e w2 ⟨rfl, hb2⟩; replace t0 := keepB hb2 t0; replace t1 := keepB hb2 t1; replace t2 := keepB hb2 t2; replace t3 := keepB hb2 t3) | (go_at_call 38; (with_reducible refine (hsiz _).mono ?_); rintro e w3 ⟨r, hr, rfl, hb3⟩; have B2 := bl_trans (bl_trans Bx hb2) hb3; have s3 := (bl_trans hW B2).size; have HR : Hid (SizeR (B t).1 (B t).2.1 (B t).2.2.1 (B t).2.2.2 r) := hr; clear hr; have own9 := (hO.bel B2).bel (bl_alloc (bl_refl w3) #[.float .f64 r] 23)) | (at_builtin; refine wpList_appS (P := Try.prog) (sz := 1) (by_ := 8) (R := fRow acc) (N := [.float .f64 r]) 41 23 rfl _ _ rfl Try.underlying41 info_fl rfl rfl _ 0 1 1 rfl own9 rfl (mk_rw w3 [.float .f64 r] 23) one_fl (by decide) (by simp only [World.size_alloc]; omega) (by unfold maxLen; omega) (by omega) ?_; intro v9 w9 hO9 hv9 hbX hoth hlow; obtain ⟨g9, c9, rfl, hg9⟩ := hv9; have B91 := hbX w (bl_alloc (bl_trans hW B2) _ _) (Nat.le_refl _)))
          have hz2 := size_rk HP.out hoo.1 hoo.2 HR.out
          have HZ2 : Hid _ := hz2
          clear hz2
          go_roundg (n - (t + 1))
          case measure => omega
          case rel => exact ⟨t + 1, acc ++ [r], by go_num, by omega, Nat.le_refl _, by rw [List.length_append]; simp; omega, by rw [List.length_append, fRow_app]; exact hO9, B91, HAC.out.yes HP.out HZ2.out⟩
      · have hltz : ¬ (t : Int) < (n : Int) := by omega
        have htt : t = n := by omega
        have HAC2 : Hid (ZOk B n acc) := (show ZOk B n acc from by rw [← htt]; exact HAC.out)
        clear htt HAC
        by_cases h0 : acc = []
        · have hA1 : A = 4607182418800017408 := by
            have e := HAC2.out.2
            rw [h0] at e
            have := HA.out
            rw [← e] at this
            simpa [midW, srtZ] using this.symm
          subst hA1
          subst h0
          obtain ⟨sg, cg, hv⟩ := own_len14 hO
          subst hv
          simp only [List.length_nil] at hO ⊢
          go_wp2
          refine bodyPost_ret (v := .tuple #[.float .f64 4607182418800017408, .int .i64 0]) (by simp [results, Try.results16, go_sem]) rfl ?_
          exact ⟨rfl, hW.1⟩
        · have hpos : 0 < acc.length := by
            cases acc with
            | nil => exact absurd rfl h0
            | cons a l => exact Nat.succ_pos _
          have hsrt := sort1_s w.heap.size _ acc wr HAC2.out.1 hO h0 (by omega)
          rcases own_split hO (by decide) with ⟨hz0, _⟩ | ⟨_, g, cg, rfl, hg, hgs, _⟩
          · omega
          obtain ⟨N, hN⟩ : ∃ N, acc.length = N := ⟨_, rfl⟩
          rw [hN] at hsrt hpos hal ⊢
          have HN : Hid (acc.length = N) := hN
          clear hN hO
          have hNz : ¬ (N : Int) = 0 := by omega
          have hmid : (N - 1) / 2 < N := by omega
          have ew : IntKind.wrap .i64 ((N : Int) - 1) = ((N - 1 : Nat) : Int) := by rw [IntKind.wrap_i64]; omega
          have ed : Int.tdiv ((N - 1 : Nat) : Int) 2 = (((N - 1) / 2 : Nat) : Int) := by rw [Int.tdiv_eq_ediv_of_nonneg (by omega)]; omega
          have ed2 : IntKind.wrap .i64 (((N - 1) / 2 : Nat) : Int) = (((N - 1) / 2 : Nat) : Int) := by rw [IntKind.wrap_i64]; omega
          go_wp2_with (first | (go_at_call 39; (with_reducible refine hsrt.mono ?_); rintro e w4 ⟨rfl, L', h1, h2, h3, h4⟩; obtain ⟨sm, hsm, osm, hgw⟩ := mid_is HAC2.out (by rw [HN.out]; exact hpos) h1 h2; rw [HN.out] at hsm; have h3' := h3; rw [h1.length_eq, HN.out] at h3'; have cm := own_fl h3' hsm; have HGW : Hid _ := hgw; clear hgw hsm h3 h3') | (go_at_call 41; (with_reducible refine (power_s sm osm _).mono ?_); rintro e w5 ⟨rfl, hw5⟩; rw [hw5]; clear hw5))
          have hAA : A = pwR (rkK sm) := HA.out.symm.trans HGW.out
          refine bodyPost_ret (v := .tuple #[.float .f64 (pwR (rkK sm)), .int .i64 0]) (by simp [results, Try.results16, go_sem]) rfl ?_
          exact ⟨by rw [hAA], hW.1.trans h4⟩

end Go.Proofs.Ytekhnolpgoejdab
