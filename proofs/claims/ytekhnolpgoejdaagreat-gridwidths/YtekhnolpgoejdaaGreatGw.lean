/-
  What each function of package grid answers: one contract a function.
-/
import Derived.Test.YtekhnolpgoejdaaGreatGv
import Derived.Test.YtekhnolpgoejdaaGreatGoz
import Derived.Laws.FloatArith
import Derived.Laws.StructEq
import Derived.Deep.DeepCutAuto
import Derived.Laws.MakeOwn
import Derived.Below
import Derived.BigQuiet
import Derived.OwnWalk
import Derived.Laws.AppendOwn
import Derived.Laws.AppendOwnNone
import Derived.WalkKit
import Derived.WalkLawsBesides
import Derived.WalkSpells
import Derived.ProofKit
import Derived.OpenShut
import Derived.Deep.RegionHeld3
import Derived.Deep.LoopGhost
namespace Go.Proofs.YtekhnolpgoejdaaGreat
open Go.ChangeShapes Go.WideShapes Go.ChangeAt Go.RowKit Go.Shelf Go.Lib Go.Sort
set_option linter.unusedVariables false
set_option linter.unusedSimpArgs false


theorem fRow_app1 (L : List Nat) (x : Nat) : fRow (L ++ [x]) = fRow L ++ [.float .f64 x] := by simp [fRow]
theorem rsize_s (b : Bo) (w : World) : Calls Tryz.prog 42 #[.agg #[.float .f64 b.1, .float .f64 b.2.1, .float .f64 b.2.2.1, .float .f64 b.2.2.2]] w fun e w' => ∃ r, SizeR b.1 b.2.1 b.2.2.1 b.2.2.2 r ∧ e = .returned (.float .f64 r) ∧ Bel w w' := by
  have q1 := run_sub Tryz.prog
  have q2 := run_add Tryz.prog
  go_enter Tryz.func42, Tryz.ntmps42
  go_wp2
  go_ret
  refine ⟨_, ⟨_, _, ⟨fv_res .sub .f64 _ _ _, fv_res .sub .f64 _ _ _⟩, fv_res .add .f64 _ _ _⟩, rfl, ?_⟩
  repeat (first | exact bl_refl _ | assumption | apply bl_drewN | apply bl_drew | apply bl_alloc | refine bl_set ?_ (by simp <;> omega) | refine bl_trans ?_ (by assumption))

theorem run_mul_some (t : TypeId) {x y v : Nat} (h : floatBits .mul .f64 x y = some v) (w : World) : (binOp .mul t (.float .f64 x) (.float .f64 y)).run Tryz.prog w = .ok (.float .f64 v) w := by
  rw [run_mul]
  unfold fv fd
  rw [h]
  rfl
set_option maxRecDepth 100000 in
set_option maxHeartbeats 16000000 in
theorem rwidth14_s (sa : Option Addr) (n cap : Nat) (B : Nat → Bo) (w : World) (hA : AnyB w sa n B) (hn : n ≤ 200) (ho : ∀ i, i < n → okK .f64 (B i).1 ∧ okK .f64 (B i).2.1) :
    Calls Tryz.prog 17 #[.slice sa n cap] w fun e w' => e = .returned (.tuple #[.float .f64 (gwW B n), .int .i64 (mnE n)]) ∧ Bel w w' := by
  obtain ⟨A, hA0⟩ : ∃ A, gwW B n = A := ⟨_, rfl⟩
  have hz : ¬ (16384 : Int) < (n : Int) := by omega
  have e2 : mnE n = 0 := by unfold mnE; rw [if_neg (by omega)]
  rw [e2, hA0]
  have HA : Hid (midW (zrL B n) = A) := (show _ = _ from by rw [← hA0]; unfold gwW; rw [if_neg (by omega)])
  clear hA0 e2
  go_enter Tryz.func17, Tryz.ntmps17
  go_wp2
  go_loopg [4, 5] n (fun kx s4 s5 wr => ∃ (t : Nat) (acc : List Nat), s5 = .int .i64 t ∧ t ≤ n ∧ n - t ≤ kx ∧ acc.length ≤ t ∧ OwnR 1 w.heap.size wr s4 acc.length (fRow acc) ∧ Bel w wr ∧ Hid (ZPk B t acc))
  case atStart => exact ⟨0, [], rfl, Nat.zero_le _, Nat.le_refl _, Nat.le_refl _, OwnR.nil _ _ _, bl_refl _, zpk_nil B⟩
  case round =>
    obtain ⟨t, acc, rfl, htn, hkx, hal, hO, hW, HZ⟩ := hrel
    obtain ⟨sg, cg, hv⟩ := own_len14 hO
    subst hv
    obtain ⟨m, hm0⟩ : ∃ m, acc.length = m := ⟨_, rfl⟩
    have HM : Hid (acc.length = m) := hm0
    by_cases hlt : t < n
    · have hltz : (t : Int) < (n : Int) := by omega
      have hwk : IntKind.wrap .i64 ((t : Int) + 1) = (t : Int) + 1 := by rw [IntKind.wrap_i64]; omega
      obtain ⟨b, off, hsa, hBs, hbl⟩ : ∃ b off, sa = some ⟨b, off, none⟩ ∧ Bs w b off n B ∧ b < w.heap.size := by
        rcases hA with h0 | h0
        · omega
        · exact h0
      clear hA
      subst hsa
      obtain ⟨x0, x1, x2, x3⟩ := (hBs.bel hW) t hlt
      have hoo := ho t hlt
      obtain ⟨kb, hkb⟩ : ∃ k, chkN (bChk (B t).1 (B t).2.1 (B t).2.2.1 (B t).2.2.2) = k := ⟨_, rfl⟩
      have kB : ∀ W, Calls Tryz.prog 41 #[.agg #[.float .f64 (B t).1, .float .f64 (B t).2.1, .float .f64 (B t).2.2.1, .float .f64 (B t).2.2.2]] W fun e w' => e = .returned (.int .i64 kb) ∧ Bel W w' := fun W => by rw [← hkb]; exact rCheck_any _ _ _ _ W
      have cm := chk_may (B t)
      rw [hkb] at cm
      clear hkb
      cases hmt : mayO (B t) with
      | false =>
        rw [hmt] at cm
        have cn : (kb != 0) = true := by simp at cm; simp [cm]
        have HP : Hid (mayO (B t) = false) := hmt
        clear hmt cm hm0
        go_wp2_with (first | (go_at_call 41; (with_reducible refine (kB _).mono ?_); rintro e w2 ⟨rfl, hb2⟩))
        go_roundg (n - (t + 1))
        case measure => omega
        case rel => exact ⟨t + 1, acc, by go_num, by omega, Nat.le_refl _, by omega, hO.bel hb2, bl_trans hW hb2, HZ.out.no HP.out⟩
      | true =>
        rw [hmt] at cm
        have cn : (kb != 0) = false := by simp at cm; simp [cm]
        have HP : Hid (mayO (B t) = true) := hmt
        clear hmt cm
        rw [hm0] at hO hal ⊢
        clear hm0
        have hsiz := fun W => rsize_s (B t) W
        go_upto_region 9 with (first | (go_at_call 41; (with_reducible refine (kB _).mono ?_); rintro e w2 ⟨rfl, hb2⟩; replace x0 := keepB hb2 x0; replace x1 := keepB hb2 x1; replace x2 := keepB hb2 x2; replace x3 := keepB hb2 x3) | (go_at_call 42; (with_reducible refine (hsiz _).mono ?_); rintro e w3 ⟨r, hr, rfl, hb3⟩))
        have hr2 := size_rk HP.out hoo.1 hoo.2 hr
        have okr := hr2.2
        have HR : Hid _ := hr2
        have hB3 := bl_trans hb2 hb3
        replace hO := hO.bel hB3
        replace hW := bl_trans hW hB3
        clear hr hr2 x0 x1 x2 x3 hb2 hb3 hB3 kB cn hsiz
        obtain ⟨wo, hwo⟩ : ∃ X, X = w3 := ⟨_, rfl⟩
        rw [← hwo] at hO hW ⊢
        clear hwo
        have hso := hW.size
        have own9 := hO.bel (bl_alloc (bl_refl wo) #[.float .f64 r] 23)
        go_wp2
        go_loopg [7] m (fun kx s7 wr => ∃ (a : Nat), s7 = .int .i64 a ∧ a ≤ m ∧ a ≤ kx ∧ wr = wo ∧ Hid (∀ j x, a ≤ j → acc[j]? = some x → rkK r < rkK x))
        case atStart => exact ⟨m, rfl, Nat.le_refl _, Nat.le_refl _, rfl, (show _ from fun j x hj hx => by
          rw [List.getElem?_eq_none (by rw [HM.out]; exact hj)] at hx; cases hx)⟩
        case round =>
          obtain ⟨a, rfl, ham, hakx, hwe, HJ⟩ := hrel
          subst hwe
          obtain ⟨wo, hwo⟩ : ∃ X, X = wr := ⟨_, rfl⟩
          rw [← hwo] at hO hW hso own9 ⊢
          have HWO : Hid (wo = wr) := hwo
          clear hwo
          by_cases ha0 : 0 < a
          · have haz0 : (0 : Int) < (a : Int) := by omega
            have ea : IntKind.wrap .i64 ((a : Int) - 1) = ((a - 1 : Nat) : Int) := by rw [IntKind.wrap_i64]; omega
            have ham1 : ((a - 1 : Nat) : Int) < (m : Int) := by omega
            obtain ⟨x, hx⟩ : ∃ x, acc[a - 1]? = some x := ⟨_, List.getElem?_eq_getElem (by rw [HM.out]; omega)⟩
            obtain ⟨gz, hgz0⟩ : ∃ gz, sg = some ⟨gz, 0, none⟩ := by
              rcases own_split hO (by decide) with ⟨h0, _⟩ | ⟨_, g', c', e, _⟩
              · omega
              · injection e with e1 _ _
                exact ⟨g', e1⟩
            subst hgz0
            have cx := own_fl hO hx
            have okx := HZ.out.ok x (List.mem_of_getElem? hx)
            have hord := fun W => rOrder_any x r W okx okr
            have hok := ord_rk x r okx okr
            by_cases hrr : rkK r < rkK x
            · have eo : ordK x r = 1 := by rw [hok, if_neg (by omega), if_pos hrr]
              rw [eo] at hord
              have HJ2 : Hid (∀ j x, a - 1 ≤ j → acc[j]? = some x → rkK r < rkK x) := (show _ from fun j y hj hy => by
                rcases Nat.lt_or_ge j a with h' | h'
                · have e : j = a - 1 := by omega
                  rw [e, hx] at hy; cases hy; exact hrr
                · exact HJ.out j y h' hy)
              clear hx hok eo
              go_wp2_with (first | (go_at_call 43; (with_reducible refine (hord _).mono ?_); rintro e w' ⟨rfl, hw⟩; rw [hw]; clear hw))
              go_roundg (a - 1)
              case measure => omega
              case rel => exact ⟨a - 1, by first | rfl | go_num, by omega, Nat.le_refl _, HWO.out, HJ2⟩
            · obtain ⟨oo, hoo2⟩ : ∃ o, ordK x r = o := ⟨_, rfl⟩
              have eo : ¬ (0 : Int) < oo := by
                rw [← hoo2, hok]
                split <;> first | omega | (split <;> first | omega | contradiction)
              rw [hoo2] at hord
              have HX : Hid (acc[a - 1]? = some x ∧ rkK x ≤ rkK r) := (show _ ∧ _ from ⟨hx, by omega⟩)
              clear hx hok hoo2 hrr
              go_upto_region 12 with (first | (go_at_call 43; (with_reducible refine (hord _).mono ?_); rintro e w' ⟨rfl, hw⟩; rw [hw]; clear hw))
              go_upto_region 13 with (first | (at_builtin; refine wpList_appS (P := Tryz.prog) (sz := 1) (by_ := 8) (R := fRow acc) (N := [.float .f64 r]) 68 23 rfl _ _ rfl Tryz.underlying68 info_fl rfl rfl _ 0 1 1 rfl own9 rfl (mk_rw wo [.float .f64 r] 23) one_fl (by decide) (by simp only [World.size_alloc]; omega) (by unfold maxLen; omega) (by omega) ?_; intro v9 w9 hO9 hv9 hbX hoth hlow; obtain ⟨g9, c9, rfl, hg9⟩ := hv9; have B91 := hbX w (bl_alloc hW _ _) (Nat.le_refl _)))
              rw [← fRow_app1, ← atZ_end] at hO9
              rw [HM.out] at hO9
              have ew : IntKind.wrap .i64 ((m : Int) + 1 - 1) = (m : Int) := by rw [IntKind.wrap_i64]; omega
              have hgb : w.heap.size ≤ g9 := own_vb hO9 g9 rfl
              go_wp2
              go_loopg [8] m (fun kx s8 wr => ∃ (k v : Nat), s8 = .int .i64 k ∧ a ≤ k ∧ k ≤ m ∧ k ≤ kx ∧ OwnR 1 w.heap.size wr (.slice (some ⟨g9, 0, none⟩) (m + 1) c9) (m + 1) (fRow (atZ acc k v)) ∧ Bel w wr)
              case atStart => exact ⟨m, r, by go_num, ham, Nat.le_refl _, Nat.le_refl _, hO9, B91⟩
              case round =>
                clear hO9 B91
                obtain ⟨k, v, rfl, hak, hkm, hkx2, hO2, hW2⟩ := hrel
                have hka : (k : Int) < (m : Int) + 1 := by omega
                have haa : (a : Int) < (m : Int) + 1 := by omega
                have haz : (0 : Int) ≤ (a : Int) := by omega
                by_cases hgt : a < k
                · have hgz : (a : Int) < (k : Int) := by omega
                  have ek : IntKind.wrap .i64 ((k : Int) - 1) = ((k - 1 : Nat) : Int) := by rw [IntKind.wrap_i64]; omega
                  have hk1 : ((k - 1 : Nat) : Int) < (m : Int) + 1 := by omega
                  obtain ⟨x, hx⟩ : ∃ x, acc[k - 1]? = some x := ⟨_, List.getElem?_eq_getElem (by rw [HM.out]; omega)⟩
                  have cx := own_fl hO2 (atZ_get (v := v) (show k - 1 < k by omega) hx)
                  obtain ⟨⟨x0, c0⟩, z0⟩ := own_at hO2 (o := k) (by omega)
                  have hO3 := own_put hO2 (o := k) (by omega) (.float .f64 x)
                  rw [fRow_set, atZ_set (by rw [HM.out]; exact hkm), show k = (k - 1) + 1 by omega, atZ_down hx, show k - 1 + 1 = k by omega] at hO3
                  have HO3 : Aside _ := hO3
                  have HB3 : Aside _ := bl_set (p := ⟨g9, k, none⟩) (v := .float .f64 x) hW2 hgb
                  clear hO3 hx
                  go_wp2
                  go_roundg (k - 1)
                  case measure => omega
                  case rel => exact ⟨k - 1, x, rfl, by omega, by omega, Nat.le_refl _, HO3.out, HB3.out⟩
                · have hgz : ¬ (a : Int) < (k : Int) := by omega
                  have hkea : k = a := by omega
                  obtain ⟨⟨x0, c0⟩, z0⟩ := own_at hO2 (o := a) (by omega)
                  have hO3 := own_put hO2 (o := a) (by omega) (.float .f64 r)
                  rw [fRow_set, hkea, atZ_set (by rw [HM.out]; exact ham)] at hO3
                  have HO3 : Aside _ := hO3
                  have HB3 : Aside _ := bl_set (p := ⟨g9, a, none⟩) (v := .float .f64 r) hW2 hgb
                  clear hO3 hkea
                  have HZN := HZ.out.yes HP.out HR.out (by rw [HM.out]; exact ham) HJ.out (.inr ⟨x, HX.out.1, HX.out.2⟩)
                  have HZN2 : Hid _ := HZN
                  clear HZN
                  go_wp2
                  go_roundg (n - (t + 1))
                  case measure => omega
                  case rel => exact ⟨t + 1, atZ acc a r, by go_num, by omega, Nat.le_refl _, by rw [atZ_len, HM.out]; omega, by rw [atZ_len, HM.out]; exact HO3.out, HB3.out, HZN2⟩
          · have haz0 : ¬ (0 : Int) < (a : Int) := by omega
            have ha00 : a = 0 := by omega
            have HA0 : Hid (a = 0) := ha00
            clear ha00
            go_upto_region 12 with (fail)
            go_upto_region 13 with (first | (at_builtin; refine wpList_appS (P := Tryz.prog) (sz := 1) (by_ := 8) (R := fRow acc) (N := [.float .f64 r]) 68 23 rfl _ _ rfl Tryz.underlying68 info_fl rfl rfl _ 0 1 1 rfl own9 rfl (mk_rw wo [.float .f64 r] 23) one_fl (by decide) (by simp only [World.size_alloc]; omega) (by unfold maxLen; omega) (by omega) ?_; intro v9 w9 hO9 hv9 hbX hoth hlow; obtain ⟨g9, c9, rfl, hg9⟩ := hv9; have B91 := hbX w (bl_alloc hW _ _) (Nat.le_refl _)))
            rw [← fRow_app1, ← atZ_end] at hO9
            rw [HM.out] at hO9
            have ew : IntKind.wrap .i64 ((m : Int) + 1 - 1) = (m : Int) := by rw [IntKind.wrap_i64]; omega
            have hgb : w.heap.size ≤ g9 := own_vb hO9 g9 rfl
            go_wp2
            go_loopg [8] m (fun kx s8 wr => ∃ (k v : Nat), s8 = .int .i64 k ∧ a ≤ k ∧ k ≤ m ∧ k ≤ kx ∧ OwnR 1 w.heap.size wr (.slice (some ⟨g9, 0, none⟩) (m + 1) c9) (m + 1) (fRow (atZ acc k v)) ∧ Bel w wr)
            case atStart => exact ⟨m, r, by go_num, ham, Nat.le_refl _, Nat.le_refl _, hO9, B91⟩
            case round =>
              clear hO9 B91
              obtain ⟨k, v, rfl, hak, hkm, hkx2, hO2, hW2⟩ := hrel
              have hka : (k : Int) < (m : Int) + 1 := by omega
              have haa : (a : Int) < (m : Int) + 1 := by omega
              have haz : (0 : Int) ≤ (a : Int) := by omega
              by_cases hgt : a < k
              · have hgz : (a : Int) < (k : Int) := by omega
                have ek : IntKind.wrap .i64 ((k : Int) - 1) = ((k - 1 : Nat) : Int) := by rw [IntKind.wrap_i64]; omega
                have hk1 : ((k - 1 : Nat) : Int) < (m : Int) + 1 := by omega
                obtain ⟨x, hx⟩ : ∃ x, acc[k - 1]? = some x := ⟨_, List.getElem?_eq_getElem (by rw [HM.out]; omega)⟩
                have cx := own_fl hO2 (atZ_get (v := v) (show k - 1 < k by omega) hx)
                obtain ⟨⟨x0, c0⟩, z0⟩ := own_at hO2 (o := k) (by omega)
                have hO3 := own_put hO2 (o := k) (by omega) (.float .f64 x)
                rw [fRow_set, atZ_set (by rw [HM.out]; exact hkm), show k = (k - 1) + 1 by omega, atZ_down hx, show k - 1 + 1 = k by omega] at hO3
                have HO3 : Aside _ := hO3
                have HB3 : Aside _ := bl_set (p := ⟨g9, k, none⟩) (v := .float .f64 x) hW2 hgb
                clear hO3 hx
                go_wp2
                go_roundg (k - 1)
                case measure => omega
                case rel => exact ⟨k - 1, x, rfl, by omega, by omega, Nat.le_refl _, HO3.out, HB3.out⟩
              · have hgz : ¬ (a : Int) < (k : Int) := by omega
                have hkea : k = a := by omega
                obtain ⟨⟨x0, c0⟩, z0⟩ := own_at hO2 (o := a) (by omega)
                have hO3 := own_put hO2 (o := a) (by omega) (.float .f64 r)
                rw [fRow_set, hkea, atZ_set (by rw [HM.out]; exact ham)] at hO3
                have HO3 : Aside _ := hO3
                have HB3 : Aside _ := bl_set (p := ⟨g9, a, none⟩) (v := .float .f64 r) hW2 hgb
                clear hO3 hkea
                have HZN := HZ.out.yes HP.out HR.out (by rw [HM.out]; exact ham) HJ.out (.inl HA0.out)
                have HZN2 : Hid _ := HZN
                clear HZN
                go_wp2
                go_roundg (n - (t + 1))
                case measure => omega
                case rel => exact ⟨t + 1, atZ acc a r, by go_num, by omega, Nat.le_refl _, by rw [atZ_len, HM.out]; omega, by rw [atZ_len, HM.out]; exact HO3.out, HB3.out, HZN2⟩
    · have hltz : ¬ (t : Int) < (n : Int) := by omega
      have htt : t = n := by omega
      have HZ2 : Hid (ZPk B n acc) := (show ZPk B n acc from by rw [← htt]; exact HZ.out)
      clear htt HZ
      by_cases h0 : acc = []
      · have hA1 : A = 4607182418800017408 := by
          have := HZ2.out
          rw [h0] at this
          rw [← HA.out]; exact zrl_nil this
        subst hA1
        subst h0
        simp only [List.length_nil] at hO ⊢
        go_wp2
        refine bodyPost_ret (v := .tuple #[.float .f64 4607182418800017408, .int .i64 0]) (by simp [results, Tryz.results17, go_sem]) rfl ?_
        exact ⟨rfl, hW⟩
      · have hpos : 0 < acc.length := by
          cases acc with
          | nil => exact absurd rfl h0
          | cons a l => exact Nat.succ_pos _
        obtain ⟨sm, hsm, osm, hgw⟩ := mid_pk HZ2.out hpos
        rw [hm0] at hsm hpos hO hal ⊢
        obtain ⟨gz, hgz0⟩ : ∃ gz, sg = some ⟨gz, 0, none⟩ := by
          rcases own_split hO (by decide) with ⟨h1, _⟩ | ⟨_, g', c', e, _⟩
          · omega
          · injection e with e1 _ _
            exact ⟨g', e1⟩
        subst hgz0
        have cm := own_fl hO hsm
        have hAA : A = pwR (rkK sm) := HA.out.symm.trans hgw
        clear hgw hm0 hsm
        have hNz : ¬ (m : Int) = 0 := by omega
        have hmid : (m - 1) / 2 < m := by omega
        have ew : IntKind.wrap .i64 ((m : Int) - 1) = ((m - 1 : Nat) : Int) := by rw [IntKind.wrap_i64]; omega
        have ed : Int.tdiv ((m - 1 : Nat) : Int) 2 = (((m - 1) / 2 : Nat) : Int) := by rw [Int.tdiv_eq_ediv_of_nonneg (by omega)]; omega
        have ed2 : IntKind.wrap .i64 (((m - 1) / 2 : Nat) : Int) = (((m - 1) / 2 : Nat) : Int) := by rw [IntKind.wrap_i64]; omega
        have c1 := cmp_lt .f64
        obtain ⟨Z, hZ⟩ : ∃ Z, lwR (rkK sm) 70 = Z := ⟨_, rfl⟩
        have hAZ : A = wdW Z := by rw [hAA]; unfold pwR; rw [hZ]
        have HAZ : Hid (A = wdW Z) := hAZ
        have HZZ : Hid (lwR (rkK sm) 70 = Z) := hZ
        clear hAA hAZ hZ
        obtain ⟨wo, hwo⟩ : ∃ X, X = wr := ⟨_, rfl⟩
        subst hwo
        go_wp2
        go_loopg [10] 70 (fun kx s10 wr => ∃ k : Nat, s10 = .float .f64 (wdW k) ∧ k ≤ 70 ∧ 70 - k ≤ kx ∧ wr = wo ∧ Hid (lwR (rkK sm) (70 - k) = Z))
        case atStart => exact ⟨0, rfl, by omega, by omega, rfl, HZZ⟩
        case round =>
          obtain ⟨k, rfl, hk, hkx2, hw, HK⟩ := hrel
          subst hw
          have hmo := wd_most hk
          have hlw := lt_wd hk osm
          by_cases h70 : k < 70
          · rw [decide_eq_true h70] at hmo
            have q := fun W => run_mul_some 23 (wd_mul h70) W
            cases hl : ltK .f64 (wdW k) sm with
            | true =>
              have hl2 : rkK (wdW k) < rkK sm := by rw [hl] at hlw; simpa using hlw.symm
              have HN : Hid (lwR (rkK sm) (70 - (k + 1)) = Z) := (show _ = _ from by
                have := HK.out
                rw [show 70 - k = (70 - (k + 1)) + 1 by omega, lwR, show 70 - (70 - (k + 1) + 1) = k by omega, if_pos hl2] at this
                exact this)
              obtain ⟨wk, hwk⟩ : ∃ x, wdW k = x := ⟨_, rfl⟩
              obtain ⟨wk1, hwk1⟩ : ∃ x, wdW (k + 1) = x := ⟨_, rfl⟩
              have H1 : Hid (wdW (k + 1) = wk1) := hwk1
              rw [hwk] at hl hmo q ⊢
              rw [hwk1] at q
              clear hwk hwk1 hlw hl2
              go_wp2
              go_roundg (70 - (k + 1))
              case measure => omega
              case rel => exact ⟨k + 1, by rw [H1.out], by omega, Nat.le_refl _, rfl, HN⟩
            | false =>
              have hl2 : ¬ rkK (wdW k) < rkK sm := by rw [hl] at hlw; simpa using hlw.symm
              have HE : Z = k := by
                have := HK.out
                rw [show 70 - k = (70 - (k + 1)) + 1 by omega, lwR, show 70 - (70 - (k + 1) + 1) = k by omega, if_neg hl2] at this
                exact this.symm
              have hAk : A = wdW k := by rw [HAZ.out, HE]
              obtain ⟨wk, hwk⟩ : ∃ x, wdW k = x := ⟨_, rfl⟩
              rw [hwk] at hl hAk ⊢
              clear hwk hlw hl2 hmo q HK HE
              have HAK : Hid (A = wk) := hAk
              clear hAk
              go_wp2
              refine bodyPost_ret (v := .tuple #[.float .f64 wk, .int .i64 0]) (by simp [results, Tryz.results17, go_sem]) rfl ?_
              exact ⟨by rw [HAK.out], hW⟩
          · have e70 : k = 70 := by omega
            subst e70
            have HE : Z = 70 := by have := HK.out; simpa [lwR] using this.symm
            have hAk : A = wdW 70 := by rw [HAZ.out, HE]
            rw [decide_eq_false h70] at hmo
            obtain ⟨wk, hwk⟩ : ∃ x, wdW 70 = x := ⟨_, rfl⟩
            rw [hwk] at hmo hlw hAk ⊢
            have HAK : Hid (A = wk) := hAk
            clear hAk hwk HK HE
            cases hl : ltK .f64 wk sm
            all_goals
              clear hlw
              go_wp2
              refine bodyPost_ret (v := .tuple #[.float .f64 wk, .int .i64 0]) (by simp [results, Tryz.results17, go_sem]) rfl ?_
              exact ⟨by rw [HAK.out], hW⟩

end Go.Proofs.YtekhnolpgoejdaaGreat
