/-
  What each function of package grid answers: one contract a function.
-/
import Derived.Test.YtekhnolpgoejdaaGreatGq
import Derived.Test.YtekhnolpgoejdaaGreatBref
import Derived.Test.YtekhnolpgoejdaaGreatSwh
import Derived.Test.YtekhnolpgoejdaaGreatApps
import Derived.Laws.FloatArith
import Derived.Laws.StructEq
import Derived.Deep.DeepCutAuto
import Derived.Laws.MakeOwn
import Derived.Below
import Derived.BigQuiet
import Derived.OwnWalk
import Derived.Laws.AppendOwn
import Derived.Laws.AppendOwnNone
import Derived.WalkKit
import Derived.WalkLawsBesides
import Derived.WalkSpells
import Derived.ProofKit
import Derived.OpenShut
import Derived.Deep.RegionHeld3
import Derived.Deep.LoopGhost
namespace Go.Proofs.YtekhnolpgoejdaaGreat
open Go.ChangeShapes Go.WideShapes Go.ChangeAt Go.RowKit Go.Shelf Go.Lib Go.Sort
set_option linter.unusedVariables false
set_option linter.unusedSimpArgs false


def Bk (w : World) (q : Nat) (y : Bo) : Prop := w.cell? ⟨q, 0, none⟩ = some (.float .f64 y.1) ∧ w.cell? ⟨q, 1, none⟩ = some (.float .f64 y.2.1) ∧ w.cell? ⟨q, 2, none⟩ = some (.float .f64 y.2.2.1) ∧ w.cell? ⟨q, 3, none⟩ = some (.float .f64 y.2.2.2)
theorem Bk.bel {w w' : World} {q : Nat} {y : Bo} (h : Bk w q y) (b : Bel w w') : Bk w' q y := ⟨keepB b h.1, keepB b h.2.1, keepB b h.2.2.1, keepB b h.2.2.2⟩

set_option maxRecDepth 100000 in
set_option maxHeartbeats 4000000 in
theorem rMeet_s (a y : Bo) (w : World) : Calls Tryz.prog 36 #[.agg #[.float .f64 a.1, .float .f64 a.2.1, .float .f64 a.2.2.1, .float .f64 a.2.2.2], .agg #[.float .f64 y.1, .float .f64 y.2.1, .float .f64 y.2.2.1, .float .f64 y.2.2.2]] w fun e w' => e = .returned (.bool (meO a y)) ∧ Bel w w' := by
  obtain ⟨W1, hW1⟩ : ∃ W1, W1 = w.alloc (.cells #[.float .f64 a.1, .float .f64 a.2.1, .float .f64 a.2.2.1, .float .f64 a.2.2.2] 37) := ⟨_, rfl⟩
  have hka : Bk W1 w.heap.size a := by
    rw [hW1]
    exact ⟨by rw [World.cell?_alloc_new]; rfl, by rw [World.cell?_alloc_new]; rfl, by rw [World.cell?_alloc_new]; rfl, by rw [World.cell?_alloc_new]; rfl⟩
  have hs1 : W1.heap.size = w.heap.size + 1 := by rw [hW1]; exact World.size_alloc _ _
  have hky : Bk (W1.alloc (.cells #[.float .f64 y.1, .float .f64 y.2.1, .float .f64 y.2.2.1, .float .f64 y.2.2.2] 37)) (w.heap.size + 1) y := by
    rw [← hs1]
    exact ⟨by rw [World.cell?_alloc_new]; rfl, by rw [World.cell?_alloc_new]; rfl, by rw [World.cell?_alloc_new]; rfl, by rw [World.cell?_alloc_new]; rfl⟩
  replace hka := hka.bel (bl_alloc (bl_refl W1) #[.float .f64 y.1, .float .f64 y.2.1, .float .f64 y.2.2.1, .float .f64 y.2.2.2] 37)
  have B0 : Bel w (W1.alloc (.cells #[.float .f64 y.1, .float .f64 y.2.1, .float .f64 y.2.2.1, .float .f64 y.2.2.2] 37)) := by rw [hW1]; exact bl_alloc (bl_alloc (bl_refl _) _ _) _ _
  rw [hW1] at hka hky B0
  clear hW1 hs1
  obtain ⟨a0, a1, a2, a3⟩ := hka
  obtain ⟨y0, y1, y2, y3⟩ := hky
  have ca := chk_may a
  have cy := chk_may y
  have KP : ∀ {u u' : World} {q : Nat} {z : Bo}, Bel u u' → Bk u q z → Bk u' q z := fun h k => k.bel h
  go_enter Tryz.func36, Tryz.ntmps36
  unfold meO
  obtain ⟨ka, hka⟩ : ∃ k, chkN (bChk a.1 a.2.1 a.2.2.1 a.2.2.2) = k := ⟨_, rfl⟩
  obtain ⟨ky, hky⟩ : ∃ k, chkN (bChk y.1 y.2.1 y.2.2.1 y.2.2.2) = k := ⟨_, rfl⟩
  have kA : ∀ W, Calls Tryz.prog 41 #[.agg #[.float .f64 a.1, .float .f64 a.2.1, .float .f64 a.2.2.1, .float .f64 a.2.2.2]] W fun e w' => e = .returned (.int .i64 ka) ∧ Bel W w' := fun W => by rw [← hka]; exact rCheck_any _ _ _ _ W
  have kY : ∀ W, Calls Tryz.prog 41 #[.agg #[.float .f64 y.1, .float .f64 y.2.1, .float .f64 y.2.2.1, .float .f64 y.2.2.2]] W fun e w' => e = .returned (.int .i64 ky) ∧ Bel W w' := fun W => by rw [← hky]; exact rCheck_any _ _ _ _ W
  have kO : ∀ W, Calls Tryz.prog 63 #[.agg #[.float .f64 a.1, .float .f64 a.2.1, .float .f64 a.2.2.1, .float .f64 a.2.2.2], .agg #[.float .f64 y.1, .float .f64 y.2.1, .float .f64 y.2.2.1, .float .f64 y.2.2.2]] W fun e w' => e = .returned (.bool (ovO a y)) ∧ Bel W w' := fun W => rOver_any _ _ _ _ _ _ _ _ W
  rw [hka] at ca
  rw [hky] at cy
  clear hka hky
  generalize ovO a y = o at kO ⊢
  cases hm : mayO a with
  | false =>
    rw [hm] at ca
    go_wp2_with (first | (go_at_call 41; (with_reducible refine (kA _).mono ?_); rintro e w1 ⟨rfl, hb⟩))
    go_ret
    exact ⟨rfl, bl_trans B0 hb⟩
  | true =>
    rw [hm] at ca
    cases hy : mayO y with
    | false =>
      rw [hy] at cy
      go_wp2_with (first | (go_at_call 41; first | (have zn := mq; clear zn; (with_reducible refine (kY _).mono ?_); rintro e w2 ⟨rfl, hb2⟩) | ((with_reducible refine (kA _).mono ?_); rintro e w1 ⟨rfl, hb⟩; have mq := hide True.intro; replace y0 := keepB hb y0; replace y1 := keepB hb y1; replace y2 := keepB hb y2; replace y3 := keepB hb y3)))
      go_ret
      exact ⟨rfl, bl_trans (bl_trans B0 hb) hb2⟩
    | true =>
      rw [hy] at cy
      go_wp2_with (first | (go_at_call 41; first | (have zn := mq; clear zn; (with_reducible refine (kY _).mono ?_); rintro e w2 ⟨rfl, hb2⟩; replace y0 := keepB hb2 y0; replace y1 := keepB hb2 y1; replace y2 := keepB hb2 y2; replace y3 := keepB hb2 y3; replace a0 := keepB hb2 a0; replace a1 := keepB hb2 a1; replace a2 := keepB hb2 a2; replace a3 := keepB hb2 a3) | ((with_reducible refine (kA _).mono ?_); rintro e w1 ⟨rfl, hb⟩; have mq := hide True.intro; replace y0 := keepB hb y0; replace y1 := keepB hb y1; replace y2 := keepB hb y2; replace y3 := keepB hb y3; replace a0 := keepB hb a0; replace a1 := keepB hb a1; replace a2 := keepB hb a2; replace a3 := keepB hb a3)) | (go_at_call 63; (with_reducible refine (kO _).mono ?_); rintro e w3 ⟨rfl, hb3⟩))
      go_ret
      refine ⟨by first | rfl | simp, bl_trans (bl_trans (bl_trans B0 hb) hb2) hb3⟩

theorem rwide_s (d : Nat) (w : World) : Calls Tryz.prog 61 #[.float .f64 d] w fun e w' => e = .returned (.bool (mayW d)) ∧ w' = w := by
  have c1 := cmp_le .f64
  have c2 := cmp_ge .f64
  cases h1 : leK .f64 4472074429978902528 d
  · go_enter Tryz.func61, Tryz.ntmps61
    go_wp2
    go_ret
    exact ⟨by simp [mayW, h1], rfl⟩
  · cases h2 : leK .f64 d 4787326403894837248
    all_goals
      go_enter Tryz.func61, Tryz.ntmps61
      go_wp2
      go_ret
      exact ⟨by simp [mayW, h1, h2], rfl⟩

theorem rasked_s (sa : Option Addr) (n cap d : Nat) (w : World) : Calls Tryz.prog 32 #[.slice sa n cap, .float .f64 d] w fun e w' => e = .returned (.int .i64 (ckG n d)) ∧ w' = w := by
  by_cases hn : 16384 < n
  · have hz : (16384 : Int) < (n : Int) := by omega
    go_enter Tryz.func32, Tryz.ntmps32
    go_wp2
    go_ret
    exact ⟨by simp [ckG, hn], rfl⟩
  · have hz : ¬ (16384 : Int) < (n : Int) := by omega
    cases hm : mayW d
    all_goals
      go_enter Tryz.func32, Tryz.ntmps32
      go_wp2_with (first | (go_at_call 61; (with_reducible refine (rwide_s _ _).mono ?_); rintro e w' ⟨rfl, hw⟩; rw [hw, hm]; clear hw))
      go_ret
      exact ⟨by simp [ckG, hn, hm], rfl⟩
set_option maxRecDepth 100000 in
set_option maxHeartbeats 8000000 in
theorem rall_s (sa : Option Addr) (n cap : Nat) (B : Nat → Bo) (w : World) (hA : AnyB w sa n B) (hn : n ≤ 200) :
    Calls Tryz.prog 33 #[.slice sa n cap] w fun e w' => ∃ v, e = .returned v ∧ OwnR 2 w.heap.size w' v (refP B n).length (pRow (refP B n)) ∧ Bel w w' := by
  have HSQ := refP_sq B hn
  obtain ⟨RL, hRL⟩ : ∃ L, refP B n = L := ⟨_, rfl⟩
  rw [hRL]
  have HF : Hid (allB B B (fun i k => decide (i < k)) n n = RL) := hRL
  have hsq : ∀ i, i ≤ n → (allB B B (fun i k => decide (i < k)) n i).length ≤ 40000 := fun i hi => Nat.le_trans (allB_len (B := B) (C := B) (p := fun i k => decide (i < k)) (m := n) hi) HSQ
  have HS : Hid _ := hsq
  clear hRL HSQ hsq
  go_enter Tryz.func33, Tryz.ntmps33
  go_wp2
  go_loopg [3, 4] n (fun kx s3 s4 wr => ∃ (i : Nat) (acc : List (Nat × Nat)), s4 = .int .i64 i ∧ i ≤ n ∧ n - i ≤ kx ∧ acc.length ≤ 40000 ∧ OwnR 2 w.heap.size wr s3 (acc).length (pRow (acc)) ∧ Bel w wr ∧ Hid (acc = allB B B (fun i k => decide (i < k)) n i))
  case atStart => exact ⟨0, [], rfl, by omega, by omega, Nat.zero_le _, OwnR.nil _ _ _, bl_refl _, rfl⟩
  case round =>
    obtain ⟨i, acc, rfl, hin, hkx, hal, hO, hW, hE⟩ := hrel
    by_cases hlt : i < n
    · have hltz : (i : Int) < (n : Int) := by omega
      have hwk : IntKind.wrap .i64 ((i : Int) + 1) = (i : Int) + 1 := by rw [IntKind.wrap_i64]; omega
      obtain ⟨b, off, hsa, hB, hb0⟩ : ∃ b off, sa = some ⟨b, off, none⟩ ∧ Bs w b off n B ∧ b < w.heap.size := by
        rcases hA with h0 | h0
        · omega
        · exact h0
      clear hA
      subst hsa
      obtain ⟨wo, hwo⟩ : ∃ X, X = wr := ⟨_, rfl⟩
      subst hwo
      have hlrow : ∀ k, k ≤ n → (acc ++ rowB B B (fun i k => decide (i < k)) k i).length ≤ 40000 := fun k hk => by
        have e1 := HS.out (i + 1) (by omega)
        rw [allB, List.length_append, ← hE.out] at e1
        have e2 := rowB_pre (B := B) (C := B) (p := fun i k => decide (i < k)) (i := i) hk
        rw [List.length_append]; omega
      have HLR : Hid _ := hlrow
      clear hlrow
      go_wp2
      go_loopg [3, 5] n (fun kx s3 s5 wr => ∃ (k : Nat) (ac2 : List (Nat × Nat)), s5 = .int .i64 k ∧ i + 1 ≤ k ∧ k ≤ n ∧ n - k ≤ kx ∧ ac2.length ≤ 40000 ∧ OwnR 2 w.heap.size wr s3 (ac2).length (pRow (ac2)) ∧ Bel w wr ∧ Hid (ac2 = acc ++ rowB B B (fun i k => decide (i < k)) k i))
      case atStart => exact ⟨i + 1, acc, by go_num, Nat.le_refl _, by omega, by omega, hal, hO, hW, (show _ = _ from by rw [rowB_low (Nat.le_refl _), List.append_nil])⟩
      case round =>
        clear hO hW
        obtain ⟨k, ac2, rfl, hk1, hkn, hkx2, hal2, hO2, hW2, hE2⟩ := hrel
        obtain ⟨sq, cq, hv3⟩ := own_len14 hO2
        subst hv3
        have hlez : (ac2.length : Int) ≤ 65536 := by omega
        by_cases hlt2 : k < n
        · have hlt2z : (k : Int) < (n : Int) := by omega
          have hwk2 : IntKind.wrap .i64 ((k : Int) + 1) = (k : Int) + 1 := by rw [IntKind.wrap_i64]; omega
          obtain ⟨a0, a1, a2, a3⟩ := (hB.bel hW2) i hlt
          obtain ⟨c0, c1, c2, c3⟩ := (hB.bel hW2) k hlt2
          haveI := belBy_some wr
          have y0 := belBy_cell a0
          have y1 := belBy_cell a1
          have y2 := belBy_cell a2
          have y3 := belBy_cell a3
          have v0 := belBy_cell c0
          have v1 := belBy_cell c1
          have v2 := belBy_cell c2
          have v3 := belBy_cell c3
          obtain ⟨o, ho⟩ : ∃ o, meO (B i) (B k) = o := ⟨_, rfl⟩
          have hov : ∀ W, Calls Tryz.prog 36 #[.agg #[.float .f64 (B i).1, .float .f64 (B i).2.1, .float .f64 (B i).2.2.1, .float .f64 (B i).2.2.2], .agg #[.float .f64 (B k).1, .float .f64 (B k).2.1, .float .f64 (B k).2.2.1, .float .f64 (B k).2.2.2]] W fun e w' => e = .returned (.bool o) ∧ Bel W w' := fun W => by rw [← ho]; exact rMeet_s _ _ W
          have hpo : (decide (i < k) && meO (B i) (B k)) = o := by rw [ho, decide_eq_true (show i < k by omega), Bool.true_and]
          have HPO : Hid _ := hpo
          clear ho hpo
          go_wp2
          refine wp_region_quiet_bel (by kernel_rfl) (by kernel_rfl) ?_
          repeat (go_big_quiet_step (first | (go_at_call 36; exact calls_bel (hov _))))
          refine wpQuiet_nil ?_
          rintro _ ⟨nq, rfl⟩
          have hb2 := nq.h
          clear y0 y1 y2 y3 v0 v1 v2 v3 this
          obtain ⟨w2, hw2⟩ : ∃ w2, w2 = nq.world := ⟨_, rfl⟩
          rw [← hw2] at hb2
          rw [← hw2]
          clear hw2 nq
          have hO3 := hO2.bel hb2
          have hW3 := bl_trans hW2 hb2
          have hs3 := hW3.size
          cases o with
          | true =>
            have hO' := hO3.bel (bl_alloc (bl_refl w2) #[.int .i64 (i : Int), .int .i64 (k : Int)] 32)
            have hnl := HLR.out (k + 1) (by omega)
            rw [rowB_yes HPO.out, ← List.append_assoc, ← hE2.out] at hnl
            go_wp2_with (first | (at_builtin; refine wpList_appS (P := Tryz.prog) (sz := 2) (by_ := 16) (R := pRow (ac2)) (N := [.int .i64 (i : Int), .int .i64 (k : Int)]) 26 32 rfl _ _ rfl Tryz.underlying26 info_pair rfl rfl _ 0 1 1 rfl hO' rfl (mk_rw _ [.int .i64 (i : Int), .int .i64 (k : Int)] 32) (by intro u hu; simp only [List.mem_cons, List.not_mem_nil, or_false] at hu; rcases hu with rfl | rfl <;> rfl) (by decide) (by simp only [World.size_alloc]; omega) (by unfold maxLen; omega) (by omega) ?_; intro v2 wx hO4 hv2 hbX hoth hlow; obtain ⟨g6, c6, rfl, hg6⟩ := hv2; have B3 := hbX w (bl_alloc hW3 _ _) (Nat.le_refl _)))
            go_roundg (n - (k + 1))
            case measure => omega
            case rel => exact ⟨k + 1, ac2 ++ [(i, k)], by go_num, by omega, by omega, Nat.le_refl _, hnl, by rw [List.length_append, pRow_app]; exact hO4, B3, (show _ = _ from by rw [rowB_yes HPO.out, hE2.out, List.append_assoc])⟩
          | false =>
            go_wp2
            go_roundg (n - (k + 1))
            case measure => omega
            case rel => exact ⟨k + 1, ac2, by go_num, by omega, by omega, Nat.le_refl _, hal2, hO3, hW3, (show _ = _ from by rw [rowB_no HPO.out]; exact hE2.out)⟩
        · have hlt2z : ¬ (k : Int) < (n : Int) := by omega
          have hkn2 : k = n := by omega
          have HE3 : Hid (ac2 = allB B B (fun i k => decide (i < k)) n (i + 1)) := (show _ = _ from by rw [allB, ← hE.out, hE2.out, hkn2])
          clear hkn2
          go_wp2
          go_roundg (n - (i + 1))
          case measure => omega
          case rel => exact ⟨i + 1, ac2, by go_num, by omega, Nat.le_refl _, hal2, hO2, hW2, HE3⟩
    · have hltz : ¬ (i : Int) < (n : Int) := by omega
      have hi : i = n := by omega
      have HE3 : Hid (acc = RL) := (show _ = _ from by rw [hE.out, hi]; exact HF.out)
      clear hi
      go_wp2
      go_ret
      exact ⟨_, rfl, by rw [← HE3.out]; exact hO, hW⟩
theorem rpairs14_s (sa : Option Addr) (n cap d : Nat) (B : Nat → Bo) (w : World) (hA : AnyB w sa n B) (hn : n ≤ 200) :
    Calls Tryz.prog 10 #[.slice sa n cap, .float .f64 d] w fun e w' => ∃ v, e = .returned (.tuple #[v, .int .i64 (ckG n d)]) ∧ OwnR 2 w.heap.size w' v (gpL B n d).length (pRow (gpL B n d)) ∧ Bel w w' := by
  have hk := fun W => rasked_s sa n cap d W
  cases hm : mayW d with
  | false =>
    have e1 : ckG n d = 140 := by unfold ckG; rw [if_neg (by omega), hm]; rfl
    have e2 : gpL B n d = [] := by unfold gpL; rw [hm]; rfl
    rw [e1] at hk ⊢
    rw [e2]
    go_enter Tryz.func10, Tryz.ntmps10
    go_wp2_with (first | (go_at_call 32; (with_reducible refine (hk _).mono ?_); rintro e w' ⟨rfl, hw⟩; rw [hw]; clear hw))
    refine bodyPost_ret (v := .tuple #[.slice none 0 0, .int .i64 140]) (by simp [results, Tryz.results10, go_sem]) rfl ?_
    exact ⟨_, rfl, OwnR.nil _ _ _, bl_refl _⟩
  | true =>
    have e1 : ckG n d = 0 := by unfold ckG; rw [if_neg (by omega), hm]; rfl
    have e2 : gpL B n d = refP B n := by unfold gpL; rw [hm]; rfl
    rw [e1] at hk ⊢
    rw [e2]
    have hsq := refP_sq B hn
    obtain ⟨RL, hRL⟩ : ∃ L, refP B n = L := ⟨_, rfl⟩
    have hal := rall_s sa n cap B w hA hn
    rw [hRL] at hal hsq ⊢
    clear hRL
    obtain ⟨N, hN⟩ : ∃ N, RL.length = N := ⟨_, rfl⟩
    rw [hN] at hal hsq ⊢
    have hz : ¬ (65536 : Int) < (N : Int) := by omega
    go_enter Tryz.func10, Tryz.ntmps10
    go_wp2_with (first | (go_at_call 32; (with_reducible refine (hk _).mono ?_); rintro e w' ⟨rfl, hw⟩; rw [hw]; clear hw) | (go_at_call 33; (with_reducible refine hal.mono ?_); rintro e w1 ⟨v1, rfl, hO1, hb1⟩; obtain ⟨sq, cq, hv3⟩ := own_len14 hO1; subst hv3))
    refine bodyPost_ret (v := .tuple #[.slice sq N cq, .int .i64 0]) (by simp [results, Tryz.results10, go_sem]) rfl ?_
    exact ⟨_, rfl, hO1, hb1⟩

end Go.Proofs.YtekhnolpgoejdaaGreat
