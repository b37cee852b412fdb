/-
  What each function of package sweep answers, and what the reference of its chapter answers: one contract a function, for every list of boxes; of the memory that was there nothing has turned.
-/
import Derived.Test.YtkkncipimbpkkaaSwu
import Derived.Test.YtkkncipimbpkkaaSwf
import Derived.Test.YtkkncipimbpkkaaSwh
import Derived.Below
import Derived.BigQuiet
import Derived.OwnWalk
import Derived.Laws.AppendOwn
import Derived.Laws.AppendOwnNone
import Derived.WalkKit
import Derived.WalkLawsBesides
import Derived.WalkSpells
import Derived.ProofKit
import Derived.OpenShut
import Derived.Deep.RegionHeld3
import Derived.Deep.LoopGhost
namespace Go.Proofs.Ytkkncipimbpkkaa
open Go.ChangeShapes Go.WideShapes Go.ChangeAt Go.RowKit Go.Shelf Go.Lib Go.Sort
set_option linter.unusedVariables false
set_option linter.unusedSimpArgs false


theorem own_len2 {sz base : Nat} {w : World} {v : Value} {n : Nat} {R : List Value} (h : OwnR sz base w v n R) : ∃ sa cap, v = .slice sa n cap := by
  rcases h.2 with ⟨e1, e2⟩ | ⟨k, cap, e, _⟩
  · subst e2; exact ⟨_, _, e1⟩
  · exact ⟨_, _, e⟩

set_option maxHeartbeats 8000000 in
theorem rpairs_any (sa : Option Addr) (n cap : Nat) (B : Nat → Bo) (w : World) (hA : AnyB w sa n B) :
    Calls Try.prog 16 #[.slice sa n cap] w fun e w' => ∃ v, e = .returned (.tuple #[v, .int .i64 (prE n (refP B n))]) ∧ OwnR 2 w.heap.size w' v (prL n (refP B n)).length (pRow (prL n (refP B n))) ∧ Bel w w' := by
  rcases Nat.lt_or_ge 16384 n with hn | hn
  · have hn1 : (16384 : Int) < (n : Int) := by omega
    rw [show prE n (refP B n) = 4 by rw [prE, if_pos hn], show prL n (refP B n) = [] by rw [prL, if_pos hn]]
    go_enter Try.func16, Try.ntmps16
    go_wp2
    refine bodyPost_ret (v := .tuple #[.slice none 0 0, .int .i64 4]) (by simp [results, Try.results16, go_sem]) rfl ?_
    exact ⟨_, rfl, OwnR.nil _ _ _, bl_refl w⟩
  · have hn1 : ¬ (16384 : Int) < (n : Int) := by omega
    obtain ⟨RE, hRE⟩ : ∃ E, prE n (refP B n) = E := ⟨_, rfl⟩
    obtain ⟨RL, hRL⟩ : ∃ L, prL n (refP B n) = L := ⟨_, rfl⟩
    rw [hRE, hRL]
    have HM : Hid (65536 < (refP B n).length → RE = 4 ∧ RL = []) := fun h => by rw [← hRE, ← hRL, prE, prL, if_neg (by omega), if_pos h, if_neg (by omega), if_pos h]; exact ⟨rfl, rfl⟩
    have HF : Hid ((refP B n).length ≤ 65536 → RE = 0 ∧ RL = refP B n) := fun h => by rw [← hRE, ← hRL, prE, prL, if_neg (by omega), if_neg (by omega), if_neg (by omega), if_neg (by omega)]; exact ⟨rfl, rfl⟩
    clear hRE hRL
    go_enter Try.func16, Try.ntmps16
    go_wp2
    go_loopg [4, 5] n (fun kx s4 s5 wr => ∃ (i : Nat) (acc : List (Nat × Nat)), s5 = .int .i64 i ∧ i ≤ n ∧ n - i ≤ kx ∧ acc.length ≤ 65536 ∧ OwnR 2 w.heap.size wr s4 (acc).length (pRow (acc)) ∧ Bel w wr ∧ Hid (acc = allB B B (fun i k => decide (i < k)) n i))
    case atStart => exact ⟨0, [], rfl, by omega, by omega, Nat.zero_le _, OwnR.nil _ _ _, bl_refl _, rfl⟩
    case round =>
      obtain ⟨i, acc, rfl, hin, hkx, hal, hO, hW, hE⟩ := hrel
      by_cases hlt : i < n
      · have hltz : (i : Int) < (n : Int) := by omega
        have hwk : IntKind.wrap .i64 ((i : Int) + 1) = (i : Int) + 1 := by rw [IntKind.wrap_i64]; omega
        obtain ⟨b, off, hsa, hB, hb0⟩ : ∃ b off, sa = some ⟨b, off, none⟩ ∧ Bs w b off n B ∧ b < w.heap.size := by
          rcases hA with h0 | h0
          · omega
          · exact h0
        clear hA
        subst hsa
        obtain ⟨x0, x1, x2, x3⟩ := (hB.bel hW) i hlt
        obtain ⟨kb, hkb⟩ : ∃ k, chkN (bChk (B i).1 (B i).2.1 (B i).2.2.1 (B i).2.2.2) = k := ⟨_, rfl⟩
        have kB : ∀ W, Calls Try.prog 36 #[.agg #[.float .f64 (B i).1, .float .f64 (B i).2.1, .float .f64 (B i).2.2.1, .float .f64 (B i).2.2.2]] W fun e w' => e = .returned (.int .i64 kb) ∧ Bel W w' := fun W => by rw [← hkb]; exact rCheck_any _ _ _ _ W
        have cm := chk_may (B i)
        rw [hkb] at cm
        clear hkb
        cases hm : mayO (B i) with
        | false =>
          rw [hm] at cm
          have cn : (kb != 0) = true := by simp at cm; simp [cm]
          have HM0 : Hid _ := hm
          clear hm cm
          go_wp2_with (first | (go_at_call 36; (with_reducible refine (kB _).mono ?_); rintro e w1 ⟨rfl, hb⟩))
          go_roundg (n - (i + 1))
          case measure => omega
          case rel => exact ⟨i + 1, acc, by go_num, by omega, Nat.le_refl _, hal, hO.bel hb, bl_trans hW hb, (show _ = _ from by rw [allB, rowB_none HM0.out, List.append_nil]; exact hE.out)⟩
        | true =>
          rw [hm] at cm
          have cn : (kb != 0) = false := by simp at cm; simp [cm]
          have HM0 : Hid _ := hm
          clear hm cm
          obtain ⟨wo, hwo⟩ : ∃ X, X = wr := ⟨_, rfl⟩
          subst hwo
          go_wp2_with (first | (go_at_call 36; (with_reducible refine (kB _).mono ?_); rintro e w1 ⟨rfl, hb⟩; have hO1 := hO.bel hb; have hW1 := bl_trans hW hb))
          go_loopg [4, 6] n (fun kx s4 s6 wr => ∃ (k : Nat) (ac2 : List (Nat × Nat)), s6 = .int .i64 k ∧ i + 1 ≤ k ∧ k ≤ n ∧ n - k ≤ kx ∧ ac2.length ≤ 65536 ∧ OwnR 2 w.heap.size wr s4 (ac2).length (pRow (ac2)) ∧ Bel w wr ∧ Hid (ac2 = acc ++ rowB B B (fun i k => decide (i < k)) k i))
          case atStart => exact ⟨i + 1, acc, by go_num, Nat.le_refl _, by omega, by omega, hal, hO1, hW1, (show _ = _ from by rw [rowB_low (Nat.le_refl _), List.append_nil])⟩
          case round =>
            clear hO1 hW1
            obtain ⟨k, ac2, rfl, hk1, hkn, hkx2, hal2, hO2, hW2, hE2⟩ := hrel
            by_cases hlt2 : k < n
            · have hlt2z : (k : Int) < (n : Int) := by omega
              have hwk2 : IntKind.wrap .i64 ((k : Int) + 1) = (k : Int) + 1 := by rw [IntKind.wrap_i64]; omega
              obtain ⟨a0, a1, a2, a3⟩ := (hB.bel hW2) i hlt
              obtain ⟨c0, c1, c2, c3⟩ := (hB.bel hW2) k hlt2
              haveI := belBy_some wr
              have y0 := belBy_cell a0
              have y1 := belBy_cell a1
              have y2 := belBy_cell a2
              have y3 := belBy_cell a3
              have v0 := belBy_cell c0
              have v1 := belBy_cell c1
              have v2 := belBy_cell c2
              have v3 := belBy_cell c3
              obtain ⟨o, ho⟩ : ∃ o, meO (B i) (B k) = o := ⟨_, rfl⟩
              have hov : ∀ W, Calls Try.prog 37 #[.agg #[.float .f64 (B i).1, .float .f64 (B i).2.1, .float .f64 (B i).2.2.1, .float .f64 (B i).2.2.2], .agg #[.float .f64 (B k).1, .float .f64 (B k).2.1, .float .f64 (B k).2.2.1, .float .f64 (B k).2.2.2]] W fun e w' => e = .returned (.bool o) ∧ Bel W w' := fun W => by rw [← ho]; exact rMeet_s _ _ W
              have hpo : (decide (i < k) && meO (B i) (B k)) = o := by rw [ho, decide_eq_true (show i < k by omega), Bool.true_and]
              have HPO : Hid _ := hpo
              clear ho hpo
              go_wp2
              refine wp_region_quiet_bel (by kernel_rfl) (by kernel_rfl) ?_
              repeat (go_big_quiet_step (first | (go_at_call 37; exact calls_bel (hov _))))
              refine wpQuiet_nil ?_
              rintro _ ⟨nq, rfl⟩
              have hb2 := nq.h
              clear y0 y1 y2 y3 v0 v1 v2 v3 this
              obtain ⟨w2, hw2⟩ : ∃ w2, w2 = nq.world := ⟨_, rfl⟩
              rw [← hw2] at hb2
              rw [← hw2]
              clear hw2 nq
              have hO3 := hO2.bel hb2
              have hW3 := bl_trans hW2 hb2
              have hs3 := hW3.size
              cases o with
              | true =>
                have hO' := hO3.bel (bl_alloc (bl_refl w2) #[.int .i64 (i : Int), .int .i64 (k : Int)] 46)
                by_cases hmany : ac2.length + 1 ≤ 65536
                · have hmz : ¬ (65536 : Int) < (ac2.length : Int) + 1 := by omega
                  go_wp2_with (first | (at_builtin; refine wpList_appS (P := Try.prog) (sz := 2) (by_ := 16) (R := pRow (ac2)) (N := [.int .i64 (i : Int), .int .i64 (k : Int)]) 29 46 rfl _ _ rfl Try.underlying29 info_pair rfl rfl _ 0 1 1 rfl hO' rfl (mk_rw _ [.int .i64 (i : Int), .int .i64 (k : Int)] 46) (by intro u hu; simp only [List.mem_cons, List.not_mem_nil, or_false] at hu; rcases hu with rfl | rfl <;> rfl) (by decide) (by simp only [World.size_alloc]; omega) (by unfold maxLen; omega) (by omega) ?_; intro v2 wx hO4 hv2 hbX hoth hlow; obtain ⟨g6, c6, rfl, hg6⟩ := hv2; have B3 := hbX w (bl_alloc hW3 _ _) (Nat.le_refl _)))
                  go_roundg (n - (k + 1))
                  case measure => omega
                  case rel => exact ⟨k + 1, ac2 ++ [(i, k)], by go_num, by omega, by omega, Nat.le_refl _, by rw [List.length_append]; simpa using hmany, by rw [List.length_append, pRow_app]; exact hO4, B3, (show _ = _ from by rw [rowB_yes HPO.out, hE2.out, List.append_assoc])⟩
                · have hmz : (65536 : Int) < (ac2.length : Int) + 1 := by omega
                  have hlong : 65536 < (refP B n).length := by
                    have e1 : (allB B B (fun i k => decide (i < k)) n (i + 1)).length ≤ (refP B n).length := allB_len (by omega)
                    rw [allB, List.length_append, ← hE.out] at e1
                    have e2 := rowB_pre (B := B) (C := B) (p := fun i k => decide (i < k)) (i := i) (show k + 1 ≤ n by omega)
                    rw [rowB_yes HPO.out, List.length_append] at e2
                    have e3 := congrArg List.length hE2.out
                    rw [List.length_append] at e3
                    simp only [List.length_cons, List.length_nil] at e2
                    omega
                  obtain ⟨z1, z2⟩ := HM.out hlong
                  subst z1 z2
                  clear hlong
                  go_wp2_with (first | (at_builtin; refine wpList_appS (P := Try.prog) (sz := 2) (by_ := 16) (R := pRow (ac2)) (N := [.int .i64 (i : Int), .int .i64 (k : Int)]) 29 46 rfl _ _ rfl Try.underlying29 info_pair rfl rfl _ 0 1 1 rfl hO' rfl (mk_rw _ [.int .i64 (i : Int), .int .i64 (k : Int)] 46) (by intro u hu; simp only [List.mem_cons, List.not_mem_nil, or_false] at hu; rcases hu with rfl | rfl <;> rfl) (by decide) (by simp only [World.size_alloc]; omega) (by unfold maxLen; omega) (by omega) ?_; intro v2 wx hO4 hv2 hbX hoth hlow; obtain ⟨g6, c6, rfl, hg6⟩ := hv2; have B3 := hbX w (bl_alloc hW3 _ _) (Nat.le_refl _)))
                  refine bodyPost_ret (v := .tuple #[.slice none 0 0, .int .i64 4]) (by simp [results, Try.results16, go_sem]) rfl ?_
                  exact ⟨_, rfl, OwnR.nil _ _ _, B3⟩
              | false =>
                obtain ⟨s4, c4, hs4⟩ := own_len2 hO3
                subst hs4
                have hmz : ¬ (65536 : Int) < (ac2.length : Int) := by omega
                go_wp2
                go_roundg (n - (k + 1))
                case measure => omega
                case rel => exact ⟨k + 1, ac2, by go_num, by omega, by omega, Nat.le_refl _, hal2, hO3, hW3, (show _ = _ from by rw [rowB_no HPO.out]; exact hE2.out)⟩
            · have hlt2z : ¬ (k : Int) < (n : Int) := by omega
              have hkk : k = n := by omega
              go_wp2
              go_roundg (n - (i + 1))
              case measure => omega
              case rel => exact ⟨i + 1, ac2, by go_num, by omega, Nat.le_refl _, hal2, hO2, hW2, (show _ = _ from by rw [allB, ← hE.out, hE2.out, hkk])⟩
      · have hltz : ¬ (i : Int) < (n : Int) := by omega
        have hkn : i = n := by omega
        subst hkn
        have hE' : acc = refP B i := hE.out
        obtain ⟨z1, z2⟩ := HF.out (by rw [← hE']; exact hal)
        have HZ : Hid (RL = acc) := (show _ = _ from by rw [z2, hE'])
        subst z1
        clear z2 hE' HM HF
        go_wp2
        refine bodyPost_ret (v := .tuple #[u4, .int .i64 0]) (by simp [results, Try.results16, go_sem]) rfl ?_
        exact ⟨_, rfl, by rw [HZ.out]; exact hO, hW⟩
theorem pairs_many (sa : Option Addr) (n cap : Nat) (w : World) (hn : 16384 < n) :
    Calls Try.prog 10 #[.slice sa n cap] w fun e w' => e = .returned (.tuple #[.slice none 0 0, .int .i64 4]) ∧ Below w.heap.size w w' := by
  go_enter Try.func10, Try.ntmps10
  go_wp2_with (first | (go_at_call 12; (with_reducible refine (ord_many sa n cap _ hn).mono ?_); rintro e w1 ⟨rfl, hb⟩))
  refine bodyPost_ret (v := .tuple #[.slice none 0 0, .int .i64 4]) (by simp [results, Try.results10, go_sem]) rfl ?_
  exact ⟨rfl, hb.1⟩
set_option maxHeartbeats 4000000 in
theorem pairs_0 (sa : Option Addr) (cap : Nat) (w : World) :
    Calls Try.prog 10 #[.slice sa 0 cap] w fun e w' => e = .returned (.tuple #[.slice none 0 0, .int .i64 0]) ∧ Below w.heap.size w w' := by
  go_enter Try.func10, Try.ntmps10
  go_wp2_with (first | (go_at_call 12; (with_reducible refine (ord_0 sa cap _).mono ?_); rintro e w1 ⟨rfl, hb⟩))
  go_loopg [6, 21] 0 (fun kx s6 s21 wr => s6 = .slice none 0 0 ∧ s21 = .int .i64 0 ∧ Bel w wr)
  case atStart => exact ⟨rfl, rfl, hb⟩
  case round =>
    obtain ⟨rfl, rfl, hWr⟩ := hrel
    have hO : OwnR 2 w.heap.size wr (.slice none 0 0) (([] : List (Nat × Nat))).length (pRow (([] : List (Nat × Nat)))) := OwnR.nil _ _ _
    go_wp2_with (first | (go_at_call 27; (with_reducible refine (rise_s w.heap.size _ [] _ hO (by decide)).mono ?_); rintro e w2 ⟨rfl, L', p1, p2, p3, p4⟩))
    refine bodyPost_ret (v := .tuple #[.slice none 0 0, .int .i64 0]) (by simp [results, Try.results10, go_sem]) rfl ?_
    have : L' = [] := List.Perm.eq_nil p1
    subst this
    exact ⟨rfl, hWr.1.trans p4⟩
theorem pairs_any (sa : Option Addr) (n cap : Nat) (B : Nat → Bo) (w : World) (hA : AnyB w sa n B) :
    Calls Try.prog 10 #[.slice sa n cap] w fun e w' => ∃ v, e = .returned (.tuple #[v, .int .i64 (prE n (refP B n))]) ∧ OwnR 2 w.heap.size w' v (prL n (refP B n)).length (pRow (prL n (refP B n))) ∧ (prL n (refP B n) = [] → v = .slice none 0 0) ∧ Below w.heap.size w w' := by
  rcases Nat.lt_or_ge 16384 n with hn | hn
  · rw [show prE n (refP B n) = 4 by rw [prE, if_pos hn], show prL n (refP B n) = [] by rw [prL, if_pos hn]]
    refine (pairs_many sa n cap w hn).mono ?_
    rintro e w' ⟨rfl, hb⟩
    exact ⟨_, rfl, OwnR.nil _ _ _, fun _ => rfl, hb⟩
  · rcases hA with rfl | ⟨b, off, rfl, hB, hb⟩
    · refine (pairs_0 sa cap w).mono ?_
      rintro e w' ⟨rfl, hb⟩
      exact ⟨_, rfl, OwnR.nil _ _ _, fun _ => rfl, hb⟩
    · refine (pairs_s b off n cap B w hB hn hb).mono ?_
      rintro e w' ⟨hb, ⟨h1, rfl⟩ | ⟨h1, v, rfl, h2, h3⟩⟩
      · rw [show prE n (refP B n) = 4 by rw [prE, if_neg (by omega), if_pos h1], show prL n (refP B n) = [] by rw [prL, if_neg (by omega), if_pos h1]]
        exact ⟨_, rfl, OwnR.nil _ _ _, fun _ => rfl, hb⟩
      · rw [show prE n (refP B n) = 0 by rw [prE, if_neg (by omega), if_neg (by omega)], show prL n (refP B n) = refP B n by rw [prL, if_neg (by omega), if_neg (by omega)]]
        exact ⟨v, rfl, h2, h3, hb⟩

end Go.Proofs.Ytkkncipimbpkkaa
