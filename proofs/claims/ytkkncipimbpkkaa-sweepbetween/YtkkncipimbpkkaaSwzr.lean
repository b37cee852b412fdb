/-
  What each function of package sweep answers, and what the reference of its chapter answers: one contract a function, for every list of boxes; of the memory that was there nothing has turned.
-/
import Derived.Test.YtkkncipimbpkkaaSwv
import Derived.Below
import Derived.BigQuiet
import Derived.OwnWalk
import Derived.Laws.AppendOwn
import Derived.Laws.AppendOwnNone
import Derived.WalkKit
import Derived.WalkLawsBesides
import Derived.WalkSpells
import Derived.ProofKit
import Derived.OpenShut
import Derived.Deep.RegionHeld3
import Derived.Deep.LoopGhost
namespace Go.Proofs.Ytkkncipimbpkkaa
open Go.ChangeShapes Go.WideShapes Go.ChangeAt Go.RowKit Go.Shelf Go.Lib Go.Sort
set_option linter.unusedVariables false
set_option linter.unusedSimpArgs false


set_option maxHeartbeats 8000000 in
theorem rbet_any (sa sb : Option Addr) (n cap m cap2 : Nat) (B C : Nat → Bo) (w : World) (hA : AnyB w sa n B) (hC : AnyB w sb m C) :
    Calls Try.prog 23 #[.slice sa n cap, .slice sb m cap2] w fun e w' => ∃ v, e = .returned (.tuple #[v, .int .i64 (prE (max n m) (refB B C n m))]) ∧ OwnR 2 w.heap.size w' v (prL (max n m) (refB B C n m)).length (pRow (prL (max n m) (refB B C n m))) ∧ Bel w w' := by
  rcases Nat.lt_or_ge 16384 (max n m) with hn | hn
  · rw [show prE (max n m) (refB B C n m) = 4 by rw [prE, if_pos hn], show prL (max n m) (refB B C n m) = [] by rw [prL, if_pos hn]]
    by_cases h1 : 16384 < n
    · have hn1 : (16384 : Int) < (n : Int) := by omega
      go_enter Try.func23, Try.ntmps23
      go_wp2
      refine bodyPost_ret (v := .tuple #[.slice none 0 0, .int .i64 4]) (by simp [results, Try.results23, go_sem]) rfl ?_
      exact ⟨_, rfl, OwnR.nil _ _ _, bl_refl w⟩
    · have hn1 : ¬ (16384 : Int) < (n : Int) := by omega
      have hn2 : (16384 : Int) < (m : Int) := by omega
      go_enter Try.func23, Try.ntmps23
      go_wp2
      refine bodyPost_ret (v := .tuple #[.slice none 0 0, .int .i64 4]) (by simp [results, Try.results23, go_sem]) rfl ?_
      exact ⟨_, rfl, OwnR.nil _ _ _, bl_refl w⟩
  · have hn1 : ¬ (16384 : Int) < (n : Int) := by omega
    have hn2 : ¬ (16384 : Int) < (m : Int) := by omega
    obtain ⟨RE, hRE⟩ : ∃ E, prE (max n m) (refB B C n m) = E := ⟨_, rfl⟩
    obtain ⟨RL, hRL⟩ : ∃ L, prL (max n m) (refB B C n m) = L := ⟨_, rfl⟩
    rw [hRE, hRL]
    have HM : Hid (65536 < (refB B C n m).length → RE = 4 ∧ RL = []) := fun h => by rw [← hRE, ← hRL, prE, prL, if_neg (by omega), if_pos h, if_neg (by omega), if_pos h]; exact ⟨rfl, rfl⟩
    have HF : Hid ((refB B C n m).length ≤ 65536 → RE = 0 ∧ RL = refB B C n m) := fun h => by rw [← hRE, ← hRL, prE, prL, if_neg (by omega), if_neg (by omega), if_neg (by omega), if_neg (by omega)]; exact ⟨rfl, rfl⟩
    clear hRE hRL
    go_enter Try.func23, Try.ntmps23
    go_wp2
    go_loopg [6, 7] n (fun kx s4 s5 wr => ∃ (i : Nat) (acc : List (Nat × Nat)), s5 = .int .i64 i ∧ i ≤ n ∧ n - i ≤ kx ∧ acc.length ≤ 65536 ∧ OwnR 2 w.heap.size wr s4 (acc).length (pRow (acc)) ∧ Bel w wr ∧ Hid (acc = allB B C (fun _ _ => true) m i))
    case atStart => exact ⟨0, [], rfl, by omega, by omega, Nat.zero_le _, OwnR.nil _ _ _, bl_refl _, rfl⟩
    case round =>
      obtain ⟨i, acc, rfl, hin, hkx, hal, hO, hW, hE⟩ := hrel
      by_cases hlt : i < n
      · have hltz : (i : Int) < (n : Int) := by omega
        have hwk : IntKind.wrap .i64 ((i : Int) + 1) = (i : Int) + 1 := by rw [IntKind.wrap_i64]; omega
        obtain ⟨b, off, hsa, hB, hb0⟩ : ∃ b off, sa = some ⟨b, off, none⟩ ∧ Bs w b off n B ∧ b < w.heap.size := by
          rcases hA with h0 | h0
          · omega
          · exact h0
        clear hA
        subst hsa
        obtain ⟨x0, x1, x2, x3⟩ := (hB.bel hW) i hlt
        obtain ⟨kb, hkb⟩ : ∃ k, chkN (bChk (B i).1 (B i).2.1 (B i).2.2.1 (B i).2.2.2) = k := ⟨_, rfl⟩
        have kB : ∀ W, Calls Try.prog 36 #[.agg #[.float .f64 (B i).1, .float .f64 (B i).2.1, .float .f64 (B i).2.2.1, .float .f64 (B i).2.2.2]] W fun e w' => e = .returned (.int .i64 kb) ∧ Bel W w' := fun W => by rw [← hkb]; exact rCheck_any _ _ _ _ W
        have cm := chk_may (B i)
        rw [hkb] at cm
        clear hkb
        cases hm : mayO (B i) with
        | false =>
          rw [hm] at cm
          have cn : (kb != 0) = true := by simp at cm; simp [cm]
          have HM0 : Hid _ := hm
          clear hm cm
          go_wp2_with (first | (go_at_call 36; (with_reducible refine (kB _).mono ?_); rintro e w1 ⟨rfl, hb⟩))
          go_roundg (n - (i + 1))
          case measure => omega
          case rel => exact ⟨i + 1, acc, by go_num, by omega, Nat.le_refl _, hal, hO.bel hb, bl_trans hW hb, (show _ = _ from by rw [allB, rowB_none HM0.out, List.append_nil]; exact hE.out)⟩
        | true =>
          rw [hm] at cm
          have cn : (kb != 0) = false := by simp at cm; simp [cm]
          have HM0 : Hid _ := hm
          clear hm cm
          obtain ⟨wo, hwo⟩ : ∃ X, X = wr := ⟨_, rfl⟩
          subst hwo
          go_wp2_with (first | (go_at_call 36; (with_reducible refine (kB _).mono ?_); rintro e w1 ⟨rfl, hb⟩; have hO1 := hO.bel hb; have hW1 := bl_trans hW hb))
          go_loopg [6, 8] m (fun kx s4 s6 wr => ∃ (k : Nat) (ac2 : List (Nat × Nat)), s6 = .int .i64 k ∧ 0 ≤ k ∧ k ≤ m ∧ m - k ≤ kx ∧ ac2.length ≤ 65536 ∧ OwnR 2 w.heap.size wr s4 (ac2).length (pRow (ac2)) ∧ Bel w wr ∧ Hid (ac2 = acc ++ rowB B C (fun _ _ => true) k i))
          case atStart => exact ⟨0, acc, by go_num, Nat.le_refl _, by omega, by omega, hal, hO1, hW1, (show _ = _ from by rw [show rowB B C (fun _ _ => true) 0 i = [] from rfl, List.append_nil])⟩
          case round =>
            clear hO1 hW1
            obtain ⟨k, ac2, rfl, hk1, hkn, hkx2, hal2, hO2, hW2, hE2⟩ := hrel
            by_cases hlt2 : k < m
            · have hlt2z : (k : Int) < (m : Int) := by omega
              have hwk2 : IntKind.wrap .i64 ((k : Int) + 1) = (k : Int) + 1 := by rw [IntKind.wrap_i64]; omega
              obtain ⟨b2, off2, hsb, hC2, hb2⟩ : ∃ b off, sb = some ⟨b, off, none⟩ ∧ Bs w b off m C ∧ b < w.heap.size := by
                rcases hC with h0 | h0
                · omega
                · exact h0
              subst hsb
              obtain ⟨a0, a1, a2, a3⟩ := (hB.bel hW2) i hlt
              obtain ⟨c0, c1, c2, c3⟩ := (hC2.bel hW2) k hlt2
              haveI := belBy_some wr
              have y0 := belBy_cell a0
              have y1 := belBy_cell a1
              have y2 := belBy_cell a2
              have y3 := belBy_cell a3
              have v0 := belBy_cell c0
              have v1 := belBy_cell c1
              have v2 := belBy_cell c2
              have v3 := belBy_cell c3
              obtain ⟨o, ho⟩ : ∃ o, meO (B i) (C k) = o := ⟨_, rfl⟩
              have hov : ∀ W, Calls Try.prog 37 #[.agg #[.float .f64 (B i).1, .float .f64 (B i).2.1, .float .f64 (B i).2.2.1, .float .f64 (B i).2.2.2], .agg #[.float .f64 (C k).1, .float .f64 (C k).2.1, .float .f64 (C k).2.2.1, .float .f64 (C k).2.2.2]] W fun e w' => e = .returned (.bool o) ∧ Bel W w' := fun W => by rw [← ho]; exact rMeet_s _ _ W
              have hpo : (true && meO (B i) (C k)) = o := by rw [ho, Bool.true_and]
              have HPO : Hid _ := hpo
              clear ho hpo
              go_wp2
              refine wp_region_quiet_bel (by kernel_rfl) (by kernel_rfl) ?_
              repeat (go_big_quiet_step (first | (go_at_call 37; exact calls_bel (hov _))))
              refine wpQuiet_nil ?_
              rintro _ ⟨nq, rfl⟩
              have hb9 := nq.h
              clear y0 y1 y2 y3 v0 v1 v2 v3 this
              obtain ⟨w2, hw2⟩ : ∃ w2, w2 = nq.world := ⟨_, rfl⟩
              rw [← hw2] at hb9
              rw [← hw2]
              clear hw2 nq
              have hO3 := hO2.bel hb9
              have hW3 := bl_trans hW2 hb9
              have hs3 := hW3.size
              cases o with
              | true =>
                have hO' := hO3.bel (bl_alloc (bl_refl w2) #[.int .i64 (i : Int), .int .i64 (k : Int)] 46)
                by_cases hmany : ac2.length + 1 ≤ 65536
                · have hmz : ¬ (65536 : Int) < (ac2.length : Int) + 1 := by omega
                  go_wp2_with (first | (at_builtin; refine wpList_appS (P := Try.prog) (sz := 2) (by_ := 16) (R := pRow (ac2)) (N := [.int .i64 (i : Int), .int .i64 (k : Int)]) 29 46 rfl _ _ rfl Try.underlying29 info_pair rfl rfl _ 0 1 1 rfl hO' rfl (mk_rw _ [.int .i64 (i : Int), .int .i64 (k : Int)] 46) (by intro u hu; simp only [List.mem_cons, List.not_mem_nil, or_false] at hu; rcases hu with rfl | rfl <;> rfl) (by decide) (by simp only [World.size_alloc]; omega) (by unfold maxLen; omega) (by omega) ?_; intro v2 wx hO4 hv2 hbX hoth hlow; obtain ⟨g6, c6, rfl, hg6⟩ := hv2; have B3 := hbX w (bl_alloc hW3 _ _) (Nat.le_refl _)))
                  go_roundg (m - (k + 1))
                  case measure => omega
                  case rel => exact ⟨k + 1, ac2 ++ [(i, k)], by go_num, by omega, by omega, Nat.le_refl _, by rw [List.length_append]; simpa using hmany, by rw [List.length_append, pRow_app]; exact hO4, B3, (show _ = _ from by rw [rowB_yes (p := fun _ _ => true) HPO.out, hE2.out, List.append_assoc])⟩
                · have hmz : (65536 : Int) < (ac2.length : Int) + 1 := by omega
                  have hlong : 65536 < (refB B C n m).length := by
                    have e1 : (allB B C (fun _ _ => true) m (i + 1)).length ≤ (refB B C n m).length := allB_len (by omega)
                    rw [allB, List.length_append, ← hE.out] at e1
                    have e2 := rowB_pre (B := B) (C := C) (p := fun _ _ => true) (i := i) (show k + 1 ≤ m by omega)
                    rw [rowB_yes (p := fun _ _ => true) HPO.out, List.length_append] at e2
                    have e3 := congrArg List.length hE2.out
                    rw [List.length_append] at e3
                    simp only [List.length_cons, List.length_nil] at e2
                    omega
                  obtain ⟨z1, z2⟩ := HM.out hlong
                  subst z1 z2
                  clear hlong
                  go_wp2_with (first | (at_builtin; refine wpList_appS (P := Try.prog) (sz := 2) (by_ := 16) (R := pRow (ac2)) (N := [.int .i64 (i : Int), .int .i64 (k : Int)]) 29 46 rfl _ _ rfl Try.underlying29 info_pair rfl rfl _ 0 1 1 rfl hO' rfl (mk_rw _ [.int .i64 (i : Int), .int .i64 (k : Int)] 46) (by intro u hu; simp only [List.mem_cons, List.not_mem_nil, or_false] at hu; rcases hu with rfl | rfl <;> rfl) (by decide) (by simp only [World.size_alloc]; omega) (by unfold maxLen; omega) (by omega) ?_; intro v2 wx hO4 hv2 hbX hoth hlow; obtain ⟨g6, c6, rfl, hg6⟩ := hv2; have B3 := hbX w (bl_alloc hW3 _ _) (Nat.le_refl _)))
                  refine bodyPost_ret (v := .tuple #[.slice none 0 0, .int .i64 4]) (by simp [results, Try.results23, go_sem]) rfl ?_
                  exact ⟨_, rfl, OwnR.nil _ _ _, B3⟩
              | false =>
                obtain ⟨s4, c4, hs4⟩ := own_len2 hO3
                subst hs4
                have hmz : ¬ (65536 : Int) < (ac2.length : Int) := by omega
                go_wp2
                go_roundg (m - (k + 1))
                case measure => omega
                case rel => exact ⟨k + 1, ac2, by go_num, by omega, by omega, Nat.le_refl _, hal2, hO3, hW3, (show _ = _ from by rw [rowB_no (p := fun _ _ => true) HPO.out]; exact hE2.out)⟩
            · have hlt2z : ¬ (k : Int) < (m : Int) := by omega
              have hkk : k = m := by omega
              go_wp2
              go_roundg (n - (i + 1))
              case measure => omega
              case rel => exact ⟨i + 1, ac2, by go_num, by omega, Nat.le_refl _, hal2, hO2, hW2, (show _ = _ from by rw [allB, ← hE.out, hE2.out, hkk])⟩
      · have hltz : ¬ (i : Int) < (n : Int) := by omega
        have hkn : i = n := by omega
        subst hkn
        have hE' : acc = refB B C i m := hE.out
        obtain ⟨z1, z2⟩ := HF.out (by rw [← hE']; exact hal)
        have HZ : Hid (RL = acc) := (show _ = _ from by rw [z2, hE'])
        subst z1
        clear z2 hE' HM HF
        go_wp2
        refine bodyPost_ret (v := .tuple #[u6, .int .i64 0]) (by simp [results, Try.results23, go_sem]) rfl ?_
        exact ⟨_, rfl, by rw [HZ.out]; exact hO, hW⟩

end Go.Proofs.Ytkkncipimbpkkaa
