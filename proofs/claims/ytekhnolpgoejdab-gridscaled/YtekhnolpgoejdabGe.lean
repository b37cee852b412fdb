/-
  What each function of package grid answers: one contract a function.
-/
import Derived.Test.YtekhnolpgoejdabGd
import Derived.Test.YtekhnolpgoejdabGst
import Derived.Laws.FloatArith
import Derived.Laws.StructEq
import Derived.Deep.DeepCutAuto
import Derived.Laws.MakeOwn
import Derived.Below
import Derived.BigQuiet
import Derived.OwnWalk
import Derived.Laws.AppendOwn
import Derived.Laws.AppendOwnNone
import Derived.WalkKit
import Derived.WalkLawsBesides
import Derived.WalkSpells
import Derived.ProofKit
import Derived.OpenShut
import Derived.Deep.RegionHeld3
import Derived.Deep.LoopGhost
namespace Go.Proofs.Ytekhnolpgoejdab
open Go.ChangeShapes Go.WideShapes Go.ChangeAt Go.RowKit Go.Shelf Go.Lib Go.Sort
set_option linter.unusedVariables false
set_option linter.unusedSimpArgs false


set_option maxHeartbeats 4000000 in
theorem isOver_s (gb i k n cap b off : Nat) (B : Nat → Bo) (w : World) (hg : w.cell? ⟨gb, 0, none⟩ = some (.slice (some ⟨b, off, none⟩) n cap)) (hB : Bs w b off n B) (hi : i < n) (hk : k < n) : Calls Try.prog 62 #[.pointer (some ⟨gb, 0, none⟩), .int .i64 (i : Int), .int .i64 (k : Int)] w fun e w' => e = .returned (.bool (ovO (B i) (B k))) ∧ Bel w w' := by
  have hiz : (i : Int) < (n : Int) := by omega
  have hkz : (k : Int) < (n : Int) := by omega
  obtain ⟨a0, a1, a2, a3⟩ := hB i hi
  obtain ⟨c0, c1, c2, c3⟩ := hB k hk
  haveI := belBy_some w
  have z0 := belBy_cell hg
  have y0 := belBy_cell a0
  have y1 := belBy_cell a1
  have y2 := belBy_cell a2
  have y3 := belBy_cell a3
  have v0 := belBy_cell c0
  have v1 := belBy_cell c1
  have v2 := belBy_cell c2
  have v3 := belBy_cell c3
  have hov : ∀ W, Calls Try.prog 27 #[.agg #[.float .f64 (B i).1, .float .f64 (B i).2.1, .float .f64 (B i).2.2.1, .float .f64 (B i).2.2.2], .agg #[.float .f64 (B k).1, .float .f64 (B k).2.1, .float .f64 (B k).2.2.1, .float .f64 (B k).2.2.2]] W fun e w' => e = .returned (.bool (ovO (B i) (B k))) ∧ Bel W w' := fun W => xOver_any _ _ _ _ _ _ _ _ W
  obtain ⟨o, ho⟩ : ∃ o, ovO (B i) (B k) = o := ⟨_, rfl⟩
  rw [ho] at hov ⊢
  clear ho
  go_enter Try.func62, Try.ntmps62
  go_wp2
  refine wp_region_quiet_bel (by kernel_rfl) (by kernel_rfl) ?_
  repeat (go_big_quiet_step (first | (go_at_call 27; exact calls_bel (hov _))))
  refine wpQuiet_nil ?_
  rintro _ ⟨nq, rfl⟩
  go_wp2
  go_ret
  exact ⟨rfl, nq.h⟩

set_option maxHeartbeats 8000000 in
theorem pairWith_s (gb N i m rc n cap : Nat) (sa sr : Option Addr) (B : Nat → Bo) (R : List Nat) (L : List (Nat × Nat)) (v1 v2 v3 v4 v5 : Value) (w : World) (hg : G6 w gb (.slice sa n cap) v1 v2 v3 v4 v5) (hgN : gb < N) (hN : N ≤ w.heap.size)
    (hB : BoxN w N (· = gb) sa n B) (hR : RowN w N (· = gb) sr R) (hm : R.length = m) (hi : i < n) (hRn : ∀ k ∈ R, k < n) (hO : OwnR 2 N w v5 L.length (pRow L)) (hL : L.length + m ≤ 65536) :
    Calls Try.prog 44 #[.pointer (some ⟨gb, 0, none⟩), .int .i64 (i : Int), .slice sr m rc] w fun e w' => e = .returned (.int .i64 0) ∧ ∃ u, G6 w' gb (.slice sa n cap) v1 v2 v3 v4 u ∧ OwnR 2 N w' u (L ++ pwL B i R).length (pRow (L ++ pwL B i R)) ∧ Sta N (· = gb) w w' ∧ ((L ++ pwL B i R).length = 0 → u = v5) := by
  have HM : Hid (R.length = m) := hm
  clear hm
  go_enter Try.func44, Try.ntmps44
  go_wp2
  go_loopg [11] m (fun kx s11 wr => ∃ (t : Nat) (u : Value), s11 = .int .i64 t ∧ t ≤ m ∧ m - t ≤ kx ∧ G6 wr gb (.slice sa n cap) v1 v2 v3 v4 u ∧ OwnR 2 N wr u (L ++ pwL B i (R.take t)).length (pRow (L ++ pwL B i (R.take t))) ∧ Sta N (· = gb) w wr ∧ Hid ((L ++ pwL B i (R.take t)).length = 0 → u = v5))
  case atStart => exact ⟨0, v5, rfl, by omega, by omega, hg, by simpa [pwL] using hO, Sta.refl _ _ _, (show _ → _ from fun _ => rfl)⟩
  case round =>
    obtain ⟨t, u, rfl, htm, hkx, hg2, hO2, hS, HZ⟩ := hrel
    by_cases hlt : t < m
    · have hltz : (t : Int) < (m : Int) := by omega
      have hwk : IntKind.wrap .i64 ((t : Int) + 1) = (t : Int) + 1 := by rw [IntKind.wrap_i64]; omega
      obtain ⟨k, hk⟩ : ∃ p, R[t]? = some p := ⟨_, List.getElem?_eq_getElem (by rw [HM.out]; exact hlt)⟩
      have hkn := hRn k (List.mem_of_getElem? hk)
      obtain ⟨g, o, hsr, hgN2, hgk, hIs⟩ : ∃ g o, sr = some ⟨g, o, none⟩ ∧ g < N ∧ ¬ g = gb ∧ Is wr g o R := by
        rcases hR.sta hS with h | h
        · rw [h] at hk; simp at hk
        · exact h
      obtain ⟨b, off, hsa, hbN, hbk, hBs⟩ : ∃ b off, sa = some ⟨b, off, none⟩ ∧ b < N ∧ ¬ b = gb ∧ Bs wr b off n B := by
        rcases hB.sta hS with h | h
        · omega
        · exact h
      subst hsr hsa
      have z0 := hIs t k hk
      have HK : Hid (R[t]? = some k) := hk
      have htk : Hid (R.take (t + 1) = R.take t ++ [k]) := take_snoc hk
      have hlen : (pwL B i (R.take t)).length ≤ t := Nat.le_trans (pwL_len _ _ _) (by rw [List.length_take]; omega)
      have hLl : (L ++ pwL B i (R.take t)).length = L.length + (pwL B i (R.take t)).length := List.length_append
      obtain ⟨Q, hQ⟩ : ∃ Q, L ++ pwL B i (R.take t) = Q := ⟨_, rfl⟩
      rw [hQ] at hO2 hLl
      have HQ : Hid (L ++ pwL B i (R.take t) = Q) := hQ
      have hQl : Q.length ≤ L.length + t := by omega
      have hNr : N ≤ wr.heap.size := Nat.le_trans hN hS.size
      clear hk hQ hlen hLl
      cases ho : ovO (B i) (B k) with
      | false =>
        have HO : Hid (ovO (B i) (B k) = false) := ho
        have hov := fun W (hb : Bel wr W) => isOver_s gb i k n cap b off B W (hg2.bel hb).c0 (hBs.bel hb) hi hkn
        rw [ho] at hov
        clear ho
        go_wp2_with (first | (go_at_call 62; (with_reducible refine (hov _ (bl_refl _)).mono ?_); rintro e w1 ⟨rfl, hb1⟩))
        go_roundg (m - (t + 1))
        case measure => omega
        case rel => exact ⟨t + 1, u, by go_num, by omega, Nat.le_refl _, hg2.bel hb1, by rw [htk.out, pwL_snoc, HO.out, if_neg (by decide), List.append_nil, HQ.out]; exact hO2.bel hb1, hS.trans (Sta.of_bel hb1 hNr), (show _ → _ from fun e => HZ.out (by rw [htk.out, pwL_snoc, HO.out, if_neg (by decide), List.append_nil] at e; exact e))⟩
      | true =>
        have HO : Hid (ovO (B i) (B k) = true) := ho
        have hov := fun W (hb : Bel wr W) => isOver_s gb i k n cap b off B W (hg2.bel hb).c0 (hBs.bel hb) hi hkn
        rw [ho] at hov
        clear ho
        obtain ⟨p, hp⟩ : ∃ p : Nat, p = min i k := ⟨_, rfl⟩
        obtain ⟨q, hq⟩ : ∃ q : Nat, q = max i k := ⟨_, rfl⟩
        have e1 : min (i : Int) (k : Int) = (p : Int) := by omega
        have e2 : max (i : Int) (k : Int) = (q : Int) := by omega
        have HP : Hid ((min i k, max i k) = (p, q)) := (show _ = _ from by rw [hp, hq])
        clear hp hq
        have c5 := hg2.c5
        have one : ∀ x ∈ ([.int .i64 (p : Int), .int .i64 (q : Int)] : List Value), x.oneCell' = true := by
          intro x hx
          simp only [List.mem_cons, List.not_mem_nil, or_false] at hx
          rcases hx with rfl | rfl <;> rfl
        go_wp2_with (first | (go_at_call 62; (with_reducible refine (hov _ (bl_refl _)).mono ?_); rintro e w1 ⟨rfl, hb1⟩; have hg3 := hg2.bel hb1; have c5' := hg3.c5; have hs1 := hb1.size; have hO' := (hO2.bel hb1).bel (bl_alloc (bl_refl w1) #[.int .i64 (p : Int), .int .i64 (q : Int)] 37); have hlg := hg3.lt) | (at_builtin; refine wpList_appS (P := Try.prog) (sz := 2) (by_ := 16) (R := pRow Q) (N := [.int .i64 (p : Int), .int .i64 (q : Int)]) 25 37 rfl _ _ rfl Try.underlying25 info_pair rfl rfl _ 0 1 1 rfl hO' rfl (mk_rw w1 [.int .i64 (p : Int), .int .i64 (q : Int)] 37) one (by decide) (by simp only [World.size_alloc]; omega) (by unfold maxLen; omega) (by omega) ?_; intro v9 w9 hO9 hv9 _ hOt9 hBl9; have hB9 := hBl9 N (Nat.le_refl _); have hg9 := (hg3.bel (bl_alloc (bl_refl w1) #[.int .i64 (p : Int), .int .i64 (q : Int)] 37)).below hB9 hgN; have c59 := hg9.c5; have f9 := hg9.fr 5; obtain ⟨g9, cap9, rfl, hw9⟩ := hv9; have hlg9 := hg9.lt))
        have e9 : (L ++ pwL B i (R.take (t + 1))) = Q ++ [(p, q)] := by rw [htk.out, pwL_snoc, HO.out, if_pos rfl, ← List.append_assoc, HQ.out, HP.out]
        have HE9 : Hid _ := e9
        clear e9
        go_roundg (m - (t + 1))
        case measure => omega
        case rel => exact ⟨t + 1, _, by go_num, by omega, Nat.le_refl _, hg9.set5 _, by rw [HE9.out, List.length_append, pRow_app]; exact hO9.set hgN _, hS.trans ((Sta.of_bel (bl_alloc hb1 _ _) hNr).trans ((Sta.of_below (K := (· = gb)) hB9).set (p := ⟨gb, 5, none⟩) (show gb = gb from rfl) _)), (show _ → _ from fun e => by rw [HE9.out, List.length_append] at e; simp at e)⟩
    · have hltz : ¬ (t : Int) < (m : Int) := by omega
      have htt : t = m := by omega
      have hQl : (L ++ pwL B i (R.take t)).length ≤ 65536 := by
        have h1 := pwL_len B i (R.take t)
        rw [List.length_take, HM.out] at h1
        rw [List.length_append]; omega
      have htake : R.take t = R := by rw [htt, ← HM.out]; exact List.take_length
      rw [htake] at hO2 hQl HZ
      have c5 := hg2.c5
      obtain ⟨Q, hQ⟩ : ∃ Q, L ++ pwL B i R = Q := ⟨_, rfl⟩
      rw [hQ] at hO2 hQl
      have HQ : Hid (L ++ pwL B i R = Q) := hQ
      clear hQ htake
      obtain ⟨sp, cp, hu⟩ : ∃ sp cp, u = .slice sp Q.length cp := by
        obtain ⟨sp, cp, e, _⟩ := own_prow hO2
        exact ⟨sp, cp, e⟩
      obtain ⟨NQ, hNQ⟩ : ∃ N, Q.length = N := ⟨_, rfl⟩
      rw [hNQ] at hu hQl
      have HNQ : Hid (Q.length = NQ) := hNQ
      subst hu
      clear hNQ
      go_wp2_with (first | (go_at_call 63; (with_reducible refine (limit_s NQ _ hQl).mono ?_); rintro e w' ⟨rfl, hw⟩; rw [hw]; clear hw))
      go_ret
      exact ⟨rfl, _, hg2, by rw [HQ.out, HNQ.out]; rw [HNQ.out] at hO2; exact hO2, hS, fun e => HZ.out (by first | exact e | simp [e] | simpa using e)⟩

end Go.Proofs.Ytekhnolpgoejdab
