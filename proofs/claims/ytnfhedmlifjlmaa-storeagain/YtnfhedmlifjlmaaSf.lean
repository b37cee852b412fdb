/-
  What each function of package store answers, and what its memory holds afterwards: one contract a function; of the memory that was there only the store's own blocks have turned.
-/
import Derived.Test.YtnfhedmlifjlmaaChecked
import Derived.Test.YtnfhedmlifjlmaaSd
import Derived.Test.YtnfhedmlifjlmaaSe
import Derived.Below
import Derived.BigQuiet
import Derived.OwnWalk
import Derived.Laws.AppendOwn
import Derived.Laws.AppendOwnNone
import Derived.WalkKit
import Derived.WalkLawsBesides
import Derived.WalkSpells
import Derived.ProofKit
import Derived.OpenShut
import Derived.Deep.RegionHeld3
import Derived.Deep.LoopGhost
import Derived.Laws.StructEq
import Derived.Lib.Builder
import Derived.Deep.DeepCutAuto
import Derived.Lib.SliceRun
import Derived.Laws.MakeOwn
namespace Go.Proofs.Ytnfhedmlifjlmaa
open Go.ChangeShapes Go.WideShapes Go.ChangeAt Go.RowKit Go.Lib
set_option linter.unusedVariables false
set_option linter.unusedSimpArgs false
set_option maxRecDepth 100000
set_option maxHeartbeats 4000000


theorem take_I (m : Sm) (s : Ss) (w : World) (h : Sto w m s) (ho : Okk s) (a b : Nat) (ha : a < 4294967296) (hb : b < 4294967296) : Calls Try.prog 10 #[.pointer (some ⟨m.p, 0, none⟩), .agg #[.int .u32 (a : Int), .int .u32 (b : Int)]] w fun e w' => (Named s a b ∧ (∃ v, Thing s a v ∧ e = .returned (.tuple #[v, .int .i64 0])) ∧ Sto w' m (takeS s a (.int .i64 0)) ∨ ¬ Named s a b ∧ e = .returned (.tuple #[.int .i64 0, .int .i64 9]) ∧ Sto w' m s) ∧ Fr m.F m.F w w' := by
  have htl := ho.tl
  have hll := ho.ll
  have hum := ho.um
  have hm2 := ho.m2
  have hnu := ho.nu
  have b0 := st_bel (W := w) #[.int .u32 (a : Int), .int .u32 (b : Int)] 29
  have x0 : (w.alloc (.cells #[.int .u32 (a : Int), .int .u32 (b : Int)] 29)).cell? ⟨w.heap.size, 0, none⟩ = some (.int .u32 (a : Int)) := by rw [World.cell?_alloc_new]; rfl
  have x1 : (w.alloc (.cells #[.int .u32 (a : Int), .int .u32 (b : Int)] 29)).cell? ⟨w.heap.size, 1, none⟩ = some (.int .u32 (b : Int)) := by rw [World.cell?_alloc_new]; rfl
  replace h := h.bel b0
  obtain ⟨q, hq⟩ : ∃ q, q = w.heap.size := ⟨_, rfl⟩
  obtain ⟨wr, hwr⟩ : ∃ x, x = w.alloc (.cells #[.int .u32 (a : Int), .int .u32 (b : Int)] 29) := ⟨_, rfl⟩
  go_enter Try.func10, Try.ntmps10
  rw [← hq, ← hwr] at x0 x1
  rw [← hwr] at b0 h
  go_upto_region 1 with (fail)
  rw [← hq, ← hwr]
  clear hwr hq
  have hgt := get_I m s wr h ho a b ha hb
  by_cases hnm : Named s a b
  · have HNM := hide hnm
    have hltL := lt_of_get hnm.1
    have hltT : a < s.T.length := by omega
    have hc1 : 1 ≤ s.ln := by have := count_set_f hnm.1; have := ho.lc; omega
    have hc2 : s.ln ≤ 16384 := by have := ho.lc; have := List.count_le_length (a := true) (l := s.L); omega
    have hT16 : s.T.length ≤ 16384 := by omega
    obtain ⟨v, hv⟩ := get_of_lt hltT
    have HV := hide hv
    have hge : Calls Try.prog 29 #[.pointer (some ⟨m.p, 0, none⟩), .agg #[.int .u32 (a : Int), .int .u32 (b : Int)]] wr fun e w' => e = .returned (.tuple #[v, .int .i64 0]) ∧ Bel wr w' := hgt.mono (fun e w' ⟨hc, hb⟩ => by
      rcases hc with ⟨_, v', hv', rfl⟩ | ⟨hn, _⟩
      · have hv2 : s.T[a]? = some v' := hv'; rw [hv] at hv2; cases hv2; exact ⟨rfl, hb⟩
      · exact absurd hnm hn)
    have e3 : IntKind.wrap .i64 (a : Int) = (a : Int) := by rw [IntKind.wrap_i64]; omega
    obtain ⟨gl, hgl, _, _, _, hex, hfz, _⟩ := h.rl.at (by omega)
    have hzL : (a : Int) < (s.L.length : Int) := by omega
    clear hgt hnm hv
    have hFr : ∀ W, Bel wr W → Fr m.F m.F w W := fun W hW => Fr.of_bel (bl_trans b0 hW)
    have hP : ∀ W, Bel wr W → W.cell? ⟨m.p, 3, none⟩ = some (.slice (some ⟨gl, 0, none⟩) s.L.length m.cl) ∧ (∃ u, W.cell? ⟨gl, a, none⟩ = some u) ∧ W.frozen? ⟨gl, a, none⟩ = false ∧ Hid (Sto (W.setCell ⟨gl, a, none⟩ (.bool false)) m { s with L := s.L.set a false }) ∧ Hid (Fr m.F m.F w (W.setCell ⟨gl, a, none⟩ (.bool false))) := fun W hW => by
      have hS2 := h.bel hW
      have c3 := hS2.c3
      rw [hgl] at c3
      have rl := hS2.rl
      rw [hgl] at rl
      obtain ⟨u, hu⟩ := get_of_lt (l := s.L) (i := a) hltL
      have xu := rl.cell (i := a) (u := .bool u) (by rw [lRow_get, hu]; rfl)
      exact ⟨c3, ⟨_, xu⟩, (hW.2 _).trans (hfz a), hS2.setL hgl hltL false, (hFr W hW).set (.inl (Sm.lF hgl)) _ _⟩
    have x0b : ∀ W, Bel wr W → W.cell? ⟨q, 0, none⟩ = some (.int .u32 (a : Int)) := fun W hW => keep hW x0
    clear hex hfz h ho htl hll
    obtain ⟨p, hp⟩ : ∃ p, m.p = p := ⟨_, rfl⟩
    have HPp := hide hp
    rw [hp] at hge hP ⊢
    obtain ⟨nl, hnl⟩ : ∃ n, s.L.length = n := ⟨_, rfl⟩
    rw [hnl] at hP hzL
    clear hp hnl
    go_upto_region 6 with (first | (go_at_call 29; (with_reducible refine (hge).mono ?_); rintro e w2 ⟨rfl, hb2⟩; have y0 := x0b _ hb2; obtain ⟨c3, ⟨uu, xu⟩, xf, hS3, hF3⟩ := hP _ hb2))
    obtain ⟨W3, hW3⟩ : ∃ x, x = w2.setCell ⟨gl, a, none⟩ (.bool false) := ⟨_, rfl⟩
    rw [← hW3] at hS3 hF3 ⊢
    clear hW3 xu xf c3 y0
    have hem := empty_I m _ W3 hS3.out a (by exact hltT) hT16
    rw [HPp.out] at hem
    go_upto_region 7 with (first | (go_at_call 28; (with_reducible refine (hem).mono ?_); rintro e w4 ⟨rfl, hS4, hf4⟩; replace hS4 := hide hS4; replace hf4 := hide (hF3.out.trans hf4)))
    have c5 := hS4.out.c5
    have c6 := hS4.out.c6
    have f5 := hS4.out.fz 5
    have f6 := hS4.out.fz 6
    have hS5 := hide ((hS4.out.set5 (s.ln - 1)).set6 (min s.nx a))
    have hF5 := hide ((hf4.out.set (.inl (Sto.pF (m := m))) 5 (.int .i64 ((s.ln - 1 : Nat) : Int))).set (.inl (Sto.pF (m := m))) 6 (.int .i64 ((min s.nx a : Nat) : Int)))
    simp only at c5 c6
    rw [HPp.out] at c5 c6 f5 f6 hS5 hF5
    have c6b : (w4.setCell ⟨p, 5, none⟩ (.int .i64 ((s.ln : Int) - 1))).cell? ⟨p, 6, none⟩ = some (.int .i64 (s.nx : Int)) := (set_away (by decide)).trans c6
    have f6b : (w4.setCell ⟨p, 5, none⟩ (.int .i64 ((s.ln : Int) - 1))).frozen? ⟨p, 6, none⟩ = false := (World.frozen?_setCell _ _ _ _).trans f6
    have ecast : ((s.ln - 1 : Nat) : Int) = (s.ln : Int) - 1 := by omega
    have emin : ((min s.nx a : Nat) : Int) = min (s.nx : Int) (a : Int) := by omega
    rw [ecast, emin] at hS5 hF5
    have ew5 : IntKind.wrap .i64 ((s.ln : Int) - 1) = (s.ln : Int) - 1 := by rw [IntKind.wrap_i64]; omega
    rcases Nat.lt_or_ge a s.nx with hmn | hmn
    · have hmz : (a : Int) < (s.nx : Int) := by omega
      have hmz2 : ¬ (s.nx : Int) < (a : Int) := by omega
      have em : min (s.nx : Int) (a : Int) = (a : Int) := by omega
      rw [em] at hS5 hF5
      go_wp2
      refine bodyPost_ret (v := .tuple #[v, .int .i64 0]) (by simp [results, Try.results10, go_sem]) rfl ?_
      exact ⟨.inl ⟨HNM.out, ⟨v, HV.out, rfl⟩, hS5.out⟩, hF5.out⟩
    · have hmz : ¬ (a : Int) < (s.nx : Int) := by omega
      have hmz2 : (s.nx : Int) ≤ (a : Int) := by omega
      have em : min (s.nx : Int) (a : Int) = (s.nx : Int) := by omega
      rw [em] at hS5 hF5
      go_wp2
      refine bodyPost_ret (v := .tuple #[v, .int .i64 0]) (by simp [results, Try.results10, go_sem]) rfl ?_
      exact ⟨.inl ⟨HNM.out, ⟨v, HV.out, rfl⟩, hS5.out⟩, hF5.out⟩
  · have HNM := hide hnm
    have hge : Calls Try.prog 29 #[.pointer (some ⟨m.p, 0, none⟩), .agg #[.int .u32 (a : Int), .int .u32 (b : Int)]] wr fun e w' => e = .returned (.tuple #[.int .i64 0, .int .i64 9]) ∧ Bel wr w' := hgt.mono (fun e w' ⟨hc, hb⟩ => by
      rcases hc with ⟨hn, _⟩ | ⟨_, rfl⟩
      · exact absurd hn hnm
      · exact ⟨rfl, hb⟩)
    clear hgt hnm
    go_wp2_with (first | (go_at_call 29; (with_reducible refine (hge).mono ?_); rintro e w2 ⟨rfl, hb2⟩))
    refine bodyPost_ret (v := .tuple #[.int .i64 0, .int .i64 9]) (by simp [results, Try.results10, go_sem]) rfl ?_
    exact ⟨.inr ⟨HNM.out, rfl, h.bel hb2⟩, Fr.of_bel (bl_trans b0 hb2)⟩

end Go.Proofs.Ytnfhedmlifjlmaa
