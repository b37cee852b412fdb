/-
  What each function of package store answers, and what its memory holds afterwards: one contract a function; of the memory that was there only the store's own blocks have turned.
-/
import Derived.Test.YtnfhedmlifjlmaaChecked
import Derived.Test.YtnfhedmlifjlmaaSc
import Derived.Below
import Derived.BigQuiet
import Derived.OwnWalk
import Derived.Laws.AppendOwn
import Derived.Laws.AppendOwnNone
import Derived.WalkKit
import Derived.WalkLawsBesides
import Derived.WalkSpells
import Derived.ProofKit
import Derived.OpenShut
import Derived.Deep.RegionHeld3
import Derived.Deep.LoopGhost
import Derived.Laws.StructEq
import Derived.Lib.Builder
import Derived.Deep.DeepCutAuto
import Derived.Lib.SliceRun
import Derived.Laws.MakeOwn
namespace Go.Proofs.Ytnfhedmlifjlmaa
open Go.ChangeShapes Go.WideShapes Go.ChangeAt Go.RowKit Go.Lib
set_option linter.unusedVariables false
set_option linter.unusedSimpArgs false
set_option maxRecDepth 100000
set_option maxHeartbeats 4000000


theorem set_I (m : Sm) (s : Ss) (w : World) (h : Sto w m s) (ho : Okk s) (a b : Nat) (ha : a < 4294967296) (hb : b < 4294967296) (x : Int) : Calls Try.prog 23 #[.pointer (some ⟨m.p, 0, none⟩), .agg #[.int .u32 (a : Int), .int .u32 (b : Int)], .int .i64 x] w fun e w' => (Named s a b ∧ e = .returned (.int .i64 0) ∧ Sto w' m { s with T := s.T.set a (.int .i64 x) } ∨ ¬ Named s a b ∧ e = .returned (.int .i64 9) ∧ Sto w' m s) ∧ Fr m.F m.F w w' := by
  have htl := ho.tl
  have hll := ho.ll
  have b0 := st_bel (W := w) #[.int .u32 (a : Int), .int .u32 (b : Int)] 29
  have x0 : (w.alloc (.cells #[.int .u32 (a : Int), .int .u32 (b : Int)] 29)).cell? ⟨w.heap.size, 0, none⟩ = some (.int .u32 (a : Int)) := by rw [World.cell?_alloc_new]; rfl
  have x1 : (w.alloc (.cells #[.int .u32 (a : Int), .int .u32 (b : Int)] 29)).cell? ⟨w.heap.size, 1, none⟩ = some (.int .u32 (b : Int)) := by rw [World.cell?_alloc_new]; rfl
  replace h := h.bel b0
  obtain ⟨q, hq⟩ : ∃ q, q = w.heap.size := ⟨_, rfl⟩
  obtain ⟨wr, hwr⟩ : ∃ x, x = w.alloc (.cells #[.int .u32 (a : Int), .int .u32 (b : Int)] 29) := ⟨_, rfl⟩
  go_enter Try.func23, Try.ntmps23
  rw [← hq, ← hwr] at x0 x1
  rw [← hwr] at b0 h
  go_upto_region 1 with (fail)
  rw [← hq, ← hwr]
  clear hwr hq
  have hfd := find_I m s wr h ho a b ha hb
  by_cases hnm : Named s a b
  · have HNM := hide hnm
    have hltT : a < s.T.length := by have := lt_of_get hnm.2; omega
    obtain ⟨g, hg, _, _, _, hex, hfz, _⟩ := h.rt.at (by omega)
    have hfe : Calls Try.prog 40 #[.pointer (some ⟨m.p, 0, none⟩), .agg #[.int .u32 (a : Int), .int .u32 (b : Int)]] wr fun e w' => e = .returned (.tuple #[.int .i64 (a : Int), .int .i64 0]) ∧ Bel wr w' := hfd.mono (fun e w' ⟨hc, hb⟩ => by rcases hc with ⟨_, rfl⟩ | ⟨hn, _⟩; exact ⟨rfl, hb⟩; exact absurd hnm hn)
    have hz : (a : Int) < (s.T.length : Int) := by omega
    have hP : ∀ W, Bel wr W → W.cell? ⟨m.p, 4, none⟩ = some (.slice (some ⟨g, 0, none⟩) s.T.length m.ct) ∧ (∃ u, W.cell? ⟨g, a, none⟩ = some u) ∧ W.frozen? ⟨g, a, none⟩ = false ∧ Hid (Sto (W.setCell ⟨g, a, none⟩ (.int .i64 x)) m { s with T := s.T.set a (.int .i64 x) }) ∧ Hid (Fr m.F m.F w (W.setCell ⟨g, a, none⟩ (.int .i64 x))) := fun W hW => by
      have hS2 := h.bel hW
      have c4 := hS2.c4
      rw [hg] at c4
      have rt := hS2.rt
      rw [hg] at rt
      obtain ⟨u, hu⟩ := get_of_lt hltT
      exact ⟨c4, ⟨u, rt.cell hu⟩, (hW.2 _).trans (hfz a), hS2.setT hg hltT _, (Fr.of_bel (bl_trans b0 hW)).set (.inl (Sm.tF hg)) _ _⟩
    clear hfd hnm hex hfz h ho htl hll
    obtain ⟨p, hp⟩ : ∃ p, m.p = p := ⟨_, rfl⟩
    rw [hp] at hfe hP ⊢
    obtain ⟨n, hn⟩ : ∃ n, s.T.length = n := ⟨_, rfl⟩
    rw [hn] at hP hz
    clear hp hn hltT
    go_wp2_with (first | (go_at_call 40; (with_reducible refine (hfe).mono ?_); rintro e w2 ⟨rfl, hb2⟩; obtain ⟨c4, ⟨uu, xu⟩, xf, hS3, hF3⟩ := hP _ hb2))
    go_ret
    exact ⟨.inl ⟨HNM.out, rfl, hS3.out⟩, hF3.out⟩
  · have HNM := hide hnm
    have hfe : Calls Try.prog 40 #[.pointer (some ⟨m.p, 0, none⟩), .agg #[.int .u32 (a : Int), .int .u32 (b : Int)]] wr fun e w' => e = .returned (.tuple #[.int .i64 0, .int .i64 9]) ∧ Bel wr w' := hfd.mono (fun e w' ⟨hc, hb⟩ => by rcases hc with ⟨hn, _⟩ | ⟨_, rfl⟩; exact absurd hn hnm; exact ⟨rfl, hb⟩)
    clear hfd hnm
    go_wp2_with (first | (go_at_call 40; (with_reducible refine (hfe).mono ?_); rintro e w2 ⟨rfl, hb2⟩))
    go_ret
    exact ⟨.inr ⟨HNM.out, rfl, h.bel hb2⟩, Fr.of_bel (bl_trans b0 hb2)⟩

end Go.Proofs.Ytnfhedmlifjlmaa
