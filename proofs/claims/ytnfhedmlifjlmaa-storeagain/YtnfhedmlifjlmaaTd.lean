/-
  What each function of package store answers, and what its memory holds afterwards: one contract a function; of the memory that was there only the store's own blocks have turned.
-/
import Derived.Test.YtnfhedmlifjlmaaChecked
import Derived.Test.YtnfhedmlifjlmaaTc
import Derived.Below
import Derived.BigQuiet
import Derived.OwnWalk
import Derived.Laws.AppendOwn
import Derived.Laws.AppendOwnNone
import Derived.WalkKit
import Derived.WalkLawsBesides
import Derived.WalkSpells
import Derived.ProofKit
import Derived.OpenShut
import Derived.Deep.RegionHeld3
import Derived.Deep.LoopGhost
import Derived.Laws.StructEq
import Derived.Lib.Builder
import Derived.Deep.DeepCutAuto
import Derived.Lib.SliceRun
import Derived.Laws.MakeOwn
namespace Go.Proofs.Ytnfhedmlifjlmaa
open Go.ChangeShapes Go.WideShapes Go.ChangeAt Go.RowKit Go.Lib
set_option linter.unusedVariables false
set_option linter.unusedSimpArgs false
set_option maxRecDepth 100000
set_option maxHeartbeats 4000000


theorem get_S (m : Sm) (s : Ss) (w : World) (h : Sto w m s) (ho : Okk s) (a b : Nat) (ha : a < 4294967296) (hb : b < 4294967296) : Calls Try.prog 18 #[.pointer (some ⟨m.p, 0, none⟩), .agg #[.int .u32 (a : Int), .int .u32 (b : Int)]] w fun e w' => (Named s a b ∧ (∃ v, Thing s a v ∧ e = .returned (.tuple #[v, .int .i64 0])) ∨ ¬ Named s a b ∧ e = .returned (.tuple #[.string { data := #[] }, .int .i64 9])) ∧ Bel w w' := by
  have htl := ho.tl
  have hll := ho.ll
  have b0 := st_bel (W := w) #[.int .u32 (a : Int), .int .u32 (b : Int)] 29
  have x0 : (w.alloc (.cells #[.int .u32 (a : Int), .int .u32 (b : Int)] 29)).cell? ⟨w.heap.size, 0, none⟩ = some (.int .u32 (a : Int)) := by rw [World.cell?_alloc_new]; rfl
  have x1 : (w.alloc (.cells #[.int .u32 (a : Int), .int .u32 (b : Int)] 29)).cell? ⟨w.heap.size, 1, none⟩ = some (.int .u32 (b : Int)) := by rw [World.cell?_alloc_new]; rfl
  replace h := h.bel b0
  obtain ⟨q, hq⟩ : ∃ q, q = w.heap.size := ⟨_, rfl⟩
  obtain ⟨wr, hwr⟩ : ∃ x, x = w.alloc (.cells #[.int .u32 (a : Int), .int .u32 (b : Int)] 29) := ⟨_, rfl⟩
  go_enter Try.func18, Try.ntmps18
  rw [← hq, ← hwr] at x0 x1
  rw [← hwr] at b0 h
  go_upto_region 1 with (fail)
  rw [← hq, ← hwr]
  clear hwr hq
  have hfd := find_S m s wr h ho a b ha hb
  have c4 := h.c4
  have rt := h.rt
  obtain ⟨n, hn⟩ : ∃ n, s.T.length = n := ⟨_, rfl⟩
  rw [hn] at c4 rt htl
  have HN : Hid (s.T.length = n) := hn
  clear hn h ho
  obtain ⟨p, su, cu, sl, cl, st, ct⟩ := m
  simp only at c4 rt hfd ⊢
  by_cases hnm : Named s a b
  · have HNM := hide hnm
    have hlt : a < n := by have := lt_of_get hnm.2; omega
    have hz : (a : Int) < (n : Int) := by omega
    obtain ⟨g, hg, _⟩ := rt.at (by omega)
    subst hg
    obtain ⟨v, hv⟩ := get_of_lt (l := s.T) (i := a) (by rw [HN.out]; exact hlt)
    have x4 := rt.cell hv
    have HV := hide hv
    have hfe : Calls Try.prog 39 #[.pointer (some ⟨p, 0, none⟩), .agg #[.int .u32 (a : Int), .int .u32 (b : Int)]] wr fun e w' => e = .returned (.tuple #[.int .i64 (a : Int), .int .i64 0]) ∧ Bel wr w' := hfd.mono (fun e w' ⟨hc, hb⟩ => by rcases hc with ⟨_, rfl⟩ | ⟨hn, _⟩; exact ⟨rfl, hb⟩; exact absurd hnm hn)
    clear hfd hv hnm rt
    go_wp2_with (first | (go_at_call 39; (with_reducible refine (hfe).mono ?_); rintro e w2 ⟨rfl, hb2⟩; replace c4 := keep hb2 c4; replace x4 := keep hb2 x4))
    refine bodyPost_ret (v := .tuple #[v, .int .i64 0]) (by simp [results, Try.results18, go_sem]) rfl ?_
    exact ⟨.inl ⟨HNM.out, v, HV.out, rfl⟩, bl_trans b0 hb2⟩
  · have HNM := hide hnm
    have hfe : Calls Try.prog 39 #[.pointer (some ⟨p, 0, none⟩), .agg #[.int .u32 (a : Int), .int .u32 (b : Int)]] wr fun e w' => e = .returned (.tuple #[.int .i64 0, .int .i64 9]) ∧ Bel wr w' := hfd.mono (fun e w' ⟨hc, hb⟩ => by rcases hc with ⟨hn, _⟩ | ⟨_, rfl⟩; exact absurd hn hnm; exact ⟨rfl, hb⟩)
    clear hfd hnm rt c4
    go_wp2_with (first | (go_at_call 39; (with_reducible refine (hfe).mono ?_); rintro e w2 ⟨rfl, hb2⟩))
    refine bodyPost_ret (v := .tuple #[.string { data := #[] }, .int .i64 9]) (by simp [results, Try.results18, go_sem]) rfl ?_
    exact ⟨.inr ⟨HNM.out, rfl⟩, bl_trans b0 hb2⟩

end Go.Proofs.Ytnfhedmlifjlmaa
