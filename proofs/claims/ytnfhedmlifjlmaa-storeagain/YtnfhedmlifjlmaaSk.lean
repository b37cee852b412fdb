/-
  What each function of package store answers, and what its memory holds afterwards: one contract a function; of the memory that was there only the store's own blocks have turned.
-/
import Derived.Test.YtnfhedmlifjlmaaChecked
import Derived.Test.YtnfhedmlifjlmaaSa
import Derived.Below
import Derived.BigQuiet
import Derived.OwnWalk
import Derived.Laws.AppendOwn
import Derived.Laws.AppendOwnNone
import Derived.WalkKit
import Derived.WalkLawsBesides
import Derived.WalkSpells
import Derived.ProofKit
import Derived.OpenShut
import Derived.Deep.RegionHeld3
import Derived.Deep.LoopGhost
import Derived.Laws.StructEq
import Derived.Lib.Builder
import Derived.Deep.DeepCutAuto
import Derived.Lib.SliceRun
import Derived.Laws.MakeOwn
namespace Go.Proofs.Ytnfhedmlifjlmaa
open Go.ChangeShapes Go.WideShapes Go.ChangeAt Go.RowKit Go.Lib
set_option linter.unusedVariables false
set_option linter.unusedSimpArgs false
set_option maxRecDepth 100000
set_option maxHeartbeats 4000000


theorem at_noI (m : Sm) (s : Ss) (w : World) (h : Sto w m s) (a : Int) (hno : ∀ k : Nat, (k : Int) = a → s.L[k]? ≠ some true) : Calls Try.prog 30 #[.pointer (some ⟨m.p, 0, none⟩), .int .i64 a] w fun e w' => e = .returned (.tuple #[.agg #[.int .u32 0, .int .u32 0], .bool false]) ∧ Bel w w' := by
  have b0 := st_bel (W := w) #[.int .u32 0, .int .u32 0] 29
  have hq0 : ∀ o, (w.alloc (.cells #[.int .u32 0, .int .u32 0] 29)).frozen? ⟨w.heap.size, o, none⟩ = false := fun o => fz_new o
  have x0 : (w.alloc (.cells #[.int .u32 0, .int .u32 0] 29)).cell? ⟨w.heap.size, 0, none⟩ = some (.int .u32 0) := by rw [World.cell?_alloc_new]; rfl
  have x1 : (w.alloc (.cells #[.int .u32 0, .int .u32 0] 29)).cell? ⟨w.heap.size, 1, none⟩ = some (.int .u32 0) := by rw [World.cell?_alloc_new]; rfl
  have hnq : w.heap.size ∉ m.F := fun hm => Nat.lt_irrefl _ (h.sz _ hm)
  have h1 := h.bel b0
  obtain ⟨q, hq⟩ : ∃ q, q = w.heap.size := ⟨_, rfl⟩
  obtain ⟨w1, hw1⟩ : ∃ x, x = w.alloc (.cells #[.int .u32 0, .int .u32 0] 29) := ⟨_, rfl⟩
  obtain ⟨p, hp⟩ : ∃ p, m.p = p := ⟨_, rfl⟩
  have HPp := hide hp
  rw [hp]
  go_enter Try.func30, Try.ntmps30
  go_upto_region 1 with (fail)
  rw [← hq, ← hw1] at x0 x1 hq0
  rw [← hw1] at b0 h1
  rw [← hq] at hnq
  rw [← hq, ← hw1]
  have hqb : Hid (w.heap.size ≤ q) := by rw [hq]; exact Nat.le_refl _
  clear hq hw1 hp h
  have c0 := h1.c0
  have c3 := h1.c3
  have rl := h1.rl
  obtain ⟨n, hn⟩ : ∃ n, s.L.length = n := ⟨_, rfl⟩
  rw [hn] at c3 rl
  rw [HPp.out] at c0 c3
  obtain ⟨W5, hW5, z0, z1, hS5, hF5⟩ := q_end 0 0 x0 x1 h1 hnq (Fr.of_bel (F := m.F) b0) hqb.out
  have hB5 := hide (bl_set (p := ⟨q, 1, none⟩) (v := .int .u32 0) (bl_set (p := ⟨q, 0, none⟩) (v := .int .u32 0) b0 hqb.out) hqb.out)
  rw [← hW5] at hB5
  clear hS5 hF5
  rcases Int.lt_or_le a 0 with hneg | hneg
  · go_wp2_with (first | (go_at_call 20; (with_reducible refine (isNone_I _ _ c0).mono ?_); rintro e w1b ⟨rfl, hw1b⟩; rw [hw1b]; clear hw1b))
    rw [← hW5]
    refine bodyPost_ret (v := .tuple #[.agg #[.int .u32 0, .int .u32 0], .bool false]) (by simp [results, Try.results30, go_sem, z0, z1]) rfl ?_
    exact ⟨rfl, hB5.out⟩
  · have hneg2 : ¬ a < 0 := by omega
    obtain ⟨k, hk⟩ : ∃ k : Nat, (k : Int) = a := ⟨a.toNat, by omega⟩
    have hno2 := hide (hno k hk)
    subst hk
    clear hno
    rcases Nat.lt_or_ge k n with hlt | hlt
    · have hz1 : ¬ (n : Int) ≤ (k : Int) := by omega
      have hz2 : (k : Int) < (n : Int) := by omega
      obtain ⟨g, hg, _⟩ := rl.at (by omega)
      rw [hg] at c3 rl
      obtain ⟨b, hb⟩ := get_of_lt (l := s.L) (i := k) (by rw [hn]; exact hlt)
      have : b = false := by
        cases b with
        | false => rfl
        | true => exact absurd hb hno2.out
      subst this
      have y := rl.cell (i := k) (u := .bool false) (by rw [lRow_get, hb]; rfl)
      clear hb hg
      go_wp2_with (first | (go_at_call 20; (with_reducible refine (isNone_I _ _ c0).mono ?_); rintro e w1b ⟨rfl, hw1b⟩; rw [hw1b]; clear hw1b))
      rw [← hW5]
      refine bodyPost_ret (v := .tuple #[.agg #[.int .u32 0, .int .u32 0], .bool false]) (by simp [results, Try.results30, go_sem, z0, z1]) rfl ?_
      exact ⟨rfl, hB5.out⟩
    · have hz1 : (n : Int) ≤ (k : Int) := by omega
      go_wp2_with (first | (go_at_call 20; (with_reducible refine (isNone_I _ _ c0).mono ?_); rintro e w1b ⟨rfl, hw1b⟩; rw [hw1b]; clear hw1b))
      rw [← hW5]
      refine bodyPost_ret (v := .tuple #[.agg #[.int .u32 0, .int .u32 0], .bool false]) (by simp [results, Try.results30, go_sem, z0, z1]) rfl ?_
      exact ⟨rfl, hB5.out⟩

theorem at_yesI (m : Sm) (s : Ss) (w : World) (h : Sto w m s) (ho : Okk s) (k u : Nat) (hk : s.L[k]? = some true) (hu : s.U[k]? = some u) : Calls Try.prog 30 #[.pointer (some ⟨m.p, 0, none⟩), .int .i64 (k : Int)] w fun e w' => e = .returned (.tuple #[.agg #[.int .u32 (k : Int), .int .u32 (u : Int)], .bool true]) ∧ Bel w w' := by
  have b0 := st_bel (W := w) #[.int .u32 0, .int .u32 0] 29
  have hq0 : ∀ o, (w.alloc (.cells #[.int .u32 0, .int .u32 0] 29)).frozen? ⟨w.heap.size, o, none⟩ = false := fun o => fz_new o
  have x0 : (w.alloc (.cells #[.int .u32 0, .int .u32 0] 29)).cell? ⟨w.heap.size, 0, none⟩ = some (.int .u32 0) := by rw [World.cell?_alloc_new]; rfl
  have x1 : (w.alloc (.cells #[.int .u32 0, .int .u32 0] 29)).cell? ⟨w.heap.size, 1, none⟩ = some (.int .u32 0) := by rw [World.cell?_alloc_new]; rfl
  have hnq : w.heap.size ∉ m.F := fun hm => Nat.lt_irrefl _ (h.sz _ hm)
  have h1 := h.bel b0
  obtain ⟨q, hq⟩ : ∃ q, q = w.heap.size := ⟨_, rfl⟩
  obtain ⟨w1, hw1⟩ : ∃ x, x = w.alloc (.cells #[.int .u32 0, .int .u32 0] 29) := ⟨_, rfl⟩
  obtain ⟨p, hp⟩ : ∃ p, m.p = p := ⟨_, rfl⟩
  have HPp := hide hp
  have hlt := lt_of_get hk
  have hkm : k ≤ 16384 := by have := ho.ll; have := ho.um; have := ho.m2; omega
  have hha := fun W (hW : Sto W m s) => handle_I m s W hW k u hu hkm
  rw [hp] at hha ⊢
  go_enter Try.func30, Try.ntmps30
  go_upto_region 1 with (fail)
  rw [← hq, ← hw1] at x0 x1 hq0
  rw [← hw1] at b0 h1
  rw [← hq] at hnq
  rw [← hq, ← hw1]
  have hqb : Hid (w.heap.size ≤ q) := by rw [hq]; exact Nat.le_refl _
  clear hq hw1 hp h ho
  have c0 := h1.c0
  have c3 := h1.c3
  have rl := h1.rl
  have y := hk
  obtain ⟨n, hn⟩ : ∃ n, s.L.length = n := ⟨_, rfl⟩
  rw [hn] at c3 rl hlt
  rw [HPp.out] at c0 c3
  have hz0 : ¬ (k : Int) < 0 := by omega
  have hz1 : ¬ (n : Int) ≤ (k : Int) := by omega
  have hz2 : (k : Int) < (n : Int) := by omega
  obtain ⟨g, hg, _⟩ := rl.at (by omega)
  rw [hg] at c3 rl
  have yl := rl.cell (i := k) (u := .bool true) (by rw [lRow_get, hk]; rfl)
  clear y hk hu hg hn
  go_wp2_with (first | (go_at_call 20; (with_reducible refine (isNone_I _ _ c0).mono ?_); rintro e w1b ⟨rfl, hw1b⟩; rw [hw1b]; clear hw1b) | (go_at_call 22; (with_reducible refine (hha _ h1).mono ?_); rintro e w2 ⟨rfl, hb2⟩; obtain ⟨W5, hW5, z0, z1, hS5, hF5⟩ := q_end (k : Int) (u : Int) (keep hb2 x0) (keep hb2 x1) (h1.bel hb2) hnq ((Fr.of_bel (F := m.F) b0).trans (Fr.of_bel hb2)) hqb.out; clear hS5 hF5; have hB5 := hide (bl_set (p := ⟨q, 1, none⟩) (v := .int .u32 (u : Int)) (bl_set (p := ⟨q, 0, none⟩) (v := .int .u32 (k : Int)) (bl_trans b0 hb2) hqb.out) hqb.out); rw [← hW5] at hB5; replace x0 := keep hb2 x0; replace x1 := keep hb2 x1; replace hq0 : ∀ o, w2.frozen? ⟨q, o, none⟩ = false := (fun o => (hb2.2 _).trans (hq0 o))))
  rw [← hW5]
  refine bodyPost_ret (v := .tuple #[.agg #[.int .u32 (k : Int), .int .u32 (u : Int)], .bool true]) (by simp [results, Try.results30, go_sem, z0, z1]) rfl ?_
  exact ⟨rfl, hB5.out⟩

end Go.Proofs.Ytnfhedmlifjlmaa
