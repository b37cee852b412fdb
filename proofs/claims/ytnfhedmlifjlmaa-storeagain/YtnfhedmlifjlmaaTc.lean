/-
  What each function of package store answers, and what its memory holds afterwards: one contract a function; of the memory that was there only the store's own blocks have turned.
-/
import Derived.Test.YtnfhedmlifjlmaaChecked
import Derived.Test.YtnfhedmlifjlmaaSa
import Derived.Below
import Derived.BigQuiet
import Derived.OwnWalk
import Derived.Laws.AppendOwn
import Derived.Laws.AppendOwnNone
import Derived.WalkKit
import Derived.WalkLawsBesides
import Derived.WalkSpells
import Derived.ProofKit
import Derived.OpenShut
import Derived.Deep.RegionHeld3
import Derived.Deep.LoopGhost
import Derived.Laws.StructEq
import Derived.Lib.Builder
import Derived.Deep.DeepCutAuto
import Derived.Lib.SliceRun
import Derived.Laws.MakeOwn
namespace Go.Proofs.Ytnfhedmlifjlmaa
open Go.ChangeShapes Go.WideShapes Go.ChangeAt Go.RowKit Go.Lib
set_option linter.unusedVariables false
set_option linter.unusedSimpArgs false
set_option maxRecDepth 100000
set_option maxHeartbeats 4000000


theorem find_S (m : Sm) (s : Ss) (w : World) (h : Sto w m s) (ho : Okk s) (a b : Nat) (ha : a < 4294967296) (hb : b < 4294967296) : Calls Try.prog 39 #[.pointer (some ⟨m.p, 0, none⟩), .agg #[.int .u32 (a : Int), .int .u32 (b : Int)]] w fun e w' => (Named s a b ∧ e = .returned (.tuple #[.int .i64 (a : Int), .int .i64 0]) ∨ ¬ Named s a b ∧ e = .returned (.tuple #[.int .i64 0, .int .i64 9])) ∧ Bel w w' := by
  obtain ⟨n, hn⟩ : ∃ n, s.U.length = n := ⟨_, rfl⟩
  have hn0 := ho.um
  have hn1 := ho.m2
  have hll := ho.ll
  rw [hn] at hn0 hll
  have c0 := h.c0
  have c2 := h.c2
  have c3 := h.c3
  have ru := h.ru
  have rl := h.rl
  rw [hn] at c2 ru
  rw [hll] at c3 rl
  have HN : Hid (s.U.length = n) := hn
  have HL : Hid (s.L.length = n) := hll
  clear hn hll ho
  obtain ⟨p, su, cu, sl, cl, st, ct⟩ := m
  simp only at c0 c2 c3 ru rl ⊢
  clear h
  have e1 : IntKind.wrap .u64 (a : Int) = (a : Int) := by rw [IntKind.wrap_u64]; omega
  have e2 : IntKind.wrap .u64 (n : Int) = (n : Int) := by rw [IntKind.wrap_u64]; omega
  have e3 : IntKind.wrap .i64 (a : Int) = (a : Int) := by rw [IntKind.wrap_i64]; omega
  have b0 := st_bel (W := w) #[.int .u32 (a : Int), .int .u32 (b : Int)] 29
  have x0 : (w.alloc (.cells #[.int .u32 (a : Int), .int .u32 (b : Int)] 29)).cell? ⟨w.heap.size, 0, none⟩ = some (.int .u32 (a : Int)) := by rw [World.cell?_alloc_new]; rfl
  have x1 : (w.alloc (.cells #[.int .u32 (a : Int), .int .u32 (b : Int)] 29)).cell? ⟨w.heap.size, 1, none⟩ = some (.int .u32 (b : Int)) := by rw [World.cell?_alloc_new]; rfl
  replace c0 := keep b0 c0
  replace c2 := keep b0 c2
  replace c3 := keep b0 c3
  replace ru := ru.bel b0
  replace rl := rl.bel b0
  obtain ⟨q, hq⟩ : ∃ q, q = w.heap.size := ⟨_, rfl⟩
  obtain ⟨wr, hwr⟩ : ∃ x, x = w.alloc (.cells #[.int .u32 (a : Int), .int .u32 (b : Int)] 29) := ⟨_, rfl⟩
  go_enter Try.func39, Try.ntmps39
  rw [← hq, ← hwr] at x0 x1
  rw [← hwr] at b0 c0 c2 c3 ru rl
  go_upto_region 1 with (fail)
  rw [← hq, ← hwr]
  clear hq hwr
  by_cases hlt : a < n
  · have hz : ¬ (n : Int) ≤ (a : Int) := by omega
    have hd : decide ((n : Int) ≤ (a : Int)) = false := decide_eq_false hz
    have hz2 : (a : Int) < (n : Int) := by omega
    obtain ⟨gu, hgu, _⟩ := ru.at (by omega)
    obtain ⟨gl, hgl, _⟩ := rl.at (by omega)
    subst hgu hgl
    obtain ⟨u, hu⟩ := get_of_lt (l := s.U) (i := a) (by rw [HN.out]; exact hlt)
    obtain ⟨v, hv⟩ := get_of_lt (l := s.L) (i := a) (by rw [HL.out]; exact hlt)
    have xu := ru.cell (i := a) (u := .int .u32 (u : Int)) (by rw [uRow_get, hu]; rfl)
    have xl := rl.cell (i := a) (u := .bool v) (by rw [lRow_get, hv]; rfl)
    have HU : Hid (s.U[a]? = some u) := hu
    have HV : Hid (s.L[a]? = some v) := hv
    clear hu hv ru rl
    go_wp2_with (first | (go_at_call 35; (with_reducible refine (isNone_S _ _ c0).mono ?_); rintro e w1 ⟨rfl, hw1⟩; rw [hw1]; clear hw1))
    go_quiet (fail)
    obtain ⟨W2, hW2⟩ : ∃ x, x = wr.drewN nq := ⟨_, rfl⟩
    have B2 : Bel wr W2 := by rw [hW2]; exact bl_drewN (bl_refl _) _
    rw [← hW2]
    clear hW2
    replace b0 := bl_trans b0 B2
    replace c2 := keep B2 c2
    replace c3 := keep B2 c3
    replace xu := keep B2 xu
    replace xl := keep B2 xl
    replace x0 := keep B2 x0
    replace x1 := keep B2 x1
    clear B2 c0
    cases v with
    | false =>
      go_wp2
      go_quiet (fail)
      obtain ⟨W3, hW3⟩ : ∃ x, x = W2.drewN nq := ⟨_, rfl⟩
      have B3 : Bel W2 W3 := by rw [hW3]; exact bl_drewN (bl_refl _) _
      rw [← hW3]
      clear hW3
      go_wp2
      refine bodyPost_ret (v := .tuple #[.int .i64 0, .int .i64 9]) (by simp [results, Try.results39, go_sem]) rfl ?_
      exact ⟨.inr ⟨fun hh => by have h1 := hh.1; rw [HV.out] at h1; exact absurd h1 (by simp), rfl⟩, bl_trans b0 B3⟩
    | true =>
      by_cases hub : u = b
      · subst hub
        go_wp2
        go_quiet (fail)
        obtain ⟨W3, hW3⟩ : ∃ x, x = W2.drewN nq := ⟨_, rfl⟩
        have B3 : Bel W2 W3 := by rw [hW3]; exact bl_drewN (bl_refl _) _
        rw [← hW3]
        clear hW3
        go_wp2
        refine bodyPost_ret (v := .tuple #[.int .i64 (a : Int), .int .i64 0]) (by simp [results, Try.results39, go_sem]) rfl ?_
        exact ⟨.inl ⟨⟨HV.out, HU.out⟩, rfl⟩, bl_trans b0 B3⟩
      · have hub2 : ¬ (u : Int) = (b : Int) := by omega
        have hub3 : decide ((u : Int) = (b : Int)) = false := decide_eq_false hub2
        have hub4 : ((u : Int) == (b : Int)) = false := by simpa using hub2
        go_wp2
        go_quiet (fail)
        obtain ⟨W3, hW3⟩ : ∃ x, x = W2.drewN nq := ⟨_, rfl⟩
        have B3 : Bel W2 W3 := by rw [hW3]; exact bl_drewN (bl_refl _) _
        rw [← hW3]
        clear hW3
        go_wp2
        refine bodyPost_ret (v := .tuple #[.int .i64 0, .int .i64 9]) (by simp [results, Try.results39, go_sem]) rfl ?_
        exact ⟨.inr ⟨fun hh => by have h1 := hh.2; rw [HU.out] at h1; exact hub (by simpa using h1), rfl⟩, bl_trans b0 B3⟩
  · have hz : (n : Int) ≤ (a : Int) := by omega
    have hd : decide ((n : Int) ≤ (a : Int)) = true := decide_eq_true hz
    go_wp2_with (first | (go_at_call 35; (with_reducible refine (isNone_S _ _ c0).mono ?_); rintro e w1 ⟨rfl, hw1⟩; rw [hw1]; clear hw1))
    go_quiet (fail)
    obtain ⟨W2, hW2⟩ : ∃ x, x = wr.drewN nq := ⟨_, rfl⟩
    have B2 : Bel wr W2 := by rw [hW2]; exact bl_drewN (bl_refl _) _
    rw [← hW2]
    clear hW2
    go_wp2
    refine bodyPost_ret (v := .tuple #[.int .i64 0, .int .i64 9]) (by simp [results, Try.results39, go_sem]) rfl ?_
    exact ⟨.inr ⟨fun hh => by have := lt_of_get hh.2; rw [HN.out] at this; exact hlt this, rfl⟩, bl_trans b0 B2⟩

end Go.Proofs.Ytnfhedmlifjlmaa
