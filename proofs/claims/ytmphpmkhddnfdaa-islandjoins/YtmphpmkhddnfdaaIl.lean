/-
  What each function of package island that Join reaches answers, and what the reference of its chapter answers: one contract a function.
-/
import Derived.Test.YtmphpmkhddnfdaaId
import Derived.Test.YtmphpmkhddnfdaaIe
import Derived.Test.YtmphpmkhddnfdaaBel
import Derived.Test.YtmphpmkhddnfdaaChecked
import Derived.Below
import Derived.OwnWalk
import Derived.Laws.AppendOwn
import Derived.Lib.SliceRun
import Derived.Laws.MakeOwn
import Derived.WalkKit
import Derived.WalkLawsBesides
import Derived.WalkSpells
import Derived.ProofKit
import Derived.OpenShut
import Derived.Deep.RegionHeld3
import Derived.Deep.MidRow
import Derived.Laws.EntriesVeiled
import Derived.BigQuiet
import Derived.ChangeKeysEq
namespace Go.Proofs.Ytmphpmkhddnfdaa
open Go.ChangeShapes Go.WideShapes Go.ChangeAt Go.RowKit
set_option linter.unusedVariables false
set_option linter.unusedSimpArgs false

set_option maxRecDepth 100000 in
set_option maxHeartbeats 4000000 in
theorem rjoin_ch (n : Nat) (lb lo m lc_ : Nat) (ls : Option Addr) (A B : Nat → Int) (w : World) (hls : m = 0 ∨ ls = some ⟨lb, lo, none⟩) (hlc : m ≤ lc_) (hlm : lc_ ≤ maxLen) (hl : Prs w lb lo m A B) (hn : n ≤ 16384) (hm : m ≤ 65536) : Calls Try.prog 16 #[.int .i64 n, .slice ls m lc_] w fun e w' => (anyN (fun i => badP (A i) (B i) n) m = true ∧ e = .returned (.tuple #[.slice none 0 0, .int .i64 220]) ∧ Bel w w') ∨ (anyN (fun i => badP (A i) (B i) n) m = false ∧ ∃ g f, w.heap.size ≤ g ∧ IntM w' g n (nI f) ∧ Lst n m A B f ∧ g < w'.heap.size ∧ e = .returned (.tuple #[.slice (some ⟨g, 0, none⟩) n n, .int .i64 0]) ∧ Bel w w') := by
  unfold maxLen at hlm
  have h1 : ¬ (n : Int) < 0 := by omega
  have h2 : ¬ (16384 : Int) < (n : Int) := by omega
  have h3 : ¬ (65536 : Int) < (m : Int) := by omega
  go_enter Try.func16, Try.ntmps16
  repeat (first | go_values | go_skip | go_guarded | go_step | go_upon | go_back | dsimp only)
  go_loopw [6] (fun i wr => ∃ q : Nat, q ≤ m ∧ i = .int .i64 q ∧ Bel w wr ∧ anyN (fun i => badP (A i) (B i) n) q = false) (fun i _ => m - (intOf i).toNat)
  case atStart => exact ⟨0, by omega, rfl, bl_refl _, rfl⟩
  case round =>
    obtain ⟨q, hq, rfl, hB, hq0⟩ := hrel
    by_cases hlt : q < m
    · have e9 : ls = some ⟨lb, lo, none⟩ := by rcases hls with h | h; omega; exact h
      subst e9
      have hkI : (q : Int) < (m : Int) := by omega
      have hld := (hl.bel hB) q hlt
      have hx0 : wr.cell? ⟨lb, lo + q * 2, none⟩ = some (.int .i64 (A q)) := hld 0 _ rfl
      have hy0 : wr.cell? ⟨lb, lo + q * 2 + 1, none⟩ = some (.int .i64 (B q)) := hld 1 _ rfl
      clear hld
      haveI := belBy_some wr
      have hx1 := belBy_cell hx0
      have hy1 := belBy_cell hy0
      rcases Int.lt_trichotomy (A q) (B q) with hab | hab | hab
      · have h4 : ¬ (B q) < (A q) := by omega
        by_cases g1 : (A q) < 0
        · have eb : badP (A q) (B q) n = true := by unfold badP; simp; omega
          repeat (first | go_values | go_skip | go_guarded | go_step | go_upon | go_back | dsimp only)
          refine wp_region_quiet_bel (by kernel_rfl) (by kernel_rfl) ?_
          repeat (go_big_quiet_step (fail))
          refine wpQuiet_nil ?_
          rintro _ ⟨nq, rfl⟩
          repeat (first | go_values | go_skip | go_guarded | go_step | go_upon | go_back | dsimp only)
          refine bodyPost_ret (v := .tuple #[.slice none 0 0, .int .i64 220]) (by kernel_rfl) rfl ?_
          exact .inl ⟨anyN_at (p := (fun i => badP (A i) (B i) n)) eb hlt, rfl, bl_trans hB nq.h⟩
        · by_cases g2 : (n : Int) ≤ (B q)
          · have eb : badP (A q) (B q) n = true := by unfold badP; simp; omega
            have g3 : ¬ (B q) < (n : Int) := by omega
            repeat (first | go_values | go_skip | go_guarded | go_step | go_upon | go_back | dsimp only)
            refine wp_region_quiet_bel (by kernel_rfl) (by kernel_rfl) ?_
            repeat (go_big_quiet_step (fail))
            refine wpQuiet_nil ?_
            rintro _ ⟨nq, rfl⟩
            repeat (first | go_values | go_skip | go_guarded | go_step | go_upon | go_back | dsimp only)
            refine bodyPost_ret (v := .tuple #[.slice none 0 0, .int .i64 220]) (by kernel_rfl) rfl ?_
            exact .inl ⟨anyN_at (p := (fun i => badP (A i) (B i) n)) eb hlt, rfl, bl_trans hB nq.h⟩
          · have eb : badP (A q) (B q) n = false := by unfold badP; simp; omega
            have g3 : (B q) < (n : Int) := by omega
            repeat (first | go_values | go_skip | go_guarded | go_step | go_upon | go_back | dsimp only)
            refine wp_region_quiet_bel (by kernel_rfl) (by kernel_rfl) ?_
            repeat (go_big_quiet_step (fail))
            refine wpQuiet_nil ?_
            rintro _ ⟨nq, rfl⟩
            repeat (first | go_values | go_skip | go_guarded | go_step | go_upon | go_back | dsimp only)
            refine ⟨⟨q + 1, by omega, by first | go_num | rfl, bl_trans hB nq.h, ?_⟩, by simp [intOf]; omega⟩
            unfold anyN
            rw [hq0]
            simp [eb]
      · rw [hab] at hx0 hx1
        by_cases g1 : (B q) < 0
        · have eb : badP (A q) (B q) n = true := by unfold badP; simp; omega
          repeat (first | go_values | go_skip | go_guarded | go_step | go_upon | go_back | dsimp only)
          refine wp_region_quiet_bel (by kernel_rfl) (by kernel_rfl) ?_
          repeat (go_big_quiet_step (fail))
          refine wpQuiet_nil ?_
          rintro _ ⟨nq, rfl⟩
          repeat (first | go_values | go_skip | go_guarded | go_step | go_upon | go_back | dsimp only)
          refine bodyPost_ret (v := .tuple #[.slice none 0 0, .int .i64 220]) (by kernel_rfl) rfl ?_
          exact .inl ⟨anyN_at (p := (fun i => badP (A i) (B i) n)) eb hlt, rfl, bl_trans hB nq.h⟩
        · by_cases g2 : (n : Int) ≤ (B q)
          · have eb : badP (A q) (B q) n = true := by unfold badP; simp; omega
            have g3 : ¬ (B q) < (n : Int) := by omega
            repeat (first | go_values | go_skip | go_guarded | go_step | go_upon | go_back | dsimp only)
            refine wp_region_quiet_bel (by kernel_rfl) (by kernel_rfl) ?_
            repeat (go_big_quiet_step (fail))
            refine wpQuiet_nil ?_
            rintro _ ⟨nq, rfl⟩
            repeat (first | go_values | go_skip | go_guarded | go_step | go_upon | go_back | dsimp only)
            refine bodyPost_ret (v := .tuple #[.slice none 0 0, .int .i64 220]) (by kernel_rfl) rfl ?_
            exact .inl ⟨anyN_at (p := (fun i => badP (A i) (B i) n)) eb hlt, rfl, bl_trans hB nq.h⟩
          · have eb : badP (A q) (B q) n = false := by unfold badP; simp; omega
            have g3 : (B q) < (n : Int) := by omega
            repeat (first | go_values | go_skip | go_guarded | go_step | go_upon | go_back | dsimp only)
            refine wp_region_quiet_bel (by kernel_rfl) (by kernel_rfl) ?_
            repeat (go_big_quiet_step (fail))
            refine wpQuiet_nil ?_
            rintro _ ⟨nq, rfl⟩
            repeat (first | go_values | go_skip | go_guarded | go_step | go_upon | go_back | dsimp only)
            refine ⟨⟨q + 1, by omega, by first | go_num | rfl, bl_trans hB nq.h, ?_⟩, by simp [intOf]; omega⟩
            unfold anyN
            rw [hq0]
            simp [eb]
      · have h4 : ¬ (A q) < (B q) := by omega
        by_cases g1 : (B q) < 0
        · have eb : badP (A q) (B q) n = true := by unfold badP; simp; omega
          repeat (first | go_values | go_skip | go_guarded | go_step | go_upon | go_back | dsimp only)
          refine wp_region_quiet_bel (by kernel_rfl) (by kernel_rfl) ?_
          repeat (go_big_quiet_step (fail))
          refine wpQuiet_nil ?_
          rintro _ ⟨nq, rfl⟩
          repeat (first | go_values | go_skip | go_guarded | go_step | go_upon | go_back | dsimp only)
          refine bodyPost_ret (v := .tuple #[.slice none 0 0, .int .i64 220]) (by kernel_rfl) rfl ?_
          exact .inl ⟨anyN_at (p := (fun i => badP (A i) (B i) n)) eb hlt, rfl, bl_trans hB nq.h⟩
        · by_cases g2 : (n : Int) ≤ (A q)
          · have eb : badP (A q) (B q) n = true := by unfold badP; simp; omega
            have g3 : ¬ (A q) < (n : Int) := by omega
            repeat (first | go_values | go_skip | go_guarded | go_step | go_upon | go_back | dsimp only)
            refine wp_region_quiet_bel (by kernel_rfl) (by kernel_rfl) ?_
            repeat (go_big_quiet_step (fail))
            refine wpQuiet_nil ?_
            rintro _ ⟨nq, rfl⟩
            repeat (first | go_values | go_skip | go_guarded | go_step | go_upon | go_back | dsimp only)
            refine bodyPost_ret (v := .tuple #[.slice none 0 0, .int .i64 220]) (by kernel_rfl) rfl ?_
            exact .inl ⟨anyN_at (p := (fun i => badP (A i) (B i) n)) eb hlt, rfl, bl_trans hB nq.h⟩
          · have eb : badP (A q) (B q) n = false := by unfold badP; simp; omega
            have g3 : (A q) < (n : Int) := by omega
            repeat (first | go_values | go_skip | go_guarded | go_step | go_upon | go_back | dsimp only)
            refine wp_region_quiet_bel (by kernel_rfl) (by kernel_rfl) ?_
            repeat (go_big_quiet_step (fail))
            refine wpQuiet_nil ?_
            rintro _ ⟨nq, rfl⟩
            repeat (first | go_values | go_skip | go_guarded | go_step | go_upon | go_back | dsimp only)
            refine ⟨⟨q + 1, by omega, by first | go_num | rfl, bl_trans hB nq.h, ?_⟩, by simp [intOf]; omega⟩
            unfold anyN
            rw [hq0]
            simp [eb]

    · have hqn : q = m := by omega
      subst hqn
      have hval : ∀ i, i < q → 0 ≤ A i ∧ A i < (n : Int) ∧ 0 ≤ B i ∧ B i < (n : Int) := fun i hi => by
        have h4 := anyN_no hq0 i hi
        unfold badP at h4
        simp only [decide_eq_false_iff_not] at h4
        omega
      repeat (first | (go_at_call 35; (with_reducible refine (least_w n lb lo q lc_ ls A B _ hls hlc (by unfold maxLen; omega) (hl.bel hB) (by omega) hm hval).mono ?_); rintro e w2 ⟨f, hI, hL, hz, rfl, hb2⟩) | go_values | go_skip | go_guarded | go_step | go_upon | go_back | dsimp only)
      refine bodyPost_ret (v := .tuple #[.slice (some ⟨wr.heap.size, 0, none⟩) n n, .int .i64 0]) (by kernel_rfl) rfl ?_
      exact .inr ⟨hq0, wr.heap.size, f, hB.size, hI, hL, hz, rfl, bl_trans hB hb2⟩
set_option maxRecDepth 100000 in
set_option maxHeartbeats 4000000 in
theorem rjoin_bad (n : Int) (lb lo m lc_ : Nat) (ls : Option Addr) (A B : Nat → Int) (w : World) (hls : m = 0 ∨ ls = some ⟨lb, lo, none⟩) (hlc : m ≤ lc_) (hlm : lc_ ≤ maxLen) (hl : Prs w lb lo m A B) (er : Int) (he : joE n m A B = er) (h0 : er ≠ 0) : Calls Try.prog 16 #[.int .i64 n, .slice ls m lc_] w fun e w' => e = .returned (.tuple #[.slice none 0 0, .int .i64 er]) ∧ Bel w w' := by
  have he' := he
  unfold joE at he
  by_cases h1 : n < 0
  · rw [if_pos (.inl h1)] at he
    subst he
    go_enter Try.func16, Try.ntmps16
    repeat (first | go_values | go_skip | go_guarded | go_step | go_upon | go_back | dsimp only)
    refine bodyPost_ret (v := .tuple #[.slice none 0 0, .int .i64 2]) (by kernel_rfl) rfl ?_
    exact ⟨rfl, bl_refl _⟩
  by_cases h2 : 16384 < n
  · rw [if_pos (.inr h2)] at he
    subst he
    go_enter Try.func16, Try.ntmps16
    repeat (first | go_values | go_skip | go_guarded | go_step | go_upon | go_back | dsimp only)
    refine bodyPost_ret (v := .tuple #[.slice none 0 0, .int .i64 2]) (by kernel_rfl) rfl ?_
    exact ⟨rfl, bl_refl _⟩
  rw [if_neg (by omega)] at he
  by_cases h3 : 65536 < m
  · rw [if_pos h3] at he
    subst he
    have h3I : (65536 : Int) < (m : Int) := by omega
    go_enter Try.func16, Try.ntmps16
    repeat (first | go_values | go_skip | go_guarded | go_step | go_upon | go_back | dsimp only)
    refine bodyPost_ret (v := .tuple #[.slice none 0 0, .int .i64 4]) (by kernel_rfl) rfl ?_
    exact ⟨rfl, bl_refl _⟩
  rw [if_neg h3] at he
  obtain ⟨n, rfl⟩ : ∃ k : Nat, n = (k : Int) := ⟨n.toNat, by omega⟩
  refine (rjoin_ch n lb lo m lc_ ls A B w hls hlc hlm hl (by omega) (by omega)).mono ?_
  rintro e w' (⟨h4, rfl, hb⟩ | ⟨h4, g, f, _⟩)
  · rw [h4] at he
    have he : er = 220 := he.symm
    subst he
    exact ⟨rfl, hb⟩
  · rw [h4] at he; exact absurd he.symm h0
theorem rjoin_ok (n : Nat) (lb lo m lc_ : Nat) (ls : Option Addr) (A B : Nat → Int) (w : World) (hls : m = 0 ∨ ls = some ⟨lb, lo, none⟩) (hlc : m ≤ lc_) (hlm : lc_ ≤ maxLen) (hl : Prs w lb lo m A B) (he : joE n m A B = 0) : Calls Try.prog 16 #[.int .i64 n, .slice ls m lc_] w fun e w' => ∃ g f, w.heap.size ≤ g ∧ IntM w' g n (nI f) ∧ Lst n m A B f ∧ g < w'.heap.size ∧ e = .returned (.tuple #[.slice (some ⟨g, 0, none⟩) n n, .int .i64 0]) ∧ Bel w w' := by
  obtain ⟨v1, v2, v3, v4⟩ := joE_zero he
  refine (rjoin_ch n lb lo m lc_ ls A B w hls hlc hlm hl (by omega) (by omega)).mono ?_
  rintro e w' (⟨h4, rfl, hb⟩ | ⟨h4, g, f, h⟩)
  · unfold joE at he
    rw [if_neg (by omega), if_neg (by omega), h4] at he
    cases he
  · exact ⟨g, f, h⟩

end Go.Proofs.Ytmphpmkhddnfdaa
