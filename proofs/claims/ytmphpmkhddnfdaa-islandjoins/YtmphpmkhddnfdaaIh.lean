/-
  What each function of package island that Join reaches answers, and what the reference of its chapter answers: one contract a function.
-/
import Derived.Test.YtmphpmkhddnfdaaIl
import Derived.Test.YtmphpmkhddnfdaaIk
import Derived.Test.YtmphpmkhddnfdaaIg
import Derived.Test.YtmphpmkhddnfdaaChecked
import Derived.Below
import Derived.OwnWalk
import Derived.Laws.AppendOwn
import Derived.Lib.SliceRun
import Derived.Laws.MakeOwn
import Derived.WalkKit
import Derived.WalkLawsBesides
import Derived.WalkSpells
import Derived.ProofKit
import Derived.OpenShut
import Derived.Deep.RegionHeld3
import Derived.Deep.MidRow
import Derived.Laws.EntriesVeiled
import Derived.BigQuiet
import Derived.ChangeKeysEq
namespace Go.Proofs.Ytmphpmkhddnfdaa
open Go.ChangeShapes Go.WideShapes Go.ChangeAt Go.RowKit
set_option linter.unusedVariables false
set_option linter.unusedSimpArgs false

theorem info_pr : (Try.prog.info? 67).map (fun i => (i.zero, i.size, i.bytes)) = some (some (.agg #[.int .i64 0, .int .i64 0]), 2, 16) := by kernel_rfl
theorem run_app0p (w : World) (ty c : Nat) (a : Option Addr) : (Builtin.append_ #[60, 60] ty #[.slice none 0 0, .slice a 0 c]).run Try.prog w = .ok (.slice none 0 0) w := by
  obtain ⟨i0, hi, hz0, hz1, hz2⟩ := info_parts info_pr
  cases a <;> simp [Builtin.append_, run_underlying Try.underlying60, sizeOf, typeInfo, hi, Builtin.lenOf, Builtin.firstCells, loadCells, loadCellsFrom, storeCells]
def prL (A B : Nat → Int) : Nat → List Value
  | 0 => []
  | k + 1 => prL A B k ++ [.int .i64 (A k), .int .i64 (B k)]
theorem prL_len (A B : Nat → Int) : ∀ k, (prL A B k).length = k * 2
  | 0 => rfl
  | k + 1 => by unfold prL; rw [List.length_append, prL_len A B k]; simp; omega
theorem prL_one (A B : Nat → Int) : ∀ k, ∀ u ∈ prL A B k, u.oneCell' = true
  | 0 => fun u h => by simp [prL] at h
  | k + 1 => fun u h => by
    unfold prL at h
    rcases List.mem_append.1 h with h | h
    · exact prL_one A B k u h
    · simp at h
      rcases h with rfl | rfl <;> rfl
theorem prL_rw {w : World} {b off : Nat} {A B : Nat → Int} : ∀ {k : Nat}, Prs w b off k A B → Rw w b off (prL A B k)
  | 0, _ => fun j u h => by simp [prL] at h
  | k + 1, h => fun j u hj => by
    unfold prL at hj
    rcases Nat.lt_or_ge j (k * 2) with h1 | h1
    · rw [List.getElem?_append_left (by rw [prL_len]; exact h1)] at hj
      exact prL_rw (fun i hi => h i (by omega)) j u hj
    · rw [List.getElem?_append_right (by rw [prL_len]; exact h1), prL_len] at hj
      have h2 := h k (by omega) (j - k * 2) u hj
      rwa [show off + k * 2 + (j - k * 2) = off + j by omega] at h2
theorem prL_at {w : World} {b : Nat} {A B : Nat → Int} : ∀ {k : Nat} {N : List Value}, Rw w b 0 (prL A B k ++ N) → Prs w b 0 k A B
  | 0, _, _ => fun i hi => by omega
  | k + 1, N, h => fun i hi => by
    unfold prL at h
    rw [List.append_assoc] at h
    rcases Nat.lt_or_ge i k with h1 | h1
    · exact prL_at h i h1
    · have e : i = k := by omega
      subst e
      intro j v hj
      have hjl : j < 2 := (List.getElem?_eq_some_iff.1 hj).1
      have h2 := h (i * 2 + j) v (by rw [List.getElem?_append_right (by rw [prL_len]; omega), prL_len, Nat.add_sub_cancel_left, List.getElem?_append_left (by simpa using hjl)]; exact hj)
      rwa [← Nat.add_assoc] at h2
theorem app1 (lb lo m lc_ : Nat) (ls : Option Addr) (A B : Nat → Int) (w : World) (hls : m = 0 ∨ ls = some ⟨lb, lo, none⟩) (hlc : m ≤ lc_) (hlm : lc_ ≤ maxLen) (hl : Prs w lb lo m A B) (h16 : m * 16 ≤ 140737488351232) : ∃ v1 w1, (Builtin.append_ #[60, 60] 60 #[.slice none 0 0, .slice ls m lc_]).run Try.prog w = .ok v1 w1 ∧ OwnR 2 w.heap.size w1 v1 m (prL A B m) ∧ Bel w w1 := by
  rcases Nat.eq_zero_or_pos m with h0 | h0
  · subst h0
    exact ⟨_, _, run_app0p w _ _ _, OwnR.nil _ _ _, bl_refl _⟩
  · have e9 : ls = some ⟨lb, lo, none⟩ := by rcases hls with h | h; omega; exact h
    subst e9
    obtain ⟨v', w', hr1, hr2, _, hr4⟩ := run_appR (P := Try.prog) (base := w.heap.size) 60 60 67 Try.underlying60 info_pr rfl lb lo m lc_ (OwnR.nil 2 w.heap.size w) (prL_len A B m) (prL_rw hl) (prL_one A B m) h0 (Nat.le_refl _) (by unfold maxLen; omega) (by omega)
    rw [Nat.zero_add, List.nil_append] at hr2
    exact ⟨v', w', hr1, hr2, hr4 w (bl_refl _) (Nat.le_refl _)⟩
theorem app2 (m : Nat) (A B : Nat → Int) (w w1 : World) (v1 : Value) (hO : OwnR 2 w.heap.size w1 v1 m (prL A B m)) (hB : Bel w w1) (h16 : m * 16 ≤ 140737488351232) : ∃ ob cap w2, (Builtin.append_ #[60, 60] 60 #[v1, .slice (some ⟨w1.heap.size, 0, none⟩) 1 1]).run Try.prog (w1.alloc (.cells #[.int .i64 (-77), .int .i64 (-78)] 67)) = .ok (.slice (some ⟨ob, 0, none⟩) (m + 1) cap) w2 ∧ m + 1 ≤ cap ∧ cap ≤ maxLen ∧ Prs w2 ob 0 m A B ∧ w2.rangeAt ob (m * 2) [.int .i64 (-77), .int .i64 (-78)] ∧ Bel w w2 := by
  have hb : Bel w1 (w1.alloc (.cells #[.int .i64 (-77), .int .i64 (-78)] 67)) := bl_alloc (bl_refl _) _ _
  obtain ⟨v', w', hr1, hr2, ⟨g, cap, rfl⟩, hr4⟩ := run_appR (P := Try.prog) 60 60 67 Try.underlying60 info_pr rfl w1.heap.size 0 1 1 (hO.bel hb) (N := [.int .i64 (-77), .int .i64 (-78)]) rfl (rng_new w1 [.int .i64 (-77), .int .i64 (-78)] 67) (by intro u hu; simp at hu; rcases hu with rfl | rfl <;> rfl) (by decide) (by have := (bl_trans hB hb).size; omega) (by unfold maxLen; omega) (by omega)
  rcases hr2.2 with ⟨h2, _⟩ | ⟨k, c, e, h1, h2, h3, h4, h5, h6⟩
  · cases h2
  · injection e with e1 e2 e3
    injection e1 with e4
    injection e4 with e5
    subst e3 e5
    refine ⟨g, cap, w', hr1, h2, h3, prL_at h4, ?_, hr4 w (bl_trans hB hb) (Nat.le_refl _)⟩
    intro j v hj
    have h7 := h4 (m * 2 + j) v (by rw [List.getElem?_append_right (by rw [prL_len]; omega), prL_len, Nat.add_sub_cancel_left]; exact hj)
    rwa [Nat.zero_add] at h7
set_option maxRecDepth 100000 in
set_option maxHeartbeats 4000000 in
theorem ij_great (n : Int) (lb lo m lc_ : Nat) (ls : Option Addr) (A B : Nat → Int) (w : World) (h : (5000 < n ∧ n ≤ 16384) ∨ (5000 < m ∧ m ≤ 65536)) : Calls Try.prog 4 #[.int .i64 n, .slice ls m lc_] w fun e w' => e = .returned (.bool true) ∧ Bel w w' := by
  by_cases h1 : 5000 < n
  · by_cases h2 : n ≤ 16384
    · go_enter Try.func4, Try.ntmps4
      repeat (first | go_values | go_skip | go_guarded | go_step | go_upon | go_back | dsimp only)
      go_ret
      exact ⟨rfl, bl_refl _⟩
    · have h3 : (5000 : Int) < (m : Int) := by omega
      have h4 : (m : Int) ≤ 65536 := by omega
      go_enter Try.func4, Try.ntmps4
      repeat (first | go_values | go_skip | go_guarded | go_step | go_upon | go_back | dsimp only)
      go_ret
      exact ⟨rfl, bl_refl _⟩
  · have h3 : (5000 : Int) < (m : Int) := by omega
    have h4 : (m : Int) ≤ 65536 := by omega
    go_enter Try.func4, Try.ntmps4
    repeat (first | go_values | go_skip | go_guarded | go_step | go_upon | go_back | dsimp only)
    go_ret
    exact ⟨rfl, bl_refl _⟩

def Stg (_ : Nat) : Prop := True
theorem two_at {w' : Value} (w : World) (x y : Value) (t : TypeId) (q : Nat) (hq : q < 2) (h0 : q = 0 → w' = x) (h1 : q = 1 → w' = y) : (w.alloc (.cells #[x, y] t)).cell? ⟨w.heap.size, q, none⟩ = some w' := by
  have h := rng_new w [x, y] t
  rcases (show q = 0 ∨ q = 1 by omega) with rfl | rfl
  · rw [h0 rfl]; exact h 0 x rfl
  · rw [h1 rfl]; exact h 1 y rfl
theorem sameI_nil (w : World) : Calls Try.prog 15 #[.slice none 0 0, .slice none 0 0] w fun e w' => e = .returned (.bool true) ∧ Bel w w' :=
  sameI_w 0 0 0 0 0 0 0 none none (fun _ => 0) (fun _ => 0) w (.inl rfl) (Nat.le_refl _) (.inl rfl) (Nat.le_refl _) (by omega) (fun i hi => by omega) (fun i hi => by omega) (fun _ _ => rfl)
theorem apart_nil (w8 w : World) (B5 : Bel w w8) : Calls Try.prog 18 #[.slice (some ⟨w8.heap.size, 0, none⟩) 2 2] (w8.alloc (.cells #[.slice none 0 0, .slice none 0 0] 63)) fun e w' => e = .returned (.bool true) ∧ Bel w w' :=
  apart_w w8.heap.size 0 (fun _ => none) (fun q => w8.heap.size + 1 + q) (fun _ _ => 0) (w8.alloc (.cells #[.slice none 0 0, .slice none 0 0] 63)) w (by omega) (fun q hq => two_at w8 (.slice none 0 0) (.slice none 0 0) 63 q hq (fun _ => rfl) (fun _ => rfl)) (fun q hq => .inl ⟨rfl, rfl⟩) (fun q hq => ⟨fun i hi => by omega, fun i hi => by omega⟩) (fun p q hp hq h => by omega) (fun q hq => by omega) (bl_alloc B5 _ _) (fun q hq => by have := B5.size; omega)

set_option maxRecDepth 100000 in
set_option maxHeartbeats 4000000 in
theorem ij_bad00 (n : Int) (lb lo m lc_ : Nat) (ls : Option Addr) (A B : Nat → Int) (w : World) (hls : m = 0 ∨ ls = some ⟨lb, lo, none⟩) (hlc : m ≤ lc_) (hlm : lc_ ≤ maxLen) (hl : Prs w lb lo m A B) (h16 : m * 16 ≤ 140737488351232) (hg1 : n ≤ 5000) (hg2 : m ≤ 5000) (er : Int) (he : joE n m A B = er) (h0 : er ≠ 0) : Calls Try.prog 4 #[.int .i64 n, .slice ls m lc_] w fun e w' => e = .returned (.bool true) ∧ Bel w w' := by
  obtain ⟨v1, w1, hr1, hO1, hB1⟩ := app1 lb lo m lc_ ls A B w hls hlc hlm hl h16
  obtain ⟨ob, cap, w2, hr2, hcap, hcm, hP2, hN2, hB2⟩ := app2 m A B w w1 v1 hO1 hB1 h16
  clear hO1 hB1
  have hee : (er == er) = true := by simp
  have hcI : (m : Int) ≤ (cap : Int) := by omega
  have hmI : (m : Int) < ((m + 1 : Nat) : Int) := by omega
  have q2 := run_eq2
  have f1 : ¬ 5000 < n := by omega
  have f3 : ¬ (5000 : Int) < (m : Int) := by omega
  have t1 : Stg 1 := trivial
  go_enter Try.func4, Try.ntmps4
  repeat (first | ((with_reducible show wpList _ _ _ ({ dst := some 30, op := _, type := _, pos := _, after := _, guard := _ } :: _) _ _); at_builtin; refine wpList_runX 60 rfl (.tmp 28) (.tmp 29) rfl rfl rfl hr1 ?_) | ((with_reducible show wpList _ _ _ ({ dst := some 34, op := _, type := _, pos := _, after := _, guard := _ } :: _) _ _); at_builtin; refine wpList_runX 60 rfl (.tmp 31) (.tmp 33) rfl rfl rfl hr2 ?_) | (have zz := t1; clear zz t1; go_at_call 12; (with_reducible refine (join_bad n ob 0 m cap (some ⟨ob, 0, none⟩) A B w2 (.inr rfl) (by omega) hcm (hP2) er he h0).mono ?_); rintro e w3 ⟨rfl, hbw3⟩; have t2 : Stg 2 := trivial) | (have zz := t2; clear zz t2; go_at_call 12; (with_reducible refine (join_bad n ob 0 m cap (some ⟨ob, 0, none⟩) A B w3 (.inr rfl) (by omega) hcm (hP2.bel hbw3) er he h0).mono ?_); rintro e w4 ⟨rfl, hbw4⟩; have t3 : Stg 3 := trivial) | (have zz := t3; clear zz t3; go_at_call 16; (with_reducible refine (rjoin_bad n lb lo m lc_ ls A B w4 hls hlc hlm (hl.bel (bl_trans (bl_trans hB2 hbw3) hbw4)) er he h0).mono ?_); rintro e w5 ⟨rfl, hbw5⟩; have B5 := bl_trans (bl_trans (bl_trans hB2 hbw3) hbw4) hbw5; have P5 := hP2.bel (bl_trans (bl_trans hbw3 hbw4) hbw5); have N5 := rng_bel hN2 (bl_trans (bl_trans hbw3 hbw4) hbw5); have t4 : Stg 4 := trivial) | (have zz := t4; clear zz t4; go_at_call 15; (with_reducible refine (sameI_nil _).mono ?_); rintro e w6 ⟨rfl, hbw6⟩; replace B5 := bl_trans B5 hbw6; replace P5 := P5.bel hbw6; replace N5 := rng_bel N5 hbw6; have t5 : Stg 5 := trivial) | (have zz := t5; clear zz t5; go_at_call 15; (with_reducible refine (sameI_nil _).mono ?_); rintro e w7 ⟨rfl, hbw7⟩; replace B5 := bl_trans B5 hbw7; replace P5 := P5.bel hbw7; replace N5 := rng_bel N5 hbw7; have t6 : Stg 6 := trivial) | (have zz := t6; clear zz t6; go_at_call 17; (with_reducible refine (sameP_w ob 0 cap lb lo lc_ m (some ⟨ob, 0, none⟩) ls A B A B _ (.inr rfl) (by omega) hls hlc (by unfold maxLen at hlm; omega) P5 (hl.bel B5) (fun i _ => ⟨rfl, rfl⟩)).mono ?_); rintro e w8 ⟨rfl, hbw8⟩; replace B5 := bl_trans B5 hbw8; replace P5 := P5.bel hbw8; replace N5 := rng_bel N5 hbw8; (have z0 : w8.cell? ⟨ob, m * 2, none⟩ = some (.int .i64 (-77)) := N5 0 _ rfl); (have z1 : w8.cell? ⟨ob, m * 2 + 1, none⟩ = some (.int .i64 (-78)) := N5 1 _ rfl); have t7 : Stg 7 := trivial) | (have zz := t7; clear zz t7; go_at_call 18; (with_reducible refine (apart_nil w8 w B5).mono ?_); rintro e w9 ⟨rfl, hbw9⟩) | go_values | go_skip | go_guarded | go_step | go_upon | go_back | dsimp only)
  go_ret
  exact ⟨rfl, hbw9⟩

set_option maxRecDepth 100000 in
set_option maxHeartbeats 4000000 in
theorem ij_bad01 (n : Int) (lb lo m lc_ : Nat) (ls : Option Addr) (A B : Nat → Int) (w : World) (hls : m = 0 ∨ ls = some ⟨lb, lo, none⟩) (hlc : m ≤ lc_) (hlm : lc_ ≤ maxLen) (hl : Prs w lb lo m A B) (h16 : m * 16 ≤ 140737488351232) (hg1 : n ≤ 5000) (hg2 : 65536 < m) (er : Int) (he : joE n m A B = er) (h0 : er ≠ 0) : Calls Try.prog 4 #[.int .i64 n, .slice ls m lc_] w fun e w' => e = .returned (.bool true) ∧ Bel w w' := by
  obtain ⟨v1, w1, hr1, hO1, hB1⟩ := app1 lb lo m lc_ ls A B w hls hlc hlm hl h16
  obtain ⟨ob, cap, w2, hr2, hcap, hcm, hP2, hN2, hB2⟩ := app2 m A B w w1 v1 hO1 hB1 h16
  clear hO1 hB1
  have hee : (er == er) = true := by simp
  have hcI : (m : Int) ≤ (cap : Int) := by omega
  have hmI : (m : Int) < ((m + 1 : Nat) : Int) := by omega
  have q2 := run_eq2
  have f1 : ¬ 5000 < n := by omega
  have f3 : (5000 : Int) < (m : Int) := by omega
  have f4 : ¬ (m : Int) ≤ 65536 := by omega
  have t1 : Stg 1 := trivial
  go_enter Try.func4, Try.ntmps4
  repeat (first | ((with_reducible show wpList _ _ _ ({ dst := some 30, op := _, type := _, pos := _, after := _, guard := _ } :: _) _ _); at_builtin; refine wpList_runX 60 rfl (.tmp 28) (.tmp 29) rfl rfl rfl hr1 ?_) | ((with_reducible show wpList _ _ _ ({ dst := some 34, op := _, type := _, pos := _, after := _, guard := _ } :: _) _ _); at_builtin; refine wpList_runX 60 rfl (.tmp 31) (.tmp 33) rfl rfl rfl hr2 ?_) | (have zz := t1; clear zz t1; go_at_call 12; (with_reducible refine (join_bad n ob 0 m cap (some ⟨ob, 0, none⟩) A B w2 (.inr rfl) (by omega) hcm (hP2) er he h0).mono ?_); rintro e w3 ⟨rfl, hbw3⟩; have t2 : Stg 2 := trivial) | (have zz := t2; clear zz t2; go_at_call 12; (with_reducible refine (join_bad n ob 0 m cap (some ⟨ob, 0, none⟩) A B w3 (.inr rfl) (by omega) hcm (hP2.bel hbw3) er he h0).mono ?_); rintro e w4 ⟨rfl, hbw4⟩; have t3 : Stg 3 := trivial) | (have zz := t3; clear zz t3; go_at_call 16; (with_reducible refine (rjoin_bad n lb lo m lc_ ls A B w4 hls hlc hlm (hl.bel (bl_trans (bl_trans hB2 hbw3) hbw4)) er he h0).mono ?_); rintro e w5 ⟨rfl, hbw5⟩; have B5 := bl_trans (bl_trans (bl_trans hB2 hbw3) hbw4) hbw5; have P5 := hP2.bel (bl_trans (bl_trans hbw3 hbw4) hbw5); have N5 := rng_bel hN2 (bl_trans (bl_trans hbw3 hbw4) hbw5); have t4 : Stg 4 := trivial) | (have zz := t4; clear zz t4; go_at_call 15; (with_reducible refine (sameI_nil _).mono ?_); rintro e w6 ⟨rfl, hbw6⟩; replace B5 := bl_trans B5 hbw6; replace P5 := P5.bel hbw6; replace N5 := rng_bel N5 hbw6; have t5 : Stg 5 := trivial) | (have zz := t5; clear zz t5; go_at_call 15; (with_reducible refine (sameI_nil _).mono ?_); rintro e w7 ⟨rfl, hbw7⟩; replace B5 := bl_trans B5 hbw7; replace P5 := P5.bel hbw7; replace N5 := rng_bel N5 hbw7; have t6 : Stg 6 := trivial) | (have zz := t6; clear zz t6; go_at_call 17; (with_reducible refine (sameP_w ob 0 cap lb lo lc_ m (some ⟨ob, 0, none⟩) ls A B A B _ (.inr rfl) (by omega) hls hlc (by unfold maxLen at hlm; omega) P5 (hl.bel B5) (fun i _ => ⟨rfl, rfl⟩)).mono ?_); rintro e w8 ⟨rfl, hbw8⟩; replace B5 := bl_trans B5 hbw8; replace P5 := P5.bel hbw8; replace N5 := rng_bel N5 hbw8; (have z0 : w8.cell? ⟨ob, m * 2, none⟩ = some (.int .i64 (-77)) := N5 0 _ rfl); (have z1 : w8.cell? ⟨ob, m * 2 + 1, none⟩ = some (.int .i64 (-78)) := N5 1 _ rfl); have t7 : Stg 7 := trivial) | (have zz := t7; clear zz t7; go_at_call 18; (with_reducible refine (apart_nil w8 w B5).mono ?_); rintro e w9 ⟨rfl, hbw9⟩) | go_values | go_skip | go_guarded | go_step | go_upon | go_back | dsimp only)
  go_ret
  exact ⟨rfl, hbw9⟩

set_option maxRecDepth 100000 in
set_option maxHeartbeats 4000000 in
theorem ij_bad10 (n : Int) (lb lo m lc_ : Nat) (ls : Option Addr) (A B : Nat → Int) (w : World) (hls : m = 0 ∨ ls = some ⟨lb, lo, none⟩) (hlc : m ≤ lc_) (hlm : lc_ ≤ maxLen) (hl : Prs w lb lo m A B) (h16 : m * 16 ≤ 140737488351232) (hg1 : 16384 < n) (hg2 : m ≤ 5000) (er : Int) (he : joE n m A B = er) (h0 : er ≠ 0) : Calls Try.prog 4 #[.int .i64 n, .slice ls m lc_] w fun e w' => e = .returned (.bool true) ∧ Bel w w' := by
  obtain ⟨v1, w1, hr1, hO1, hB1⟩ := app1 lb lo m lc_ ls A B w hls hlc hlm hl h16
  obtain ⟨ob, cap, w2, hr2, hcap, hcm, hP2, hN2, hB2⟩ := app2 m A B w w1 v1 hO1 hB1 h16
  clear hO1 hB1
  have hee : (er == er) = true := by simp
  have hcI : (m : Int) ≤ (cap : Int) := by omega
  have hmI : (m : Int) < ((m + 1 : Nat) : Int) := by omega
  have q2 := run_eq2
  have f1 : 5000 < n := by omega
  have f2 : ¬ n ≤ 16384 := by omega
  have f3 : ¬ (5000 : Int) < (m : Int) := by omega
  have t1 : Stg 1 := trivial
  go_enter Try.func4, Try.ntmps4
  repeat (first | ((with_reducible show wpList _ _ _ ({ dst := some 30, op := _, type := _, pos := _, after := _, guard := _ } :: _) _ _); at_builtin; refine wpList_runX 60 rfl (.tmp 28) (.tmp 29) rfl rfl rfl hr1 ?_) | ((with_reducible show wpList _ _ _ ({ dst := some 34, op := _, type := _, pos := _, after := _, guard := _ } :: _) _ _); at_builtin; refine wpList_runX 60 rfl (.tmp 31) (.tmp 33) rfl rfl rfl hr2 ?_) | (have zz := t1; clear zz t1; go_at_call 12; (with_reducible refine (join_bad n ob 0 m cap (some ⟨ob, 0, none⟩) A B w2 (.inr rfl) (by omega) hcm (hP2) er he h0).mono ?_); rintro e w3 ⟨rfl, hbw3⟩; have t2 : Stg 2 := trivial) | (have zz := t2; clear zz t2; go_at_call 12; (with_reducible refine (join_bad n ob 0 m cap (some ⟨ob, 0, none⟩) A B w3 (.inr rfl) (by omega) hcm (hP2.bel hbw3) er he h0).mono ?_); rintro e w4 ⟨rfl, hbw4⟩; have t3 : Stg 3 := trivial) | (have zz := t3; clear zz t3; go_at_call 16; (with_reducible refine (rjoin_bad n lb lo m lc_ ls A B w4 hls hlc hlm (hl.bel (bl_trans (bl_trans hB2 hbw3) hbw4)) er he h0).mono ?_); rintro e w5 ⟨rfl, hbw5⟩; have B5 := bl_trans (bl_trans (bl_trans hB2 hbw3) hbw4) hbw5; have P5 := hP2.bel (bl_trans (bl_trans hbw3 hbw4) hbw5); have N5 := rng_bel hN2 (bl_trans (bl_trans hbw3 hbw4) hbw5); have t4 : Stg 4 := trivial) | (have zz := t4; clear zz t4; go_at_call 15; (with_reducible refine (sameI_nil _).mono ?_); rintro e w6 ⟨rfl, hbw6⟩; replace B5 := bl_trans B5 hbw6; replace P5 := P5.bel hbw6; replace N5 := rng_bel N5 hbw6; have t5 : Stg 5 := trivial) | (have zz := t5; clear zz t5; go_at_call 15; (with_reducible refine (sameI_nil _).mono ?_); rintro e w7 ⟨rfl, hbw7⟩; replace B5 := bl_trans B5 hbw7; replace P5 := P5.bel hbw7; replace N5 := rng_bel N5 hbw7; have t6 : Stg 6 := trivial) | (have zz := t6; clear zz t6; go_at_call 17; (with_reducible refine (sameP_w ob 0 cap lb lo lc_ m (some ⟨ob, 0, none⟩) ls A B A B _ (.inr rfl) (by omega) hls hlc (by unfold maxLen at hlm; omega) P5 (hl.bel B5) (fun i _ => ⟨rfl, rfl⟩)).mono ?_); rintro e w8 ⟨rfl, hbw8⟩; replace B5 := bl_trans B5 hbw8; replace P5 := P5.bel hbw8; replace N5 := rng_bel N5 hbw8; (have z0 : w8.cell? ⟨ob, m * 2, none⟩ = some (.int .i64 (-77)) := N5 0 _ rfl); (have z1 : w8.cell? ⟨ob, m * 2 + 1, none⟩ = some (.int .i64 (-78)) := N5 1 _ rfl); have t7 : Stg 7 := trivial) | (have zz := t7; clear zz t7; go_at_call 18; (with_reducible refine (apart_nil w8 w B5).mono ?_); rintro e w9 ⟨rfl, hbw9⟩) | go_values | go_skip | go_guarded | go_step | go_upon | go_back | dsimp only)
  go_ret
  exact ⟨rfl, hbw9⟩

set_option maxRecDepth 100000 in
set_option maxHeartbeats 4000000 in
theorem ij_bad11 (n : Int) (lb lo m lc_ : Nat) (ls : Option Addr) (A B : Nat → Int) (w : World) (hls : m = 0 ∨ ls = some ⟨lb, lo, none⟩) (hlc : m ≤ lc_) (hlm : lc_ ≤ maxLen) (hl : Prs w lb lo m A B) (h16 : m * 16 ≤ 140737488351232) (hg1 : 16384 < n) (hg2 : 65536 < m) (er : Int) (he : joE n m A B = er) (h0 : er ≠ 0) : Calls Try.prog 4 #[.int .i64 n, .slice ls m lc_] w fun e w' => e = .returned (.bool true) ∧ Bel w w' := by
  obtain ⟨v1, w1, hr1, hO1, hB1⟩ := app1 lb lo m lc_ ls A B w hls hlc hlm hl h16
  obtain ⟨ob, cap, w2, hr2, hcap, hcm, hP2, hN2, hB2⟩ := app2 m A B w w1 v1 hO1 hB1 h16
  clear hO1 hB1
  have hee : (er == er) = true := by simp
  have hcI : (m : Int) ≤ (cap : Int) := by omega
  have hmI : (m : Int) < ((m + 1 : Nat) : Int) := by omega
  have q2 := run_eq2
  have f1 : 5000 < n := by omega
  have f2 : ¬ n ≤ 16384 := by omega
  have f3 : (5000 : Int) < (m : Int) := by omega
  have f4 : ¬ (m : Int) ≤ 65536 := by omega
  have t1 : Stg 1 := trivial
  go_enter Try.func4, Try.ntmps4
  repeat (first | ((with_reducible show wpList _ _ _ ({ dst := some 30, op := _, type := _, pos := _, after := _, guard := _ } :: _) _ _); at_builtin; refine wpList_runX 60 rfl (.tmp 28) (.tmp 29) rfl rfl rfl hr1 ?_) | ((with_reducible show wpList _ _ _ ({ dst := some 34, op := _, type := _, pos := _, after := _, guard := _ } :: _) _ _); at_builtin; refine wpList_runX 60 rfl (.tmp 31) (.tmp 33) rfl rfl rfl hr2 ?_) | (have zz := t1; clear zz t1; go_at_call 12; (with_reducible refine (join_bad n ob 0 m cap (some ⟨ob, 0, none⟩) A B w2 (.inr rfl) (by omega) hcm (hP2) er he h0).mono ?_); rintro e w3 ⟨rfl, hbw3⟩; have t2 : Stg 2 := trivial) | (have zz := t2; clear zz t2; go_at_call 12; (with_reducible refine (join_bad n ob 0 m cap (some ⟨ob, 0, none⟩) A B w3 (.inr rfl) (by omega) hcm (hP2.bel hbw3) er he h0).mono ?_); rintro e w4 ⟨rfl, hbw4⟩; have t3 : Stg 3 := trivial) | (have zz := t3; clear zz t3; go_at_call 16; (with_reducible refine (rjoin_bad n lb lo m lc_ ls A B w4 hls hlc hlm (hl.bel (bl_trans (bl_trans hB2 hbw3) hbw4)) er he h0).mono ?_); rintro e w5 ⟨rfl, hbw5⟩; have B5 := bl_trans (bl_trans (bl_trans hB2 hbw3) hbw4) hbw5; have P5 := hP2.bel (bl_trans (bl_trans hbw3 hbw4) hbw5); have N5 := rng_bel hN2 (bl_trans (bl_trans hbw3 hbw4) hbw5); have t4 : Stg 4 := trivial) | (have zz := t4; clear zz t4; go_at_call 15; (with_reducible refine (sameI_nil _).mono ?_); rintro e w6 ⟨rfl, hbw6⟩; replace B5 := bl_trans B5 hbw6; replace P5 := P5.bel hbw6; replace N5 := rng_bel N5 hbw6; have t5 : Stg 5 := trivial) | (have zz := t5; clear zz t5; go_at_call 15; (with_reducible refine (sameI_nil _).mono ?_); rintro e w7 ⟨rfl, hbw7⟩; replace B5 := bl_trans B5 hbw7; replace P5 := P5.bel hbw7; replace N5 := rng_bel N5 hbw7; have t6 : Stg 6 := trivial) | (have zz := t6; clear zz t6; go_at_call 17; (with_reducible refine (sameP_w ob 0 cap lb lo lc_ m (some ⟨ob, 0, none⟩) ls A B A B _ (.inr rfl) (by omega) hls hlc (by unfold maxLen at hlm; omega) P5 (hl.bel B5) (fun i _ => ⟨rfl, rfl⟩)).mono ?_); rintro e w8 ⟨rfl, hbw8⟩; replace B5 := bl_trans B5 hbw8; replace P5 := P5.bel hbw8; replace N5 := rng_bel N5 hbw8; (have z0 : w8.cell? ⟨ob, m * 2, none⟩ = some (.int .i64 (-77)) := N5 0 _ rfl); (have z1 : w8.cell? ⟨ob, m * 2 + 1, none⟩ = some (.int .i64 (-78)) := N5 1 _ rfl); have t7 : Stg 7 := trivial) | (have zz := t7; clear zz t7; go_at_call 18; (with_reducible refine (apart_nil w8 w B5).mono ?_); rintro e w9 ⟨rfl, hbw9⟩) | go_values | go_skip | go_guarded | go_step | go_upon | go_back | dsimp only)
  go_ret
  exact ⟨rfl, hbw9⟩

theorem sameI_ok (n g g' : Nat) (f f' : Nat → Nat) (w : World) (hn : n ≤ 5000) (h : IntM w g n (nI f)) (h' : IntM w g' n (nI f')) (he : ∀ i, i < n → f i = f' i) : Calls Try.prog 15 #[.slice (some ⟨g, 0, none⟩) n n, .slice (some ⟨g', 0, none⟩) n n] w fun e w' => e = .returned (.bool true) ∧ Bel w w' :=
  sameI_w g 0 n g' 0 n n (some ⟨g, 0, none⟩) (some ⟨g', 0, none⟩) (nI f) (nI f') w (.inr rfl) (Nat.le_refl _) (.inr rfl) (Nat.le_refl _) (by omega) h.r h'.r (fun i hi => by unfold nI; rw [he i hi])
theorem apart_two (n g1 g2 : Nat) (X1 X2 : Nat → Int) (w8 w : World) (hn : n ≤ 5000) (B5 : Bel w w8) (h1 : IntM w8 g1 n X1) (h2 : IntM w8 g2 n X2) (hlt : g1 < g2) (hz : g2 < w8.heap.size) (hw1 : w.heap.size ≤ g1) (hw2 : w.heap.size ≤ g2) : Calls Try.prog 18 #[.slice (some ⟨w8.heap.size, 0, none⟩) 2 2] (w8.alloc (.cells #[.slice (some ⟨g1, 0, none⟩) n n, .slice (some ⟨g2, 0, none⟩) n n] 63)) fun e w' => e = .returned (.bool true) ∧ Bel w w' := by
  have hb : Bel w8 (w8.alloc (.cells #[.slice (some ⟨g1, 0, none⟩) n n, .slice (some ⟨g2, 0, none⟩) n n] 63)) := bl_alloc (bl_refl _) _ _
  refine apart_w w8.heap.size n (fun q => some ⟨if q = 0 then g1 else g2, 0, none⟩) (fun q => if q = 0 then g1 else g2) (fun q => if q = 0 then X1 else X2) (w8.alloc (.cells #[.slice (some ⟨g1, 0, none⟩) n n, .slice (some ⟨g2, 0, none⟩) n n] 63)) w (by omega) (fun q hq => two_at w8 (.slice (some ⟨g1, 0, none⟩) n n) (.slice (some ⟨g2, 0, none⟩) n n) 63 q hq ?_ ?_) (fun q hq => .inr rfl) (fun q hq => ?_) (fun p q hp hq h => ?_) (fun q hq => ?_) (bl_trans B5 hb) (fun q hq => ?_)
  · rintro rfl; rfl
  · rintro rfl; rfl
  · rcases (show q = 0 ∨ q = 1 by omega) with rfl | rfl
    · exact h1.bel hb
    · exact h2.bel hb
  · skip
    split <;> split <;> omega
  · skip
    split <;> omega
  · skip
    split <;> omega
set_option maxRecDepth 100000 in
set_option maxHeartbeats 4000000 in
theorem ij_ok (n : Nat) (lb lo m lc_ : Nat) (ls : Option Addr) (A B : Nat → Int) (w : World) (hls : m = 0 ∨ ls = some ⟨lb, lo, none⟩) (hlc : m ≤ lc_) (hlm : lc_ ≤ maxLen) (hl : Prs w lb lo m A B) (h16 : m * 16 ≤ 140737488351232) (hg1 : (n : Int) ≤ 5000 ∨ 16384 < (n : Int)) (hg2 : m ≤ 5000 ∨ 65536 < m) (he : joE n m A B = 0) : Calls Try.prog 4 #[.int .i64 n, .slice ls m lc_] w fun e w' => e = .returned (.bool true) ∧ Bel w w' := by
  obtain ⟨v1, v2, v3, v4⟩ := joE_zero he
  have hn5 : n ≤ 5000 := by omega
  obtain ⟨v1, w1, hr1, hO1, hB1⟩ := app1 lb lo m lc_ ls A B w hls hlc hlm hl h16
  obtain ⟨ob, cap, w2, hr2, hcap, hcm, hP2, hN2, hB2⟩ := app2 m A B w w1 v1 hO1 hB1 h16
  clear hO1 hB1 v4
  have hcI : (m : Int) ≤ (cap : Int) := by omega
  have hmI : (m : Int) < ((m + 1 : Nat) : Int) := by omega
  have q2 := run_eq2
  have fq1 : ¬ (5000 : Int) < (n : Int) := by omega
  have fq3 : ¬ (5000 : Int) < (m : Int) := by omega
  have t1 : Stg 1 := trivial
  go_enter Try.func4, Try.ntmps4
  repeat (first | ((with_reducible show wpList _ _ _ ({ dst := some 30, op := _, type := _, pos := _, after := _, guard := _ } :: _) _ _); at_builtin; refine wpList_runX 60 rfl (.tmp 28) (.tmp 29) rfl rfl rfl hr1 ?_) | ((with_reducible show wpList _ _ _ ({ dst := some 34, op := _, type := _, pos := _, after := _, guard := _ } :: _) _ _); at_builtin; refine wpList_runX 60 rfl (.tmp 31) (.tmp 33) rfl rfl rfl hr2 ?_) | (have zz := t1; clear zz t1; go_at_call 12; (with_reducible refine (join_ok n ob 0 m cap (some ⟨ob, 0, none⟩) A B w2 (.inr rfl) (by omega) hcm (hP2) he).mono ?_); rintro e w3 ⟨g1, f1, hg1, hI1, hL1, hz1, rfl, hbw3⟩; have t2 : Stg 2 := trivial) | (have zz := t2; clear zz t2; go_at_call 12; (with_reducible refine (join_ok n ob 0 m cap (some ⟨ob, 0, none⟩) A B w3 (.inr rfl) (by omega) hcm (hP2.bel hbw3) he).mono ?_); rintro e w4 ⟨g2, f2, hg2, hI2, hL2, hz2, rfl, hbw4⟩; have t3 : Stg 3 := trivial) | (have zz := t3; clear zz t3; go_at_call 16; (with_reducible refine (rjoin_ok n lb lo m lc_ ls A B w4 hls hlc hlm (hl.bel (bl_trans (bl_trans hB2 hbw3) hbw4)) he).mono ?_); rintro e w5 ⟨g3, f3, hg3, hI3, hL3, hz3, rfl, hbw5⟩; have B5 := bl_trans (bl_trans (bl_trans hB2 hbw3) hbw4) hbw5; have P5 := hP2.bel (bl_trans (bl_trans hbw3 hbw4) hbw5); have N5 := rng_bel hN2 (bl_trans (bl_trans hbw3 hbw4) hbw5); replace hI1 := hI1.bel (bl_trans hbw4 hbw5); replace hI2 := hI2.bel hbw5; have t4 : Stg 4 := trivial) | (have zz := t4; clear zz t4; go_at_call 15; (with_reducible refine (sameI_ok n g1 g3 f1 f3 _ hn5 hI1 hI3 (fun i hi => hL1.uniq hL3 i hi)).mono ?_); rintro e w6 ⟨rfl, hbw6⟩; replace B5 := bl_trans B5 hbw6; replace P5 := P5.bel hbw6; replace N5 := rng_bel N5 hbw6; replace hI1 := hI1.bel hbw6; replace hI2 := hI2.bel hbw6; replace hI3 := hI3.bel hbw6; have t5 : Stg 5 := trivial) | (have zz := t5; clear zz t5; go_at_call 15; (with_reducible refine (sameI_ok n g2 g3 f2 f3 _ hn5 hI2 hI3 (fun i hi => hL2.uniq hL3 i hi)).mono ?_); rintro e w7 ⟨rfl, hbw7⟩; replace B5 := bl_trans B5 hbw7; replace P5 := P5.bel hbw7; replace N5 := rng_bel N5 hbw7; replace hI1 := hI1.bel hbw7; replace hI2 := hI2.bel hbw7; replace hI3 := hI3.bel hbw7; have t6 : Stg 6 := trivial) | (have zz := t6; clear zz t6; go_at_call 17; (with_reducible refine (sameP_w ob 0 cap lb lo lc_ m (some ⟨ob, 0, none⟩) ls A B A B _ (.inr rfl) (by omega) hls hlc (by unfold maxLen at hlm; omega) P5 (hl.bel B5) (fun i _ => ⟨rfl, rfl⟩)).mono ?_); rintro e w8 ⟨rfl, hbw8⟩; replace B5 := bl_trans B5 hbw8; replace P5 := P5.bel hbw8; replace N5 := rng_bel N5 hbw8; replace hI1 := hI1.bel hbw8; replace hI2 := hI2.bel hbw8; (have z0 : w8.cell? ⟨ob, m * 2, none⟩ = some (.int .i64 (-77)) := N5 0 _ rfl); (have z1 : w8.cell? ⟨ob, m * 2 + 1, none⟩ = some (.int .i64 (-78)) := N5 1 _ rfl); have t7 : Stg 7 := trivial) | (have zz := t7; clear zz t7; go_at_call 18; (with_reducible refine (apart_two n g1 g2 (nI f1) (nI f2) w8 w hn5 B5 hI1 hI2 (by omega) (by have := hbw5.size; have := hbw6.size; have := hbw7.size; have := hbw8.size; omega) (by have := hB2.size; omega) (by have := (bl_trans hB2 hbw3).size; omega)).mono ?_); rintro e w9 ⟨rfl, hbw9⟩) | go_values | go_skip | go_guarded | go_step | go_upon | go_back | dsimp only)
  go_ret
  exact ⟨rfl, hbw9⟩
theorem ij_any (n : Int) (lb lo m lc_ : Nat) (ls : Option Addr) (A B : Nat → Int) (w : World) (hls : m = 0 ∨ ls = some ⟨lb, lo, none⟩) (hlc : m ≤ lc_) (hlm : lc_ ≤ maxLen) (hl : Prs w lb lo m A B) (h16 : m * 16 ≤ 140737488351232) : Calls Try.prog 4 #[.int .i64 n, .slice ls m lc_] w fun e w' => e = .returned (.bool true) ∧ Bel w w' := by
  by_cases hg : (5000 < n ∧ n ≤ 16384) ∨ (5000 < m ∧ m ≤ 65536)
  · exact ij_great n lb lo m lc_ ls A B w hg
  have hg1 : n ≤ 5000 ∨ 16384 < n := by omega
  have hg2 : m ≤ 5000 ∨ 65536 < m := by omega
  obtain ⟨er, he⟩ : ∃ er, joE n m A B = er := ⟨_, rfl⟩
  by_cases h0 : er = 0
  · subst h0
    obtain ⟨k, rfl⟩ : ∃ k : Nat, n = (k : Int) := ⟨n.toNat, by have := (joE_zero he).1; omega⟩
    exact ij_ok k lb lo m lc_ ls A B w hls hlc hlm hl h16 hg1 hg2 he
  · rcases hg1 with a | a <;> rcases hg2 with b | b
    · exact ij_bad00 n lb lo m lc_ ls A B w hls hlc hlm hl h16 a b er he h0
    · exact ij_bad01 n lb lo m lc_ ls A B w hls hlc hlm hl h16 a b er he h0
    · exact ij_bad10 n lb lo m lc_ ls A B w hls hlc hlm hl h16 a b er he h0
    · exact ij_bad11 n lb lo m lc_ ls A B w hls hlc hlm hl h16 a b er he h0

end Go.Proofs.Ytmphpmkhddnfdaa
