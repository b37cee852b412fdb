/-
  What each function of package island that Join reaches answers, and what the reference of its chapter answers: one contract a function.
-/
import Derived.Test.YtmphpmkhddnfdaaIc
import Derived.Test.YtmphpmkhddnfdaaChecked
import Derived.Below
import Derived.OwnWalk
import Derived.Laws.AppendOwn
import Derived.Lib.SliceRun
import Derived.Laws.MakeOwn
import Derived.WalkKit
import Derived.WalkLawsBesides
import Derived.WalkSpells
import Derived.ProofKit
import Derived.OpenShut
import Derived.Deep.RegionHeld3
import Derived.Deep.MidRow
import Derived.Laws.EntriesVeiled
import Derived.BigQuiet
import Derived.ChangeKeysEq
namespace Go.Proofs.Ytmphpmkhddnfdaa
open Go.ChangeShapes Go.WideShapes Go.ChangeAt Go.RowKit
set_option linter.unusedVariables false
set_option linter.unusedSimpArgs false

def anyN (p : Nat → Bool) : Nat → Bool
  | 0 => false
  | k + 1 => anyN p k || p k
theorem anyN_at {p : Nat → Bool} {k : Nat} (h : p k = true) : ∀ {n : Nat}, k < n → anyN p n = true
  | 0, hk => by omega
  | n + 1, hk => by
    unfold anyN
    rcases Nat.lt_or_ge k n with g | g
    · rw [anyN_at h g]; rfl
    · have e : k = n := by omega
      subst e; rw [h]; simp
theorem anyN_no {p : Nat → Bool} : ∀ {n : Nat}, anyN p n = false → ∀ k, k < n → p k = false
  | 0, _, k, hk => by omega
  | n + 1, h, k, hk => by
    unfold anyN at h
    rw [Bool.or_eq_false_iff] at h
    rcases Nat.lt_or_ge k n with g | g
    · exact anyN_no h.1 k g
    · have e : k = n := by omega
      subst e; exact h.2
/-- is a link wrong -/
def badP (a b n : Int) : Bool := decide (a < 0 ∨ b < 0 ∨ n ≤ a ∨ n ≤ b)
set_option maxRecDepth 100000 in
set_option maxHeartbeats 4000000 in
theorem cloJ_w (a b n : Int) (c : Nat) (w : World) (hc : w.cell? ⟨c, 0, none⟩ = some (.int .i64 n)) : Calls Try.prog 31 #[.agg #[.int .i64 a, .int .i64 b], .pointer (some ⟨c, 0, none⟩)] w fun e w' => e = .returned (.bool (badP a b n)) ∧ Bel w w' := by
  have B0 : Bel w (w.alloc (.cells #[.int .i64 a, .int .i64 b] 67)) := bl_alloc (bl_refl w) _ _
  have hR : (w.alloc (.cells #[.int .i64 a, .int .i64 b] 67)).rangeAt w.heap.size 0 [.int .i64 a, .int .i64 b] := rng_new w [.int .i64 a, .int .i64 b] 67
  have k0 : (w.alloc (.cells #[.int .i64 a, .int .i64 b] 67)).cell? ⟨w.heap.size, 0, none⟩ = some (.int .i64 a) := hR 0 _ rfl
  have k1 : (w.alloc (.cells #[.int .i64 a, .int .i64 b] 67)).cell? ⟨w.heap.size, 1, none⟩ = some (.int .i64 b) := hR 1 _ rfl
  have c0 := keep B0 hc
  rcases Int.lt_trichotomy a b with hab | hab | hab
  · have h1 : ¬ b < a := by omega
    have h2 : ¬ b ≤ a := by omega
    have h3 : a ≤ b := by omega
    by_cases g1 : a < 0
    · have eb : badP a b n = true := by unfold badP; simp; omega
      go_enter Try.func31, Try.ntmps31
      repeat (first | go_values | go_skip | go_guarded | go_step | go_upon | go_back | dsimp only)
      go_ret
      exact ⟨by first | (rw [eb]; done) | (rw [eb]; rfl), B0⟩
    · by_cases g2 : n ≤ b
      · have eb : badP a b n = true := by unfold badP; simp; omega
        have g3 : ¬ b < n := by omega
        go_enter Try.func31, Try.ntmps31
        repeat (first | go_values | go_skip | go_guarded | go_step | go_upon | go_back | dsimp only)
        go_ret
        exact ⟨by first | (rw [eb]; done) | (rw [eb]; rfl), B0⟩
      · have eb : badP a b n = false := by unfold badP; simp; omega
        have g3 : b < n := by omega
        go_enter Try.func31, Try.ntmps31
        repeat (first | go_values | go_skip | go_guarded | go_step | go_upon | go_back | dsimp only)
        go_ret
        exact ⟨by first | (rw [eb]; done) | (rw [eb]; rfl), B0⟩
  · subst hab
    by_cases g1 : a < 0
    · have eb : badP a a n = true := by unfold badP; simp; omega
      go_enter Try.func31, Try.ntmps31
      repeat (first | go_values | go_skip | go_guarded | go_step | go_upon | go_back | dsimp only)
      go_ret
      exact ⟨by first | (rw [eb]; done) | (rw [eb]; rfl), B0⟩
    · by_cases g2 : n ≤ a
      · have eb : badP a a n = true := by unfold badP; simp; omega
        have g3 : ¬ a < n := by omega
        go_enter Try.func31, Try.ntmps31
        repeat (first | go_values | go_skip | go_guarded | go_step | go_upon | go_back | dsimp only)
        go_ret
        exact ⟨by first | (rw [eb]; done) | (rw [eb]; rfl), B0⟩
      · have eb : badP a a n = false := by unfold badP; simp; omega
        have g3 : a < n := by omega
        go_enter Try.func31, Try.ntmps31
        repeat (first | go_values | go_skip | go_guarded | go_step | go_upon | go_back | dsimp only)
        go_ret
        exact ⟨by first | (rw [eb]; done) | (rw [eb]; rfl), B0⟩
  · have h1 : ¬ a < b := by omega
    have h2 : ¬ a ≤ b := by omega
    have h3 : b ≤ a := by omega
    by_cases g1 : b < 0
    · have eb : badP a b n = true := by unfold badP; simp; omega
      go_enter Try.func31, Try.ntmps31
      repeat (first | go_values | go_skip | go_guarded | go_step | go_upon | go_back | dsimp only)
      go_ret
      exact ⟨by first | (rw [eb]; done) | (rw [eb]; rfl), B0⟩
    · by_cases g2 : n ≤ a
      · have eb : badP a b n = true := by unfold badP; simp; omega
        have g3 : ¬ a < n := by omega
        go_enter Try.func31, Try.ntmps31
        repeat (first | go_values | go_skip | go_guarded | go_step | go_upon | go_back | dsimp only)
        go_ret
        exact ⟨by first | (rw [eb]; done) | (rw [eb]; rfl), B0⟩
      · have eb : badP a b n = false := by unfold badP; simp; omega
        have g3 : a < n := by omega
        go_enter Try.func31, Try.ntmps31
        repeat (first | go_values | go_skip | go_guarded | go_step | go_upon | go_back | dsimp only)
        go_ret
        exact ⟨by first | (rw [eb]; done) | (rw [eb]; rfl), B0⟩
set_option maxRecDepth 100000 in
set_option maxHeartbeats 4000000 in
theorem idxJ_w (lb lo m lc_ : Nat) (ls : Option Addr) (A B : Nat → Int) (n : Int) (c : Nat) (w : World) (hls : m = 0 ∨ ls = some ⟨lb, lo, none⟩) (hlc : m ≤ lc_) (hlm : lc_ ≤ maxLen) (hl : Prs w lb lo m A B) (hc : w.cell? ⟨c, 0, none⟩ = some (.int .i64 n)) : Calls Try.prog 47 #[.slice ls m lc_, .func (.func 31) #[] #[.pointer (some ⟨c, 0, none⟩)]] w fun e w' => ∃ r : Int, decide (0 ≤ r) = anyN (fun i => badP (A i) (B i) n) m ∧ e = .returned (.int .i64 r) ∧ Bel w w' := by
  unfold maxLen at hlm
  go_enter Try.func47, Try.ntmps47
  go_wp2
  go_loopw [8] (fun i wr => ∃ k : Nat, k ≤ m ∧ i = .int .i64 k ∧ Bel w wr ∧ anyN (fun i => badP (A i) (B i) n) k = false) (fun i _ => m - (intOf i).toNat)
  case atStart => exact ⟨0, by omega, rfl, bl_refl _, rfl⟩
  case round =>
    obtain ⟨k, hk, rfl, hB, hq⟩ := hrel
    by_cases hlt : k < m
    · have e9 : ls = some ⟨lb, lo, none⟩ := by rcases hls with h | h; omega; exact h
      subst e9
      have hld : wr.rangeAt lb (lo + k * 2) [.int .i64 (A k), .int .i64 (B k)] := (hl.bel hB) k hlt
      have hkI : (k : Int) < (m : Int) := by omega
      repeat (first | ((with_reducible show Oper.wp _ { dst := _, op := Op.load 67 _, type := _, pos := _, after := _, guard := _ } _ _ _ _); refine wp_load_mid (P := Try.prog) 67 _ rfl _ _ rfl [.int .i64 (A k), .int .i64 (B k)] _ hld Try.underlying67 rfl (by kernel_rfl) ?_; simp only [go_sem]) | (go_at_call 31; (with_reducible refine (cloJ_w (A k) (B k) n c _ (keep hB hc)).mono ?_); rintro e w' ⟨rfl, hb⟩; cases h : badP (A k) (B k) n <;> simp only [Bool.not_true, Bool.not_false]) | go_values | go_skip | go_guarded | go_step | go_upon | go_back | dsimp only)
      · repeat (first | go_values | go_skip | go_guarded | go_step | go_upon | go_back | dsimp only)
        refine ⟨⟨k + 1, by omega, by go_num, bl_trans hB hb, ?_⟩, by simp [intOf]; omega⟩
        unfold anyN
        rw [hq]
        simp [h]
      · repeat (first | go_values | go_skip | go_guarded | go_step | go_upon | go_back | dsimp only)
        go_ret
        refine ⟨k, ?_, rfl, bl_trans hB hb⟩
        rw [anyN_at (p := (fun i => badP (A i) (B i) n)) h hlt]
        simp
    · have hkn : k = m := by omega
      subst hkn
      repeat (first | go_values | go_skip | go_guarded | go_step | go_upon | go_back | dsimp only)
      go_ret
      exact ⟨-1, by rw [hq]; rfl, rfl, hB⟩
set_option maxRecDepth 100000 in
set_option maxHeartbeats 4000000 in
theorem hasJ_w (lb lo m lc_ : Nat) (ls : Option Addr) (A B : Nat → Int) (n : Int) (c : Nat) (w : World) (hls : m = 0 ∨ ls = some ⟨lb, lo, none⟩) (hlc : m ≤ lc_) (hlm : lc_ ≤ maxLen) (hl : Prs w lb lo m A B) (hc : w.cell? ⟨c, 0, none⟩ = some (.int .i64 n)) : Calls Try.prog 32 #[.slice ls m lc_, .func (.func 31) #[] #[.pointer (some ⟨c, 0, none⟩)]] w fun e w' => e = .returned (.bool (anyN (fun i => badP (A i) (B i) n) m)) ∧ Bel w w' := by
  go_enter Try.func32, Try.ntmps32
  go_wp2_with (first | (go_at_call 47; (with_reducible refine (idxJ_w lb lo m lc_ ls A B n c _ hls hlc hlm hl hc).mono ?_); rintro e w' ⟨r, hr9, rfl, hb⟩))
  go_ret
  exact ⟨by rw [← hr9]; rfl, hb⟩
/-- Join's error -/
def joE (n : Int) (m : Nat) (A B : Nat → Int) : Int := if n < 0 ∨ 16384 < n then 2 else if 65536 < m then 4 else bif anyN (fun i => badP (A i) (B i) n) m then 220 else 0
theorem joE_zero {n : Int} {m : Nat} {A B : Nat → Int} (h : joE n m A B = 0) : 0 ≤ n ∧ n ≤ 16384 ∧ m ≤ 65536 ∧ ∀ i, i < m → 0 ≤ A i ∧ A i < n ∧ 0 ≤ B i ∧ B i < n := by
  unfold joE at h
  split at h
  · cases h
  next h1 =>
  split at h
  · cases h
  next h2 =>
  cases h3 : anyN (fun i => badP (A i) (B i) n) m
  · refine ⟨by omega, by omega, by omega, fun i hi => ?_⟩
    have h4 := anyN_no h3 i hi
    unfold badP at h4
    simp only [decide_eq_false_iff_not] at h4
    omega
  · rw [h3] at h; cases h
set_option maxRecDepth 100000 in
set_option maxHeartbeats 4000000 in
theorem join_bad (n : Int) (lb lo m lc_ : Nat) (ls : Option Addr) (A B : Nat → Int) (w : World) (hls : m = 0 ∨ ls = some ⟨lb, lo, none⟩) (hlc : m ≤ lc_) (hlm : lc_ ≤ maxLen) (hl : Prs w lb lo m A B) (er : Int) (he : joE n m A B = er) (h0 : er ≠ 0) : Calls Try.prog 12 #[.int .i64 n, .slice ls m lc_] w fun e w' => e = .returned (.tuple #[.slice none 0 0, .int .i64 er]) ∧ Bel w w' := by
  have B0 : Bel w (w.alloc (.cells #[.int .i64 n] 3)) := bl_alloc (bl_refl w) _ _
  have k0 : (w.alloc (.cells #[.int .i64 n] 3)).cell? ⟨w.heap.size, 0, none⟩ = some (.int .i64 n) := (rng_new w [.int .i64 n] 3) 0 _ rfl
  unfold joE at he
  by_cases h1 : n < 0
  · rw [if_pos (.inl h1)] at he
    subst he
    go_enter Try.func12, Try.ntmps12
    repeat (first | go_values | go_skip | go_guarded | go_step | go_upon | go_back | dsimp only)
    refine bodyPost_ret (v := .tuple #[.slice none 0 0, .int .i64 2]) (by kernel_rfl) rfl ?_
    exact ⟨rfl, B0⟩
  by_cases h2 : 16384 < n
  · rw [if_pos (.inr h2)] at he
    subst he
    go_enter Try.func12, Try.ntmps12
    repeat (first | go_values | go_skip | go_guarded | go_step | go_upon | go_back | dsimp only)
    refine bodyPost_ret (v := .tuple #[.slice none 0 0, .int .i64 2]) (by kernel_rfl) rfl ?_
    exact ⟨rfl, B0⟩
  rw [if_neg (by omega)] at he
  by_cases h3 : 65536 < m
  · rw [if_pos h3] at he
    subst he
    have h3I : (65536 : Int) < (m : Int) := by omega
    go_enter Try.func12, Try.ntmps12
    repeat (first | go_values | go_skip | go_guarded | go_step | go_upon | go_back | dsimp only)
    refine bodyPost_ret (v := .tuple #[.slice none 0 0, .int .i64 4]) (by kernel_rfl) rfl ?_
    exact ⟨rfl, B0⟩
  rw [if_neg h3] at he
  cases h4 : anyN (fun i => badP (A i) (B i) n) m
  · rw [h4] at he; exact absurd he.symm h0
  rw [h4] at he
  have he : er = 220 := he.symm
  subst he
  have h3I : ¬ (65536 : Int) < (m : Int) := by omega
  go_enter Try.func12, Try.ntmps12
  repeat (first | (go_at_call 32; (with_reducible refine (hasJ_w lb lo m lc_ ls A B n w.heap.size _ hls hlc hlm (hl.bel B0) k0).mono ?_); rintro e w1 ⟨rfl, hb1⟩; rw [h4]) | go_values | go_skip | go_guarded | go_step | go_upon | go_back | dsimp only)
  refine bodyPost_ret (v := .tuple #[.slice none 0 0, .int .i64 220]) (by kernel_rfl) rfl ?_
  exact ⟨rfl, bl_trans B0 hb1⟩
set_option maxRecDepth 100000 in
set_option maxHeartbeats 4000000 in
theorem join_ok (n : Nat) (lb lo m lc_ : Nat) (ls : Option Addr) (A B : Nat → Int) (w : World) (hls : m = 0 ∨ ls = some ⟨lb, lo, none⟩) (hlc : m ≤ lc_) (hlm : lc_ ≤ maxLen) (hl : Prs w lb lo m A B) (he : joE n m A B = 0) : Calls Try.prog 12 #[.int .i64 (n : Int), .slice ls m lc_] w fun e w' => ∃ g f, w.heap.size ≤ g ∧ IntM w' g n (nI f) ∧ Lst n m A B f ∧ g < w'.heap.size ∧ e = .returned (.tuple #[.slice (some ⟨g, 0, none⟩) n n, .int .i64 0]) ∧ Bel w w' := by
  obtain ⟨v1, v2, v3, v4⟩ := joE_zero he
  have WBel : Bel w (w.alloc (.cells #[.int .i64 n] 3)) := bl_alloc (bl_refl w) _ _
  have k0 : (w.alloc (.cells #[.int .i64 n] 3)).cell? ⟨w.heap.size, 0, none⟩ = some (.int .i64 n) := (rng_new w [.int .i64 n] 3) 0 _ rfl
  have h1 : ¬ (n : Int) < 0 := by omega
  have h2 : ¬ (16384 : Int) < (n : Int) := by omega
  have h3 : ¬ (65536 : Int) < (m : Int) := by omega
  have h4 : anyN (fun i => badP (A i) (B i) n) m = false := by
    unfold joE at he
    rw [if_neg (by omega), if_neg (by omega)] at he
    cases h : anyN (fun i => badP (A i) (B i) n) m
    · rfl
    · rw [h] at he; cases he
  go_enter Try.func12, Try.ntmps12
  repeat (first | (go_at_call 32; (with_reducible refine (hasJ_w lb lo m lc_ ls A B n w.heap.size _ hls hlc hlm (hl.bel WBel) k0).mono ?_); rintro e w1 ⟨rfl, hb1⟩; rw [h4]; have B1 := bl_trans WBel hb1; have k1 := keep hb1 k0) | (go_at_call 33; (with_reducible refine (leasts_w n lb lo m lc_ ls A B _ hls hlc hlm (hl.bel B1) (by omega) v3 v4).mono ?_); rintro e w2 ⟨g, f, hg, hI, hL, hz, rfl, hb2⟩) | go_values | go_skip | go_guarded | go_step | go_upon | go_back | dsimp only)
  refine bodyPost_ret (v := .tuple #[.slice (some ⟨g, 0, none⟩) n n, .int .i64 0]) (by kernel_rfl) rfl ?_
  exact ⟨g, f, by have := B1.size; omega, hI, hL, hz, rfl, bl_trans B1 hb2⟩

end Go.Proofs.Ytmphpmkhddnfdaa
