/-
  What each function of package poly answers, and what the reference of its chapter answers: one contract a function, for every float: the answer stands in the relation of its formula to what was given; of the memory that was there nothing has turned.
-/
import Derived.Test.YtchfgaooogfkdaaVec
import Derived.Test.YtchfgaooogfkdaaXm
import Derived.Below
import Derived.OwnWalk
import Derived.Laws.AppendOwn
import Derived.Lib.SliceRun
import Derived.Laws.MakeOwn
import Derived.WalkKit
import Derived.WalkLawsBesides
import Derived.WalkSpells
import Derived.ProofKit
import Derived.OpenShut
import Derived.Deep.RegionHeld3
namespace Go.Proofs.Ytchfgaooogfkdaa
open Go.ChangeShapes Go.WideShapes Go.ChangeAt Go.RowKit
set_option linter.unusedVariables false
set_option linter.unusedSimpArgs false


theorem nan1_i (a : Int) (w : World) : Calls Try.prog 101 #[.int .i64 a] w fun e w' => e = .returned (.bool false) ∧ w' = w := by
  have h : (a == a) = true := by simp
  go_enter Try.func101, Try.ntmps101
  repeat (first | go_values | go_skip | go_guarded | go_step | go_upon | go_back | dsimp only)
  go_ret
  exact ⟨by simp, rfl⟩

theorem nan2_i (a : Int) (w : World) : Calls Try.prog 118 #[.int .i64 a] w fun e w' => e = .returned (.bool false) ∧ w' = w := by
  have h : (a == a) = true := by simp
  go_enter Try.func118, Try.ntmps118
  repeat (first | go_values | go_skip | go_guarded | go_step | go_upon | go_back | dsimp only)
  go_ret
  exact ⟨by simp, rfl⟩

set_option maxRecDepth 100000 in
set_option maxHeartbeats 4000000 in
theorem less_i (a b : Int) (w : World) : Calls Try.prog 100 #[.int .i64 a, .int .i64 b] w fun e w' => e = .returned (.bool (decide (a < b))) ∧ w' = w := by
  go_enter Try.func100, Try.ntmps100
  repeat (first | (go_at_call 118; (with_reducible refine (nan2_i _ _).mono ?_); rintro e w' ⟨rfl, rfl⟩) | go_values | go_skip | go_guarded | go_step | go_upon | go_back | dsimp only)
  go_ret
  exact ⟨rfl, rfl⟩
set_option maxRecDepth 100000 in
set_option maxHeartbeats 4000000 in
theorem bsearch_w (b n c_ : Nat) (sl : Option Addr) (Y : Nat → Int) (t : Int) (w : World) (hsl : n = 0 ∨ sl = some ⟨b, 0, none⟩) (hc : n ≤ c_) (hm : n ≤ 1048576) (hY : Ints w b 0 n Y) (hup : ∀ i j, i < j → j < n → Y i < Y j) : Calls Try.prog 64 #[.slice sl n c_, .int .i64 t] w fun e w' => ∃ (r : Nat) (f : Bool), (f = true → r < n ∧ Y r = t) ∧ (f = false → ∀ i, i < n → Y i ≠ t) ∧ e = .returned (.tuple #[.int .i64 r, .bool f]) ∧ w' = w := by
  go_enter Try.func64, Try.ntmps64
  repeat (first | go_values | go_skip | go_guarded | go_step | go_upon | go_back | dsimp only)
  go_loopw [7, 8] (fun i j wr => ∃ lo hi : Nat, lo ≤ hi ∧ hi ≤ n ∧ i = .int .i64 lo ∧ j = .int .i64 hi ∧ wr = w ∧ (∀ q, q < lo → Y q < t) ∧ ∀ q, hi ≤ q → q < n → t ≤ Y q) (fun i j _ => (intOf j).toNat - (intOf i).toNat)
  case atStart => exact ⟨0, n, by omega, by omega, rfl, rfl, rfl, fun q hq => by omega, fun q h1 h2 => by omega⟩
  case round =>
    obtain ⟨lo, hi, h1, h2, rfl, rfl, rfl, h3, h4⟩ := hrel
    by_cases hlt : lo < hi
    · have hkI : (lo : Int) < (hi : Int) := by omega
      have e9 : sl = some ⟨b, 0, none⟩ := by rcases hsl with h | h; omega; exact h
      subst e9
      have kx : wr.cell? ⟨b, (lo + hi) / 2, none⟩ = some (.int .i64 (Y ((lo + hi) / 2))) := by have h := hY ((lo + hi) / 2) (by omega); rwa [Nat.zero_add] at h
      have em : ((((lo + hi) / 2 : Nat) : Int)) = ((lo : Int) + hi) / 2 := by omega
      by_cases hd0 : Y ((lo + hi) / 2) < t
      · have hd : decide (Y ((lo + hi) / 2) < t) = true := decide_eq_true hd0
        repeat (first | (go_at_call 100; (with_reducible refine (less_i _ _ _).mono ?_); rintro e w' ⟨rfl, rfl⟩; rw [hd]) | go_values | go_skip | go_guarded | go_step | go_upon | go_back | dsimp only)
        refine ⟨⟨(lo + hi) / 2 + 1, hi, by omega, h2, (by first | rfl | go_num), (by first | rfl | trivial), (by first | rfl | trivial), fun q hq => ?_, h4⟩, by simp [intOf]; omega⟩
        rcases Nat.lt_or_ge q ((lo + hi) / 2) with h | h
        · exact Int.lt_trans (hup q _ h (by omega)) hd0
        · have e : q = (lo + hi) / 2 := by omega
          subst e; exact hd0
      · have hd : decide (Y ((lo + hi) / 2) < t) = false := decide_eq_false hd0
        repeat (first | (go_at_call 100; (with_reducible refine (less_i _ _ _).mono ?_); rintro e w' ⟨rfl, rfl⟩; rw [hd]) | go_values | go_skip | go_guarded | go_step | go_upon | go_back | dsimp only)
        refine ⟨⟨lo, (lo + hi) / 2, by omega, by omega, (by first | rfl | trivial), (by first | rfl | go_num), (by first | rfl | trivial), h3, fun q h5 h6 => ?_⟩, by simp [intOf]; omega⟩
        rcases Nat.lt_or_ge ((lo + hi) / 2) q with h | h
        · have := hup _ q h h6
          omega
        · have e : q = (lo + hi) / 2 := by omega
          subst e; omega
    · have hlh : hi = lo := by omega
      subst hlh
      have hkI : ¬ (hi : Int) < (hi : Int) := by omega
      by_cases hn : hi < n
      · have hnI : (hi : Int) < (n : Int) := by omega
        have e9 : sl = some ⟨b, 0, none⟩ := by rcases hsl with h | h; omega; exact h
        subst e9
        have kx : wr.cell? ⟨b, hi, none⟩ = some (.int .i64 (Y hi)) := by have h := hY hi hn; rwa [Nat.zero_add] at h
        by_cases he : Y hi = t
        · have he1 : (Y hi == t) = true := by simp [he]
          repeat (first | go_values | go_skip | go_guarded | go_step | go_upon | go_back | dsimp only)
          refine bodyPost_ret (v := .tuple #[.int .i64 hi, .bool true]) (by kernel_rfl) rfl ?_
          exact ⟨hi, true, fun _ => ⟨hn, he⟩, fun h => (by cases h), rfl, rfl⟩
        · have he1 : (Y hi == t) = false := by simp [he]
          repeat (first | (go_at_call 101; (with_reducible refine (nan1_i _ _).mono ?_); rintro e w' ⟨rfl, rfl⟩) | go_values | go_skip | go_guarded | go_step | go_upon | go_back | dsimp only)
          refine bodyPost_ret (v := .tuple #[.int .i64 hi, .bool false]) (by kernel_rfl) rfl ?_
          refine ⟨hi, false, fun h => (by cases h), fun _ i hi9 => ?_, rfl, rfl⟩
          rcases Nat.lt_or_ge i hi with h | h
          · have := h3 i h; omega
          · rcases Nat.eq_or_lt_of_le h with h | h
            · subst h; exact he
            · have h7 := hup hi i h hi9
              have h8 := h4 hi (Nat.le_refl _) hn
              omega
      · have hnI : ¬ (hi : Int) < (n : Int) := by omega
        repeat (first | go_values | go_skip | go_guarded | go_step | go_upon | go_back | dsimp only)
        refine bodyPost_ret (v := .tuple #[.int .i64 hi, .bool false]) (by kernel_rfl) rfl ?_
        refine ⟨hi, false, fun h => (by cases h), fun _ i hi9 => ?_, rfl, rfl⟩
        have := h3 i (by omega)
        omega

end Go.Proofs.Ytchfgaooogfkdaa
