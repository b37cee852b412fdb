/-
  What each function of package poly answers, and what the reference of its chapter answers: one contract a function, for every float: the answer stands in the relation of its formula to what was given; of the memory that was there nothing has turned.
-/
import Derived.Test.YtfohggiehbplkaaVec
import Derived.Test.YtfohggiehbplkaaWf
import Derived.Below
import Derived.WalkKit
import Derived.WalkLawsBesides
import Derived.WalkSpells
import Derived.ProofKit
import Derived.OpenShut
import Derived.Deep.RegionHeld3
namespace Go.Proofs.Ytfohggiehbplkaa
open Go.ChangeShapes Go.WideShapes Go.ChangeAt Go.RowKit
set_option linter.unusedVariables false
set_option linter.unusedSimpArgs false


def chB (R : RD) (n m : Int) : Bool := mayB R && (decide (R.ra < m) && (decide (R.rb < m) && decide (R.ro < n)))
theorem isF_wd {r q : Nat} (h : isF r q) (hq : q ≠ 9221120237041090560) : r = q := by
 cases hn : nanK .f64 r
 ·rw [← h.2, bits_num hn]
 ·exact absurd (by rw [← h.2, bits_nan hn]) hq

set_option maxRecDepth 100000 in
set_option maxHeartbeats 4000000 in
theorem check_w (R : RD) (n m : Int) (w : World) : Calls Try.prog 46 #[.agg #[.int .i64 R.ra, .int .i64 R.rb, .float .f64 R.r2, .float .f64 R.r3, .float .f64 R.r4, .float .f64 R.r5, .float .f64 R.r6, .float .f64 R.r7, .float .f64 R.r8, .float .f64 R.r9, .float .f64 R.r10, .float .f64 R.r11, .int .i64 R.ro, .float .f64 R.r13], .int .i64 n, .int .i64 m] w fun e w' => e = .returned (.int .i64 (bif chB R n m then 0 else 200)) ∧ Bel w w' := by
 have hR := rng_new w [.int .i64 R.ra, .int .i64 R.rb, .float .f64 R.r2, .float .f64 R.r3, .float .f64 R.r4, .float .f64 R.r5, .float .f64 R.r6, .float .f64 R.r7, .float .f64 R.r8, .float .f64 R.r9, .float .f64 R.r10, .float .f64 R.r11, .int .i64 R.ro, .float .f64 R.r13] 43
 have B0 : Bel w _ := bl_alloc (bl_refl w) #[.int .i64 R.ra, .int .i64 R.rb, .float .f64 R.r2, .float .f64 R.r3, .float .f64 R.r4, .float .f64 R.r5, .float .f64 R.r6, .float .f64 R.r7, .float .f64 R.r8, .float .f64 R.r9, .float .f64 R.r10, .float .f64 R.r11, .int .i64 R.ro, .float .f64 R.r13] 43
 cases h0 : mayB R
 ·have e : chB R n m = false := by simp [chB, h0]
  rw [e]
  go_enter Try.func46, Try.ntmps46
  repeat (first | (with_reducible show Oper.wp _ _ _ _ _ _; refine wp_load_mid (P := Try.prog) 43 _ rfl (w.heap.size) 0 rfl [.int .i64 R.ra, .int .i64 R.rb, .float .f64 R.r2, .float .f64 R.r3, .float .f64 R.r4, .float .f64 R.r5, .float .f64 R.r6, .float .f64 R.r7, .float .f64 R.r8, .float .f64 R.r9, .float .f64 R.r10, .float .f64 R.r11, .int .i64 R.ro, .float .f64 R.r13] _ (by with_reducible assumption) Try.underlying43 rfl (by kernel_rfl) ?_; simp only [go_sem]) | (go_at_call 87; (with_reducible refine (isRow_w R _).mono ?_); rintro e w' ⟨rfl, hb⟩; rw [h0]; have hRn := rng_bel hR hb; (have k0 : w'.cell? ⟨w.heap.size, 0, none⟩ = some (.int .i64 R.ra) := by have h := hRn 0 _ rfl; rwa [Nat.zero_add] at h); (have k1 : w'.cell? ⟨w.heap.size, 1, none⟩ = some (.int .i64 R.rb) := by have h := hRn 1 _ rfl; rwa [Nat.zero_add] at h); (have k12 : w'.cell? ⟨w.heap.size, 12, none⟩ = some (.int .i64 R.ro) := by have h := hRn 12 _ rfl; rwa [Nat.zero_add] at h)) | go_values | go_skip | go_guarded | go_step | go_upon | go_back | dsimp only)
  go_ret
  exact ⟨rfl, bl_trans B0 hb⟩
 by_cases h1 : R.ra < m
 rotate_left
 ·have e : chB R n m = false := by unfold chB; rw [decide_eq_false h1]; simp
  have nh1 : m ≤ R.ra := by omega
  rw [e]
  go_enter Try.func46, Try.ntmps46
  repeat (first | (with_reducible show Oper.wp _ _ _ _ _ _; refine wp_load_mid (P := Try.prog) 43 _ rfl (w.heap.size) 0 rfl [.int .i64 R.ra, .int .i64 R.rb, .float .f64 R.r2, .float .f64 R.r3, .float .f64 R.r4, .float .f64 R.r5, .float .f64 R.r6, .float .f64 R.r7, .float .f64 R.r8, .float .f64 R.r9, .float .f64 R.r10, .float .f64 R.r11, .int .i64 R.ro, .float .f64 R.r13] _ (by with_reducible assumption) Try.underlying43 rfl (by kernel_rfl) ?_; simp only [go_sem]) | (go_at_call 87; (with_reducible refine (isRow_w R _).mono ?_); rintro e w' ⟨rfl, hb⟩; rw [h0]; have hRn := rng_bel hR hb; (have k0 : w'.cell? ⟨w.heap.size, 0, none⟩ = some (.int .i64 R.ra) := by have h := hRn 0 _ rfl; rwa [Nat.zero_add] at h); (have k1 : w'.cell? ⟨w.heap.size, 1, none⟩ = some (.int .i64 R.rb) := by have h := hRn 1 _ rfl; rwa [Nat.zero_add] at h); (have k12 : w'.cell? ⟨w.heap.size, 12, none⟩ = some (.int .i64 R.ro) := by have h := hRn 12 _ rfl; rwa [Nat.zero_add] at h)) | go_values | go_skip | go_guarded | go_step | go_upon | go_back | dsimp only)
  go_ret
  exact ⟨rfl, bl_trans B0 hb⟩
 by_cases h2 : R.rb < m
 rotate_left
 ·have e : chB R n m = false := by unfold chB; rw [decide_eq_false h2]; simp
  have nh1 : ¬ m ≤ R.ra := by omega
  have nh2 : m ≤ R.rb := by omega
  rw [e]
  go_enter Try.func46, Try.ntmps46
  repeat (first | (with_reducible show Oper.wp _ _ _ _ _ _; refine wp_load_mid (P := Try.prog) 43 _ rfl (w.heap.size) 0 rfl [.int .i64 R.ra, .int .i64 R.rb, .float .f64 R.r2, .float .f64 R.r3, .float .f64 R.r4, .float .f64 R.r5, .float .f64 R.r6, .float .f64 R.r7, .float .f64 R.r8, .float .f64 R.r9, .float .f64 R.r10, .float .f64 R.r11, .int .i64 R.ro, .float .f64 R.r13] _ (by with_reducible assumption) Try.underlying43 rfl (by kernel_rfl) ?_; simp only [go_sem]) | (go_at_call 87; (with_reducible refine (isRow_w R _).mono ?_); rintro e w' ⟨rfl, hb⟩; rw [h0]; have hRn := rng_bel hR hb; (have k0 : w'.cell? ⟨w.heap.size, 0, none⟩ = some (.int .i64 R.ra) := by have h := hRn 0 _ rfl; rwa [Nat.zero_add] at h); (have k1 : w'.cell? ⟨w.heap.size, 1, none⟩ = some (.int .i64 R.rb) := by have h := hRn 1 _ rfl; rwa [Nat.zero_add] at h); (have k12 : w'.cell? ⟨w.heap.size, 12, none⟩ = some (.int .i64 R.ro) := by have h := hRn 12 _ rfl; rwa [Nat.zero_add] at h)) | go_values | go_skip | go_guarded | go_step | go_upon | go_back | dsimp only)
  go_ret
  exact ⟨rfl, bl_trans B0 hb⟩
 by_cases h3 : R.ro < n
 rotate_left
 ·have e : chB R n m = false := by unfold chB; rw [decide_eq_false h3]; simp
  have nh1 : ¬ m ≤ R.ra := by omega
  have nh2 : ¬ m ≤ R.rb := by omega
  have nh3 : n ≤ R.ro := by omega
  rw [e]
  go_enter Try.func46, Try.ntmps46
  repeat (first | (with_reducible show Oper.wp _ _ _ _ _ _; refine wp_load_mid (P := Try.prog) 43 _ rfl (w.heap.size) 0 rfl [.int .i64 R.ra, .int .i64 R.rb, .float .f64 R.r2, .float .f64 R.r3, .float .f64 R.r4, .float .f64 R.r5, .float .f64 R.r6, .float .f64 R.r7, .float .f64 R.r8, .float .f64 R.r9, .float .f64 R.r10, .float .f64 R.r11, .int .i64 R.ro, .float .f64 R.r13] _ (by with_reducible assumption) Try.underlying43 rfl (by kernel_rfl) ?_; simp only [go_sem]) | (go_at_call 87; (with_reducible refine (isRow_w R _).mono ?_); rintro e w' ⟨rfl, hb⟩; rw [h0]; have hRn := rng_bel hR hb; (have k0 : w'.cell? ⟨w.heap.size, 0, none⟩ = some (.int .i64 R.ra) := by have h := hRn 0 _ rfl; rwa [Nat.zero_add] at h); (have k1 : w'.cell? ⟨w.heap.size, 1, none⟩ = some (.int .i64 R.rb) := by have h := hRn 1 _ rfl; rwa [Nat.zero_add] at h); (have k12 : w'.cell? ⟨w.heap.size, 12, none⟩ = some (.int .i64 R.ro) := by have h := hRn 12 _ rfl; rwa [Nat.zero_add] at h)) | go_values | go_skip | go_guarded | go_step | go_upon | go_back | dsimp only)
  go_ret
  exact ⟨rfl, bl_trans B0 hb⟩
 have e : chB R n m = true := by simp [chB, h0, h1, h2, h3]
 have nh1 : ¬ m ≤ R.ra := by omega
 have nh2 : ¬ m ≤ R.rb := by omega
 have nh3 : ¬ n ≤ R.ro := by omega
 rw [e]
 go_enter Try.func46, Try.ntmps46
 repeat (first | (with_reducible show Oper.wp _ _ _ _ _ _; refine wp_load_mid (P := Try.prog) 43 _ rfl (w.heap.size) 0 rfl [.int .i64 R.ra, .int .i64 R.rb, .float .f64 R.r2, .float .f64 R.r3, .float .f64 R.r4, .float .f64 R.r5, .float .f64 R.r6, .float .f64 R.r7, .float .f64 R.r8, .float .f64 R.r9, .float .f64 R.r10, .float .f64 R.r11, .int .i64 R.ro, .float .f64 R.r13] _ (by with_reducible assumption) Try.underlying43 rfl (by kernel_rfl) ?_; simp only [go_sem]) | (go_at_call 87; (with_reducible refine (isRow_w R _).mono ?_); rintro e w' ⟨rfl, hb⟩; rw [h0]; have hRn := rng_bel hR hb; (have k0 : w'.cell? ⟨w.heap.size, 0, none⟩ = some (.int .i64 R.ra) := by have h := hRn 0 _ rfl; rwa [Nat.zero_add] at h); (have k1 : w'.cell? ⟨w.heap.size, 1, none⟩ = some (.int .i64 R.rb) := by have h := hRn 1 _ rfl; rwa [Nat.zero_add] at h); (have k12 : w'.cell? ⟨w.heap.size, 12, none⟩ = some (.int .i64 R.ro) := by have h := hRn 12 _ rfl; rwa [Nat.zero_add] at h)) | go_values | go_skip | go_guarded | go_step | go_upon | go_back | dsimp only)
 go_ret
 exact ⟨rfl, bl_trans B0 hb⟩

end Go.Proofs.Ytfohggiehbplkaa
