/-
  What each function of package poly answers, and what the reference of its chapter answers: one contract a function, for every float: the answer stands in the relation of its formula to what was given; of the memory that was there nothing has turned.
-/
import Derived.Test.YtfohggiehbplkaaVec
import Derived.Test.YtfohggiehbplkaaWf
import Derived.Below
import Derived.WalkKit
import Derived.WalkLawsBesides
import Derived.WalkSpells
import Derived.ProofKit
import Derived.OpenShut
import Derived.Deep.RegionHeld3
namespace Go.Proofs.Ytfohggiehbplkaa
open Go.ChangeShapes Go.WideShapes Go.ChangeAt Go.RowKit
set_option linter.unusedVariables false
set_option linter.unusedSimpArgs false


def chB (R : RD) (n m : Int) : Bool := mayB R && (decide (R.ra < m) && (decide (R.rb < m) && decide (R.ro < n)))
theorem isF_wd {r q : Nat} (h : isF r q) (hq : q ≠ 9221120237041090560) : r = q := by
  cases hn : nanK .f64 r
  · rw [← h.2, bits_num hn]
  · exact absurd (by rw [← h.2, bits_nan hn]) hq

set_option maxRecDepth 100000 in
set_option maxHeartbeats 4000000 in
theorem check_w (R : RD) (n m : Int) (w : World) : Calls Try.prog 46 #[.agg #[.int .i64 R.ra, .int .i64 R.rb, .float .f64 R.r2, .float .f64 R.r3, .float .f64 R.r4, .float .f64 R.r5, .float .f64 R.r6, .float .f64 R.r7, .float .f64 R.r8, .float .f64 R.r9, .float .f64 R.r10, .float .f64 R.r11, .int .i64 R.ro, .float .f64 R.r13], .int .i64 n, .int .i64 m] w fun e w' => e = .returned (.int .i64 (bif chB R n m then 0 else 200)) ∧ Bel w w' := by
  have hR := rng_new w [.int .i64 R.ra, .int .i64 R.rb, .float .f64 R.r2, .float .f64 R.r3, .float .f64 R.r4, .float .f64 R.r5, .float .f64 R.r6, .float .f64 R.r7, .float .f64 R.r8, .float .f64 R.r9, .float .f64 R.r10, .float .f64 R.r11, .int .i64 R.ro, .float .f64 R.r13] 43
  have B0 : Bel w _ := bl_alloc (bl_refl w) #[.int .i64 R.ra, .int .i64 R.rb, .float .f64 R.r2, .float .f64 R.r3, .float .f64 R.r4, .float .f64 R.r5, .float .f64 R.r6, .float .f64 R.r7, .float .f64 R.r8, .float .f64 R.r9, .float .f64 R.r10, .float .f64 R.r11, .int .i64 R.ro, .float .f64 R.r13] 43
  cases h0 : mayB R
  · have e : chB R n m = false := by simp [chB, h0]
    rw [e]
    go_enter Try.func46, Try.ntmps46
    repeat (first | (with_reducible show Oper.wp _ _ _ _ _ _; refine wp_load_mid (P := Try.prog) 43 _ rfl (w.heap.size) 0 rfl [.int .i64 R.ra, .int .i64 R.rb, .float .f64 R.r2, .float .f64 R.r3, .float .f64 R.r4, .float .f64 R.r5, .float .f64 R.r6, .float .f64 R.r7, .float .f64 R.r8, .float .f64 R.r9, .float .f64 R.r10, .float .f64 R.r11, .int .i64 R.ro, .float .f64 R.r13] _ (by with_reducible assumption) Try.underlying43 rfl (by kernel_rfl) ?_; simp only [go_sem]) | (go_at_call 87; (with_reducible refine (isRow_w R _).mono ?_); rintro e w' ⟨rfl, hb⟩; rw [h0]; have hRn := rng_bel hR hb; (have k0 : w'.cell? ⟨w.heap.size, 0, none⟩ = some (.int .i64 R.ra) := by have h := hRn 0 _ rfl; rwa [Nat.zero_add] at h); (have k1 : w'.cell? ⟨w.heap.size, 1, none⟩ = some (.int .i64 R.rb) := by have h := hRn 1 _ rfl; rwa [Nat.zero_add] at h); (have k12 : w'.cell? ⟨w.heap.size, 12, none⟩ = some (.int .i64 R.ro) := by have h := hRn 12 _ rfl; rwa [Nat.zero_add] at h)) | go_values | go_skip | go_guarded | go_step | go_upon | go_back | dsimp only)
    go_ret
    exact ⟨rfl, bl_trans B0 hb⟩
  by_cases h1 : R.ra < m
  rotate_left
  · have e : chB R n m = false := by unfold chB; rw [decide_eq_false h1]; simp
    have nh1 : m ≤ R.ra := by omega
    rw [e]
    go_enter Try.func46, Try.ntmps46
    repeat (first | (with_reducible show Oper.wp _ _ _ _ _ _; refine wp_load_mid (P := Try.prog) 43 _ rfl (w.heap.size) 0 rfl [.int .i64 R.ra, .int .i64 R.rb, .float .f64 R.r2, .float .f64 R.r3, .float .f64 R.r4, .float .f64 R.r5, .float .f64 R.r6, .float .f64 R.r7, .float .f64 R.r8, .float .f64 R.r9, .float .f64 R.r10, .float .f64 R.r11, .int .i64 R.ro, .float .f64 R.r13] _ (by with_reducible assumption) Try.underlying43 rfl (by kernel_rfl) ?_; simp only [go_sem]) | (go_at_call 87; (with_reducible refine (isRow_w R _).mono ?_); rintro e w' ⟨rfl, hb⟩; rw [h0]; have hRn := rng_bel hR hb; (have k0 : w'.cell? ⟨w.heap.size, 0, none⟩ = some (.int .i64 R.ra) := by have h := hRn 0 _ rfl; rwa [Nat.zero_add] at h); (have k1 : w'.cell? ⟨w.heap.size, 1, none⟩ = some (.int .i64 R.rb) := by have h := hRn 1 _ rfl; rwa [Nat.zero_add] at h); (have k12 : w'.cell? ⟨w.heap.size, 12, none⟩ = some (.int .i64 R.ro) := by have h := hRn 12 _ rfl; rwa [Nat.zero_add] at h)) | go_values | go_skip | go_guarded | go_step | go_upon | go_back | dsimp only)
    go_ret
    exact ⟨rfl, bl_trans B0 hb⟩
  by_cases h2 : R.rb < m
  rotate_left
  · have e : chB R n m = false := by unfold chB; rw [decide_eq_false h2]; simp
    have nh1 : ¬ m ≤ R.ra := by omega
    have nh2 : m ≤ R.rb := by omega
    rw [e]
    go_enter Try.func46, Try.ntmps46
    repeat (first | (with_reducible show Oper.wp _ _ _ _ _ _; refine wp_load_mid (P := Try.prog) 43 _ rfl (w.heap.size) 0 rfl [.int .i64 R.ra, .int .i64 R.rb, .float .f64 R.r2, .float .f64 R.r3, .float .f64 R.r4, .float .f64 R.r5, .float .f64 R.r6, .float .f64 R.r7, .float .f64 R.r8, .float .f64 R.r9, .float .f64 R.r10, .float .f64 R.r11, .int .i64 R.ro, .float .f64 R.r13] _ (by with_reducible assumption) Try.underlying43 rfl (by kernel_rfl) ?_; simp only [go_sem]) | (go_at_call 87; (with_reducible refine (isRow_w R _).mono ?_); rintro e w' ⟨rfl, hb⟩; rw [h0]; have hRn := rng_bel hR hb; (have k0 : w'.cell? ⟨w.heap.size, 0, none⟩ = some (.int .i64 R.ra) := by have h := hRn 0 _ rfl; rwa [Nat.zero_add] at h); (have k1 : w'.cell? ⟨w.heap.size, 1, none⟩ = some (.int .i64 R.rb) := by have h := hRn 1 _ rfl; rwa [Nat.zero_add] at h); (have k12 : w'.cell? ⟨w.heap.size, 12, none⟩ = some (.int .i64 R.ro) := by have h := hRn 12 _ rfl; rwa [Nat.zero_add] at h)) | go_values | go_skip | go_guarded | go_step | go_upon | go_back | dsimp only)
    go_ret
    exact ⟨rfl, bl_trans B0 hb⟩
  by_cases h3 : R.ro < n
  rotate_left
  · have e : chB R n m = false := by unfold chB; rw [decide_eq_false h3]; simp
    have nh1 : ¬ m ≤ R.ra := by omega
    have nh2 : ¬ m ≤ R.rb := by omega
    have nh3 : n ≤ R.ro := by omega
    rw [e]
    go_enter Try.func46, Try.ntmps46
    repeat (first | (with_reducible show Oper.wp _ _ _ _ _ _; refine wp_load_mid (P := Try.prog) 43 _ rfl (w.heap.size) 0 rfl [.int .i64 R.ra, .int .i64 R.rb, .float .f64 R.r2, .float .f64 R.r3, .float .f64 R.r4, .float .f64 R.r5, .float .f64 R.r6, .float .f64 R.r7, .float .f64 R.r8, .float .f64 R.r9, .float .f64 R.r10, .float .f64 R.r11, .int .i64 R.ro, .float .f64 R.r13] _ (by with_reducible assumption) Try.underlying43 rfl (by kernel_rfl) ?_; simp only [go_sem]) | (go_at_call 87; (with_reducible refine (isRow_w R _).mono ?_); rintro e w' ⟨rfl, hb⟩; rw [h0]; have hRn := rng_bel hR hb; (have k0 : w'.cell? ⟨w.heap.size, 0, none⟩ = some (.int .i64 R.ra) := by have h := hRn 0 _ rfl; rwa [Nat.zero_add] at h); (have k1 : w'.cell? ⟨w.heap.size, 1, none⟩ = some (.int .i64 R.rb) := by have h := hRn 1 _ rfl; rwa [Nat.zero_add] at h); (have k12 : w'.cell? ⟨w.heap.size, 12, none⟩ = some (.int .i64 R.ro) := by have h := hRn 12 _ rfl; rwa [Nat.zero_add] at h)) | go_values | go_skip | go_guarded | go_step | go_upon | go_back | dsimp only)
    go_ret
    exact ⟨rfl, bl_trans B0 hb⟩
  have e : chB R n m = true := by simp [chB, h0, h1, h2, h3]
  have nh1 : ¬ m ≤ R.ra := by omega
  have nh2 : ¬ m ≤ R.rb := by omega
  have nh3 : ¬ n ≤ R.ro := by omega
  rw [e]
  go_enter Try.func46, Try.ntmps46
  repeat (first | (with_reducible show Oper.wp _ _ _ _ _ _; refine wp_load_mid (P := Try.prog) 43 _ rfl (w.heap.size) 0 rfl [.int .i64 R.ra, .int .i64 R.rb, .float .f64 R.r2, .float .f64 R.r3, .float .f64 R.r4, .float .f64 R.r5, .float .f64 R.r6, .float .f64 R.r7, .float .f64 R.r8, .float .f64 R.r9, .float .f64 R.r10, .float .f64 R.r11, .int .i64 R.ro, .float .f64 R.r13] _ (by with_reducible assumption) Try.underlying43 rfl (by kernel_rfl) ?_; simp only [go_sem]) | (go_at_call 87; (with_reducible refine (isRow_w R _).mono ?_); rintro e w' ⟨rfl, hb⟩; rw [h0]; have hRn := rng_bel hR hb; (have k0 : w'.cell? ⟨w.heap.size, 0, none⟩ = some (.int .i64 R.ra) := by have h := hRn 0 _ rfl; rwa [Nat.zero_add] at h); (have k1 : w'.cell? ⟨w.heap.size, 1, none⟩ = some (.int .i64 R.rb) := by have h := hRn 1 _ rfl; rwa [Nat.zero_add] at h); (have k12 : w'.cell? ⟨w.heap.size, 12, none⟩ = some (.int .i64 R.ro) := by have h := hRn 12 _ rfl; rwa [Nat.zero_add] at h)) | go_values | go_skip | go_guarded | go_step | go_upon | go_back | dsimp only)
  go_ret
  exact ⟨rfl, bl_trans B0 hb⟩

theorem sqrt_i {x X : Nat} (w : World) (hx : isF x X) : Calls Try.prog 86 #[.float .f64 x] w fun e w' => ∃ r n, isF r (qF X) ∧ e = .returned (.float .f64 r) ∧ w' = w.drewN n :=
  (sqrt_any x w).mono fun e w' ⟨r, n, h, he, hw⟩ => ⟨r, n, ⟨h.1, by rw [sq_n h, hx.2]⟩, he, hw⟩
set_option maxRecDepth 100000 in
theorem mix_w (a b c d : Nat) (w : World) (oa : okK .f64 a) (ob : okK .f64 b) (oc : okK .f64 c) (od : okK .f64 d) : Calls Try.prog 45 #[.agg #[.int .u8 0, .float .f64 0, .slice none 0 0, .float .f64 0, .float .f64 a, .float .f64 c, .bool false, .int .u16 0, .int .u16 0], .agg #[.int .u8 0, .float .f64 0, .slice none 0 0, .float .f64 0, .float .f64 b, .float .f64 d, .bool false, .int .u16 0, .int .u16 0]] w fun e w' => ∃ r, isF r (qF (oF .mul (bitsK a) (bitsK b))) ∧ e = .returned (.tuple #[.float .f64 r, .float .f64 (mostK .f64 c d)]) ∧ Bel w w' := by
  have z0_0 : (w.alloc (.cells #[.int .u8 0, .float .f64 0, .slice none 0 0, .float .f64 0, .float .f64 a, .float .f64 c, .bool false, .int .u16 0, .int .u16 0] 85)).cell? ⟨w.heap.size, 0, none⟩ = some (.int .u8 0) := by rw [World.cell?_alloc_new]; rfl
  replace z0_0 := up_alloc (o := .cells #[.int .u8 0, .float .f64 0, .slice none 0 0, .float .f64 0, .float .f64 b, .float .f64 d, .bool false, .int .u16 0, .int .u16 0] 85) z0_0
  have z0_1 : (w.alloc (.cells #[.int .u8 0, .float .f64 0, .slice none 0 0, .float .f64 0, .float .f64 a, .float .f64 c, .bool false, .int .u16 0, .int .u16 0] 85)).cell? ⟨w.heap.size, 1, none⟩ = some (.float .f64 0) := by rw [World.cell?_alloc_new]; rfl
  replace z0_1 := up_alloc (o := .cells #[.int .u8 0, .float .f64 0, .slice none 0 0, .float .f64 0, .float .f64 b, .float .f64 d, .bool false, .int .u16 0, .int .u16 0] 85) z0_1
  have z0_2 : (w.alloc (.cells #[.int .u8 0, .float .f64 0, .slice none 0 0, .float .f64 0, .float .f64 a, .float .f64 c, .bool false, .int .u16 0, .int .u16 0] 85)).cell? ⟨w.heap.size, 2, none⟩ = some (.slice none 0 0) := by rw [World.cell?_alloc_new]; rfl
  replace z0_2 := up_alloc (o := .cells #[.int .u8 0, .float .f64 0, .slice none 0 0, .float .f64 0, .float .f64 b, .float .f64 d, .bool false, .int .u16 0, .int .u16 0] 85) z0_2
  have z0_3 : (w.alloc (.cells #[.int .u8 0, .float .f64 0, .slice none 0 0, .float .f64 0, .float .f64 a, .float .f64 c, .bool false, .int .u16 0, .int .u16 0] 85)).cell? ⟨w.heap.size, 3, none⟩ = some (.float .f64 0) := by rw [World.cell?_alloc_new]; rfl
  replace z0_3 := up_alloc (o := .cells #[.int .u8 0, .float .f64 0, .slice none 0 0, .float .f64 0, .float .f64 b, .float .f64 d, .bool false, .int .u16 0, .int .u16 0] 85) z0_3
  have z0_4 : (w.alloc (.cells #[.int .u8 0, .float .f64 0, .slice none 0 0, .float .f64 0, .float .f64 a, .float .f64 c, .bool false, .int .u16 0, .int .u16 0] 85)).cell? ⟨w.heap.size, 4, none⟩ = some (.float .f64 a) := by rw [World.cell?_alloc_new]; rfl
  replace z0_4 := up_alloc (o := .cells #[.int .u8 0, .float .f64 0, .slice none 0 0, .float .f64 0, .float .f64 b, .float .f64 d, .bool false, .int .u16 0, .int .u16 0] 85) z0_4
  have z0_5 : (w.alloc (.cells #[.int .u8 0, .float .f64 0, .slice none 0 0, .float .f64 0, .float .f64 a, .float .f64 c, .bool false, .int .u16 0, .int .u16 0] 85)).cell? ⟨w.heap.size, 5, none⟩ = some (.float .f64 c) := by rw [World.cell?_alloc_new]; rfl
  replace z0_5 := up_alloc (o := .cells #[.int .u8 0, .float .f64 0, .slice none 0 0, .float .f64 0, .float .f64 b, .float .f64 d, .bool false, .int .u16 0, .int .u16 0] 85) z0_5
  have z0_6 : (w.alloc (.cells #[.int .u8 0, .float .f64 0, .slice none 0 0, .float .f64 0, .float .f64 a, .float .f64 c, .bool false, .int .u16 0, .int .u16 0] 85)).cell? ⟨w.heap.size, 6, none⟩ = some (.bool false) := by rw [World.cell?_alloc_new]; rfl
  replace z0_6 := up_alloc (o := .cells #[.int .u8 0, .float .f64 0, .slice none 0 0, .float .f64 0, .float .f64 b, .float .f64 d, .bool false, .int .u16 0, .int .u16 0] 85) z0_6
  have z0_7 : (w.alloc (.cells #[.int .u8 0, .float .f64 0, .slice none 0 0, .float .f64 0, .float .f64 a, .float .f64 c, .bool false, .int .u16 0, .int .u16 0] 85)).cell? ⟨w.heap.size, 7, none⟩ = some (.int .u16 0) := by rw [World.cell?_alloc_new]; rfl
  replace z0_7 := up_alloc (o := .cells #[.int .u8 0, .float .f64 0, .slice none 0 0, .float .f64 0, .float .f64 b, .float .f64 d, .bool false, .int .u16 0, .int .u16 0] 85) z0_7
  have z0_8 : (w.alloc (.cells #[.int .u8 0, .float .f64 0, .slice none 0 0, .float .f64 0, .float .f64 a, .float .f64 c, .bool false, .int .u16 0, .int .u16 0] 85)).cell? ⟨w.heap.size, 8, none⟩ = some (.int .u16 0) := by rw [World.cell?_alloc_new]; rfl
  replace z0_8 := up_alloc (o := .cells #[.int .u8 0, .float .f64 0, .slice none 0 0, .float .f64 0, .float .f64 b, .float .f64 d, .bool false, .int .u16 0, .int .u16 0] 85) z0_8
  have z1_0 : ((w.alloc (.cells #[.int .u8 0, .float .f64 0, .slice none 0 0, .float .f64 0, .float .f64 a, .float .f64 c, .bool false, .int .u16 0, .int .u16 0] 85)).alloc (.cells #[.int .u8 0, .float .f64 0, .slice none 0 0, .float .f64 0, .float .f64 b, .float .f64 d, .bool false, .int .u16 0, .int .u16 0] 85)).cell? ⟨w.heap.size + 1, 0, none⟩ = some (.int .u8 0) := by rw [← (show (w.alloc (.cells #[.int .u8 0, .float .f64 0, .slice none 0 0, .float .f64 0, .float .f64 a, .float .f64 c, .bool false, .int .u16 0, .int .u16 0] 85)).heap.size = w.heap.size + 1 by simp only [World.size_alloc]), World.cell?_alloc_new]; rfl
  have z1_1 : ((w.alloc (.cells #[.int .u8 0, .float .f64 0, .slice none 0 0, .float .f64 0, .float .f64 a, .float .f64 c, .bool false, .int .u16 0, .int .u16 0] 85)).alloc (.cells #[.int .u8 0, .float .f64 0, .slice none 0 0, .float .f64 0, .float .f64 b, .float .f64 d, .bool false, .int .u16 0, .int .u16 0] 85)).cell? ⟨w.heap.size + 1, 1, none⟩ = some (.float .f64 0) := by rw [← (show (w.alloc (.cells #[.int .u8 0, .float .f64 0, .slice none 0 0, .float .f64 0, .float .f64 a, .float .f64 c, .bool false, .int .u16 0, .int .u16 0] 85)).heap.size = w.heap.size + 1 by simp only [World.size_alloc]), World.cell?_alloc_new]; rfl
  have z1_2 : ((w.alloc (.cells #[.int .u8 0, .float .f64 0, .slice none 0 0, .float .f64 0, .float .f64 a, .float .f64 c, .bool false, .int .u16 0, .int .u16 0] 85)).alloc (.cells #[.int .u8 0, .float .f64 0, .slice none 0 0, .float .f64 0, .float .f64 b, .float .f64 d, .bool false, .int .u16 0, .int .u16 0] 85)).cell? ⟨w.heap.size + 1, 2, none⟩ = some (.slice none 0 0) := by rw [← (show (w.alloc (.cells #[.int .u8 0, .float .f64 0, .slice none 0 0, .float .f64 0, .float .f64 a, .float .f64 c, .bool false, .int .u16 0, .int .u16 0] 85)).heap.size = w.heap.size + 1 by simp only [World.size_alloc]), World.cell?_alloc_new]; rfl
  have z1_3 : ((w.alloc (.cells #[.int .u8 0, .float .f64 0, .slice none 0 0, .float .f64 0, .float .f64 a, .float .f64 c, .bool false, .int .u16 0, .int .u16 0] 85)).alloc (.cells #[.int .u8 0, .float .f64 0, .slice none 0 0, .float .f64 0, .float .f64 b, .float .f64 d, .bool false, .int .u16 0, .int .u16 0] 85)).cell? ⟨w.heap.size + 1, 3, none⟩ = some (.float .f64 0) := by rw [← (show (w.alloc (.cells #[.int .u8 0, .float .f64 0, .slice none 0 0, .float .f64 0, .float .f64 a, .float .f64 c, .bool false, .int .u16 0, .int .u16 0] 85)).heap.size = w.heap.size + 1 by simp only [World.size_alloc]), World.cell?_alloc_new]; rfl
  have z1_4 : ((w.alloc (.cells #[.int .u8 0, .float .f64 0, .slice none 0 0, .float .f64 0, .float .f64 a, .float .f64 c, .bool false, .int .u16 0, .int .u16 0] 85)).alloc (.cells #[.int .u8 0, .float .f64 0, .slice none 0 0, .float .f64 0, .float .f64 b, .float .f64 d, .bool false, .int .u16 0, .int .u16 0] 85)).cell? ⟨w.heap.size + 1, 4, none⟩ = some (.float .f64 b) := by rw [← (show (w.alloc (.cells #[.int .u8 0, .float .f64 0, .slice none 0 0, .float .f64 0, .float .f64 a, .float .f64 c, .bool false, .int .u16 0, .int .u16 0] 85)).heap.size = w.heap.size + 1 by simp only [World.size_alloc]), World.cell?_alloc_new]; rfl
  have z1_5 : ((w.alloc (.cells #[.int .u8 0, .float .f64 0, .slice none 0 0, .float .f64 0, .float .f64 a, .float .f64 c, .bool false, .int .u16 0, .int .u16 0] 85)).alloc (.cells #[.int .u8 0, .float .f64 0, .slice none 0 0, .float .f64 0, .float .f64 b, .float .f64 d, .bool false, .int .u16 0, .int .u16 0] 85)).cell? ⟨w.heap.size + 1, 5, none⟩ = some (.float .f64 d) := by rw [← (show (w.alloc (.cells #[.int .u8 0, .float .f64 0, .slice none 0 0, .float .f64 0, .float .f64 a, .float .f64 c, .bool false, .int .u16 0, .int .u16 0] 85)).heap.size = w.heap.size + 1 by simp only [World.size_alloc]), World.cell?_alloc_new]; rfl
  have z1_6 : ((w.alloc (.cells #[.int .u8 0, .float .f64 0, .slice none 0 0, .float .f64 0, .float .f64 a, .float .f64 c, .bool false, .int .u16 0, .int .u16 0] 85)).alloc (.cells #[.int .u8 0, .float .f64 0, .slice none 0 0, .float .f64 0, .float .f64 b, .float .f64 d, .bool false, .int .u16 0, .int .u16 0] 85)).cell? ⟨w.heap.size + 1, 6, none⟩ = some (.bool false) := by rw [← (show (w.alloc (.cells #[.int .u8 0, .float .f64 0, .slice none 0 0, .float .f64 0, .float .f64 a, .float .f64 c, .bool false, .int .u16 0, .int .u16 0] 85)).heap.size = w.heap.size + 1 by simp only [World.size_alloc]), World.cell?_alloc_new]; rfl
  have z1_7 : ((w.alloc (.cells #[.int .u8 0, .float .f64 0, .slice none 0 0, .float .f64 0, .float .f64 a, .float .f64 c, .bool false, .int .u16 0, .int .u16 0] 85)).alloc (.cells #[.int .u8 0, .float .f64 0, .slice none 0 0, .float .f64 0, .float .f64 b, .float .f64 d, .bool false, .int .u16 0, .int .u16 0] 85)).cell? ⟨w.heap.size + 1, 7, none⟩ = some (.int .u16 0) := by rw [← (show (w.alloc (.cells #[.int .u8 0, .float .f64 0, .slice none 0 0, .float .f64 0, .float .f64 a, .float .f64 c, .bool false, .int .u16 0, .int .u16 0] 85)).heap.size = w.heap.size + 1 by simp only [World.size_alloc]), World.cell?_alloc_new]; rfl
  have z1_8 : ((w.alloc (.cells #[.int .u8 0, .float .f64 0, .slice none 0 0, .float .f64 0, .float .f64 a, .float .f64 c, .bool false, .int .u16 0, .int .u16 0] 85)).alloc (.cells #[.int .u8 0, .float .f64 0, .slice none 0 0, .float .f64 0, .float .f64 b, .float .f64 d, .bool false, .int .u16 0, .int .u16 0] 85)).cell? ⟨w.heap.size + 1, 8, none⟩ = some (.int .u16 0) := by rw [← (show (w.alloc (.cells #[.int .u8 0, .float .f64 0, .slice none 0 0, .float .f64 0, .float .f64 a, .float .f64 c, .bool false, .int .u16 0, .int .u16 0] 85)).heap.size = w.heap.size + 1 by simp only [World.size_alloc]), World.cell?_alloc_new]; rfl
  have B0 : Bel w ((w.alloc (.cells #[.int .u8 0, .float .f64 0, .slice none 0 0, .float .f64 0, .float .f64 a, .float .f64 c, .bool false, .int .u16 0, .int .u16 0] 85)).alloc (.cells #[.int .u8 0, .float .f64 0, .slice none 0 0, .float .f64 0, .float .f64 b, .float .f64 d, .bool false, .int .u16 0, .int .u16 0] 85)) := bl_alloc (bl_alloc (bl_refl w) _ _) _ _
  go_enter Try.func45, Try.ntmps45
  go_wp2
  refine wp_region_mono 13 rfl (fun i W v => match i with | 0 => v = .pointer (some ⟨w.heap.size, 4, none⟩) | 1 => v = .float .f64 a | 2 => v = .pointer (some ⟨w.heap.size + 1, 4, none⟩) | 3 => v = .float .f64 b | 4 => ∃ p, isF p (oF .mul (bitsK a) (bitsK b)) ∧ v = .float .f64 p | 5 => ∃ p, isF p (qF (oF .mul (bitsK a) (bitsK b))) ∧ v = .float .f64 p | 6 => v = .pointer (some ⟨w.heap.size, 5, none⟩) | 7 => v = .float .f64 c | 8 => v = .pointer (some ⟨w.heap.size + 1, 5, none⟩) | 9 => v = .float .f64 d | 10 => v = .float .f64 (mostK .f64 c d) | 11 => ∃ p, isF p (qF (oF .mul (bitsK a) (bitsK b))) ∧ v = .float .f64 p | 12 => v = .float .f64 (mostK .f64 c d) | _ => False) ?A_mi (by kernel_rfl) (by kernel_rfl) ?hA_mi ?hmo_mi ?hq_mi ?ht_mi
  case hA_mi =>
    intro s
    simp only [putL, dstO, Act.put, List.getElem?_toArray, List.getElem?_cons_zero, List.getElem?_cons_succ, Option.bind_some, List.setIfInBounds_toArray, List.set_cons_zero, List.set_cons_succ, if_true]
    all_goals exact rfl
  case hmo_mi =>
    intro i W W' v hi hb h
    rcases (show i = 0 ∨ i = 1 ∨ i = 2 ∨ i = 3 ∨ i = 4 ∨ i = 5 ∨ i = 6 ∨ i = 7 ∨ i = 8 ∨ i = 9 ∨ i = 10 ∨ i = 11 ∨ i = 12 by omega) with rfl | rfl | rfl | rfl | rfl | rfl | rfl | rfl | rfl | rfl | rfl | rfl | rfl
    all_goals exact h
  case hq_mi =>
    intro i o hi ho s W hs hb K hK
    have q1 := run_mul Try.prog; have uz0_0 := keep hb z0_0; have uz0_1 := keep hb z0_1; have uz0_2 := keep hb z0_2; have uz0_3 := keep hb z0_3; have uz0_4 := keep hb z0_4; have uz0_5 := keep hb z0_5; have uz0_6 := keep hb z0_6; have uz0_7 := keep hb z0_7; have uz0_8 := keep hb z0_8; have uz1_0 := keep hb z1_0; have uz1_1 := keep hb z1_1; have uz1_2 := keep hb z1_2; have uz1_3 := keep hb z1_3; have uz1_4 := keep hb z1_4; have uz1_5 := keep hb z1_5; have uz1_6 := keep hb z1_6; have uz1_7 := keep hb z1_7; have uz1_8 := keep hb z1_8
    rcases (show i = 0 ∨ i = 1 ∨ i = 2 ∨ i = 3 ∨ i = 4 ∨ i = 5 ∨ i = 6 ∨ i = 7 ∨ i = 8 ∨ i = 9 ∨ i = 10 ∨ i = 11 ∨ i = 12 by omega) with rfl | rfl | rfl | rfl | rfl | rfl | rfl | rfl | rfl | rfl | rfl | rfl | rfl
    · cases ho
      simp only [Act.put, List.setIfInBounds_toArray, List.set_cons_zero, List.set_cons_succ] at hK
      clear hs
      go_simp
      all_goals first | with_reducible exact hK.out _ _ rfl (bl_refl _) | exact hK.out _ _ rfl (bl_refl _)
    · cases ho
      have e0 : s 0 = _ := hs 0 (by decide) (by kernel_rfl)
      simp only [e0] at hK ⊢
      simp only [Act.put, List.setIfInBounds_toArray, List.set_cons_zero, List.set_cons_succ] at hK
      clear hs
      go_simp
      all_goals first | with_reducible exact hK.out _ _ rfl (bl_refl _) | exact hK.out _ _ rfl (bl_refl _)
    · cases ho
      simp only [Act.put, List.setIfInBounds_toArray, List.set_cons_zero, List.set_cons_succ] at hK
      clear hs
      go_simp
      all_goals first | with_reducible exact hK.out _ _ rfl (bl_refl _) | exact hK.out _ _ rfl (bl_refl _)
    · cases ho
      have e2 : s 2 = _ := hs 2 (by decide) (by kernel_rfl)
      simp only [e2] at hK ⊢
      simp only [Act.put, List.setIfInBounds_toArray, List.set_cons_zero, List.set_cons_succ] at hK
      clear hs
      go_simp
      all_goals first | with_reducible exact hK.out _ _ rfl (bl_refl _) | exact hK.out _ _ rfl (bl_refl _)
    · cases ho
      have e1 : s 1 = _ := hs 1 (by decide) (by kernel_rfl)
      have e3 : s 3 = _ := hs 3 (by decide) (by kernel_rfl)
      simp only [e1, e3] at hK ⊢
      simp only [Act.put, List.setIfInBounds_toArray, List.set_cons_zero, List.set_cons_succ] at hK
      clear hs
      go_simp
      all_goals first | with_reducible exact hK.out _ _ ⟨_, o_is _ (isF_r oa) (isF_r ob), rfl⟩ (by first | exact bl_refl _ | exact bl_drewN (bl_refl _) _ | exact bl_drew (bl_refl _)) | exact hK.out _ _ ⟨_, o_is _ (isF_r oa) (isF_r ob), rfl⟩ (by first | exact bl_refl _ | exact bl_drewN (bl_refl _) _ | exact bl_drew (bl_refl _)) | with_reducible exact hK.out _ _ rfl (bl_refl _) | exact hK.out _ _ rfl (bl_refl _)
    · cases ho
      obtain ⟨p4, h4, e4⟩ := hs 4 (by decide) (by kernel_rfl)
      simp only [e4] at hK ⊢
      simp only [Act.put, List.setIfInBounds_toArray, List.set_cons_zero, List.set_cons_succ] at hK
      clear hs
      go_simp
      all_goals (try go_wp2_with (first | (go_at_call 86; (with_reducible refine (sqrt_i _ h4).mono ?_); rintro e w' ⟨r, n, hr, rfl, rfl⟩)))
      all_goals first | with_reducible exact hK.out _ _ ⟨_, hr, rfl⟩ (bl_drewN (bl_refl _) _) | exact hK.out _ _ ⟨_, hr, rfl⟩ (bl_drewN (bl_refl _) _) | with_reducible exact hK.out _ _ rfl (bl_refl _) | exact hK.out _ _ rfl (bl_refl _)
    · cases ho
      simp only [Act.put, List.setIfInBounds_toArray, List.set_cons_zero, List.set_cons_succ] at hK
      clear hs
      go_simp
      all_goals first | with_reducible exact hK.out _ _ rfl (bl_refl _) | exact hK.out _ _ rfl (bl_refl _)
    · cases ho
      have e6 : s 6 = _ := hs 6 (by decide) (by kernel_rfl)
      simp only [e6] at hK ⊢
      simp only [Act.put, List.setIfInBounds_toArray, List.set_cons_zero, List.set_cons_succ] at hK
      clear hs
      go_simp
      all_goals first | with_reducible exact hK.out _ _ rfl (bl_refl _) | exact hK.out _ _ rfl (bl_refl _)
    · cases ho
      simp only [Act.put, List.setIfInBounds_toArray, List.set_cons_zero, List.set_cons_succ] at hK
      clear hs
      go_simp
      all_goals first | with_reducible exact hK.out _ _ rfl (bl_refl _) | exact hK.out _ _ rfl (bl_refl _)
    · cases ho
      have e8 : s 8 = _ := hs 8 (by decide) (by kernel_rfl)
      simp only [e8] at hK ⊢
      simp only [Act.put, List.setIfInBounds_toArray, List.set_cons_zero, List.set_cons_succ] at hK
      clear hs
      go_simp
      all_goals first | with_reducible exact hK.out _ _ rfl (bl_refl _) | exact hK.out _ _ rfl (bl_refl _)
    · cases ho
      have e7 : s 7 = _ := hs 7 (by decide) (by kernel_rfl)
      have e9 : s 9 = _ := hs 9 (by decide) (by kernel_rfl)
      simp only [e7, e9] at hK ⊢
      simp only [Act.put, List.setIfInBounds_toArray, List.set_cons_zero, List.set_cons_succ] at hK
      clear hs
      go_simp
      all_goals (try go_wp2_with (first | (go_at_call 78; refine (most_6 _ _ _).mono ?_; rintro e w' ⟨rfl, rfl⟩)))
      all_goals first | with_reducible exact hK.out _ _ rfl (bl_refl _) | exact hK.out _ _ rfl (bl_refl _)
    · cases ho
      obtain ⟨p5, h5, e5⟩ := hs 5 (by decide) (by kernel_rfl)
      simp only [e5] at hK ⊢
      simp only [Act.put, List.setIfInBounds_toArray, List.set_cons_zero, List.set_cons_succ] at hK
      clear hs
      go_simp
      all_goals first | with_reducible exact hK.out _ _ ⟨_, h5, rfl⟩ (bl_refl _) | exact hK.out _ _ ⟨_, h5, rfl⟩ (bl_refl _) | with_reducible exact hK.out _ _ rfl (bl_refl _) | exact hK.out _ _ rfl (bl_refl _)
    · cases ho
      have e10 : s 10 = _ := hs 10 (by decide) (by kernel_rfl)
      simp only [e10] at hK ⊢
      simp only [Act.put, List.setIfInBounds_toArray, List.set_cons_zero, List.set_cons_succ] at hK
      clear hs
      go_simp
      all_goals first | with_reducible exact hK.out _ _ rfl (bl_refl _) | exact hK.out _ _ rfl (bl_refl _)
  case ht_mi =>
    intro s W hs hb
    have e0 : s 0 = _ := hs 0 (by decide)
    have e1 : s 1 = _ := hs 1 (by decide)
    have e2 : s 2 = _ := hs 2 (by decide)
    have e3 : s 3 = _ := hs 3 (by decide)
    obtain ⟨p4, h4, e4⟩ := hs 4 (by decide)
    obtain ⟨p5, h5, e5⟩ := hs 5 (by decide)
    have e6 : s 6 = _ := hs 6 (by decide)
    have e7 : s 7 = _ := hs 7 (by decide)
    have e8 : s 8 = _ := hs 8 (by decide)
    have e9 : s 9 = _ := hs 9 (by decide)
    have e10 : s 10 = _ := hs 10 (by decide)
    obtain ⟨p11, h11, e11⟩ := hs 11 (by decide)
    have e12 : s 12 = _ := hs 12 (by decide)
    simp only [e0, e1, e2, e3, e4, e5, e6, e7, e8, e9, e10, e11, e12]
    clear hs e0 e1 e2 e3 e4 e5 e6 e7 e8 e9 e10 e11 e12
    repeat (first | go_values | go_skip | go_guarded | go_step | go_upon | go_back | dsimp only)
    refine bodyPost_ret (v := .tuple #[.float .f64 p11, .float .f64 (mostK .f64 c d)]) (by kernel_rfl) rfl ⟨_, h11, rfl, bl_trans B0 hb⟩


end Go.Proofs.Ytfohggiehbplkaa
