/-
  What num.Sum answers over a slice, what package math's Copysign, NaN, Inf and Signbit answer where they are asked here, and that the chapter's first examples hold ('alive').
-/
import Derived.Test.YtpehgaojjfobeabNum
import Derived.WalkKit
import Derived.WalkLawsBesides
import Derived.WalkSpells
import Derived.ProofKit
import Derived.OpenShut
namespace Go.Proofs.Ytpehgaojjfobeab
open Go.ChangeShapes Go.WideShapes Go.ChangeAt Go.RowKit

theorem from_int (n : Int) (w : World) : (callFunc 20 #[.int .u64 n]).run Try.prog w = .ok (.value (.float .f64 n.toNat)) w := by
  rw [run_callFunc_extern Try.func20 (by kernel_rfl) (by kernel_rfl) (by kernel_rfl) (f := 20) (e := Extern.MathFloatBits.float64frombits) (by kernel_rfl)]
  rfl
theorem sign_wrap (a : Nat) : decide (wrap64 (a : Int) < 0) = ngK .f64 a := by
  rw [ng64, Bool.eq_iff_iff]
  unfold wrap64
  simp only [decide_eq_true_eq, beq_iff_eq]
  omega
theorem nan_any (w : World) : Calls Try.prog 23 #[] w fun e w' => e = .returned (.float .f64 9221120237041090561) ∧ w' = w := by
  have hb := from_int
  go_enter Try.func23, Try.ntmps23
  go_wp2
  go_ret
  exact ⟨rfl, rfl⟩
theorem inf_pos (w : World) : Calls Try.prog 18 #[.int .i64 1] w fun e w' => e = .returned (.float .f64 9218868437227405312) ∧ w' = w := by
  have hb := from_int
  go_enter Try.func18, Try.ntmps18
  go_wp2
  go_ret
  exact ⟨rfl, rfl⟩
theorem inf_neg (w : World) : Calls Try.prog 18 #[.int .i64 (-1)] w fun e w' => e = .returned (.float .f64 18442240474082181120) ∧ w' = w := by
  have hb := from_int
  go_enter Try.func18, Try.ntmps18
  go_wp2
  go_ret
  exact ⟨rfl, rfl⟩
theorem copysign_mz (w : World) : Calls Try.prog 22 #[.float .f64 0, .float .f64 13830554455654793216] w fun e w' => e = .returned (.float .f64 9223372036854775808) ∧ w' = w := by
  have hb := bits_run
  have hf := from_int
  have e1 : bits .andNot .u64 0 9223372036854775808 = 0 := by decide +kernel
  have e2 : bits .and .u64 13830554455654793216 9223372036854775808 = 9223372036854775808 := by decide +kernel
  have e3 : bits .or .u64 0 9223372036854775808 = 9223372036854775808 := by decide +kernel
  go_enter Try.func22, Try.ntmps22
  go_wp2
  go_ret
  exact ⟨rfl, rfl⟩
theorem signbit_any (a : Nat) (w : World) : Calls Try.prog 24 #[.float .f64 a] w fun e w' => e = .returned (.bool (ngK .f64 a)) ∧ w' = w := by
  have hb := bits_run
  have hs := sign_wrap a
  go_enter Try.func24, Try.ntmps24
  go_wp2
  go_ret
  exact ⟨rfl, rfl⟩

/-- a running sum: from s0, the first k of xs added one by one -/
def accR (s0 : Nat) (xs : Nat → Nat) (k s : Nat) : Prop := ∃ f : Nat → Nat, f 0 = s0 ∧ f k = s ∧ ∀ i, i < k → resK .add .f64 (f i) (xs i) (f (i + 1))

theorem accR_zero (s0 : Nat) (xs : Nat → Nat) : accR s0 xs 0 s0 := ⟨fun _ => s0, rfl, rfl, fun i h => by omega⟩
theorem accR_succ {s0 : Nat} {xs : Nat → Nat} {k s r : Nat} (h : accR s0 xs k s) (hr : resK .add .f64 s (xs k) r) : accR s0 xs (k + 1) r := by
  obtain ⟨f, h0, h1, h2⟩ := h
  refine ⟨fun i => if i ≤ k then f i else r, by simp [h0], by simp only []; rw [if_neg (by omega)], fun i hi => ?_⟩
  by_cases e : i = k
  · subst e
    simp only []
    rw [if_pos (Nat.le_refl _), if_neg (by omega), h1]; exact hr
  · simp only []
    rw [if_pos (by omega), if_pos (by omega)]
    exact h2 i (by omega)

theorem sum_some (b off n cap : Nat) (xs : Nat → Nat) (w : World) (hn : n + 1 ≤ maxLen) (hcap : n + 1 ≤ cap) (hc : ∀ i, i < n + 1 → w.cell? ⟨b, off + i, none⟩ = some (.float .f64 (xs i))) :
    Calls Try.prog 25 #[.slice (some ⟨b, off, none⟩) (n + 1) cap] w fun e w' => ∃ s m, accR (xs 0) (fun i => xs (i + 1)) n s ∧ e = .returned (.float .f64 s) ∧ w' = w.drewN m := by
  unfold maxLen at hn
  have q := run_add Try.prog
  have h0 := hc 0 (by omega)
  have hz : (((n : Int) + 1) == 0) = false := by simp; omega
  simp only [Nat.add_zero] at h0
  by_cases hcap1 : cap = 1
  · have hn0 : n = 0 := by omega
    subst hn0
    go_enter Try.func25, Try.ntmps25
    go_wp2
    go_loopw [3, 15] (fun s i wr => i = .int .i64 0 ∧ s = .float .f64 (xs 0) ∧ wr = w) (fun _ i _ => 0)
    case atStart => exact ⟨rfl, rfl, rfl⟩
    case round =>
      obtain ⟨rfl, rfl, rfl⟩ := hrel
      go_wp2
      go_ret
      exact ⟨xs 0, 0, accR_zero _ _, rfl, rfl⟩
  · go_enter Try.func25, Try.ntmps25
    go_wp2
    go_loopw [3, 15] (fun s i wr => ∃ k a m : Nat, k ≤ n ∧ i = .int .i64 k ∧ s = .float .f64 a ∧ wr = w.drewN m ∧ accR (xs 0) (fun i => xs (i + 1)) k a) (fun _ i _ => n - (intOf i).toNat)
    case atStart => exact ⟨0, xs 0, 0, by omega, rfl, rfl, rfl, accR_zero _ _⟩
    case round =>
      obtain ⟨k, a, m, hk, rfl, rfl, rfl, hacc⟩ := hrel
      by_cases hlt : k < n
      · have hcx := hc (k + 1) (by omega)
        rw [show off + (k + 1) = off + 1 + k by omega] at hcx
        go_wp2
        exact ⟨⟨k + 1, _, _, by omega, by go_num, rfl, rfl, accR_succ hacc (fv_res _ _ _ _ _)⟩, by simp [intOf]; omega⟩
      · have hkn : k = n := by omega
        subst hkn
        go_wp2
        go_ret
        exact ⟨a, m, hacc, rfl, rfl⟩

theorem sum_none (v : Option Addr) (cap : Nat) (w : World) :
    Calls Try.prog 25 #[.slice v 0 cap] w fun e w' => e = .returned (.float .f64 0) ∧ w' = w := by
  go_enter Try.func25, Try.ntmps25
  go_wp2
  go_ret
  exact ⟨rfl, rfl⟩

theorem res_some {op : BinOp} {k : FloatKind} {x y r c : Nat} (h : resK op k x y r) (e : floatBits op k x y = some c) : r = c := by
  rcases h.2 with h | ⟨h, _⟩
  · rw [e] at h; exact (Option.some.inj h).symm
  · rw [e] at h; cases h

theorem alive_between (w : World) : Calls Try.prog 16 #[.float .f64 4607182418800017408, .float .f64 4613937818241073152, .float .f64 4602678819172646912] w fun e w' => ∃ n, e = .returned (.float .f64 4611686018427387904) ∧ w' = w.drewN n := by
  refine (between_any _ _ _ _).mono ?_
  rintro e w' ⟨x, y, z, n, h1, h2, h3, rfl, rfl⟩
  have e1 := res_some h1 (show floatBits .sub .f64 4613937818241073152 4607182418800017408 = some 4611686018427387904 by decide +kernel)
  subst e1
  have e2 := res_some h2 (show floatBits .mul .f64 4602678819172646912 4611686018427387904 = some 4607182418800017408 by decide +kernel)
  subst e2
  have e3 := res_some h3 (show floatBits .add .f64 4607182418800017408 4607182418800017408 = some 4611686018427387904 by decide +kernel)
  subst e3
  exact ⟨n, rfl, rfl⟩

/-- three numbers as a function -/
def three (a b c : Nat) : Nat → Nat
  | 0 => a
  | 1 => b
  | _ => c

theorem alive_sum (w : World) : Calls Try.prog 25 #[.slice (some ⟨w.heap.size, 0, none⟩) 3 3] (w.alloc (.cells #[.float .f64 4607182418800017408, .float .f64 4845873199050653696, .float .f64 4607182418800017408] 23)) fun e w' => ∃ n, e = .returned (.float .f64 4845873199050653696) ∧ w' = (w.alloc (.cells #[.float .f64 4607182418800017408, .float .f64 4845873199050653696, .float .f64 4607182418800017408] 23)).drewN n := by
  refine (sum_some w.heap.size 0 2 3 (three 4607182418800017408 4845873199050653696 4607182418800017408) _ (by decide) (by omega) ?_).mono ?_
  · intro i hi
    match i, hi with
    | 0, _ => simp [three]
    | 1, _ => simp [three]
    | 2, _ => simp [three]
  · rintro e w' ⟨s, m, ⟨f, f0, f2, hf⟩, rfl, rfl⟩
    have h0 := hf 0 (by omega)
    have h1 := hf 1 (by omega)
    rw [f0] at h0
    have e1 := res_some h0 (show floatBits .add .f64 4607182418800017408 4845873199050653696 = some 4845873199050653696 by decide +kernel)
    rw [e1] at h1
    have e2 := res_some h1 (show floatBits .add .f64 4845873199050653696 4607182418800017408 = some 4845873199050653696 by decide +kernel)
    rw [← f2]
    exact ⟨m, by rw [e2], rfl⟩

theorem alive_any (w : World) : Calls Try.prog 8 #[] w fun e w' => ∃ n, e = .returned (.bool true) ∧ w' = (w.alloc (.cells #[.float .f64 4607182418800017408, .float .f64 4845873199050653696, .float .f64 4607182418800017408] 23)).drewN n := by
  have c1 := cmp_eq .f64
  have o0 : okK .f64 0 := by rw [okK64]; omega
  have o1 : okK .f64 9223372036854775808 := by rw [okK64]; omega
  have o2 : okK .f64 9221120237041090561 := by rw [okK64]; omega
  have o3 : okK .f64 4609434218613702656 := by rw [okK64]; omega
  have o4 : okK .f64 18442240474082181120 := by rw [okK64]; omega
  have s6 := smK_self .f64
  have t1 : smK .f64 0 9223372036854775808 = false := by decide +kernel
  have t2 : leastK .f64 0 9223372036854775808 = 9223372036854775808 := by decide +kernel
  have t3 : ngK .f64 9223372036854775808 = true := by decide +kernel
  have t4 : leastK .f64 9221120237041090561 4607182418800017408 = 4607182418800017408 := by decide +kernel
  have t5 : eqK .f64 4607182418800017408 4607182418800017408 = true := by decide +kernel
  have t6 : clK .f64 9221120237041090561 0 4613937818241073152 = 0 := by decide +kernel
  have t7 : eqK .f64 0 0 = true := by decide +kernel
  have t8 : clK .f64 4617315517961601024 0 4613937818241073152 = 4613937818241073152 := by decide +kernel
  have t9 : eqK .f64 4613937818241073152 4613937818241073152 = true := by decide +kernel
  have t10 : ordK 9221120237041090561 18442240474082181120 = -1 := by decide +kernel
  have t11 : ordK 9223372036854775808 0 = -1 := by decide +kernel
  have t12 : eqK .f64 4845873199050653696 4845873199050653696 = true := by decide +kernel
  have t13 : eqK .f64 4611686018427387904 4611686018427387904 = true := by decide +kernel
  have t14 : bitsK 9221120237041090561 = 9221120237041090560 := by decide +kernel
  go_enter Try.func8, Try.ntmps8
  go_wp2_with (first | (go_at_call 22; refine (copysign_mz _).mono ?_; rintro e w' ⟨rfl, rfl⟩) | (go_at_call 23; refine (nan_any _).mono ?_; rintro e w' ⟨rfl, rfl⟩) | (go_at_call 18; refine (inf_neg _).mono ?_; rintro e w' ⟨rfl, rfl⟩) | (go_at_call 24; refine (signbit_any _ _).mono ?_; rintro e w' ⟨rfl, rfl⟩) | (go_at_call 16; refine (alive_between _).mono ?_; rintro e w' ⟨n, rfl, rfl⟩) | (go_at_call 25; refine (alive_sum _).mono ?_; rintro e w' ⟨n, rfl, rfl⟩) | (go_at_call 6; refine (f_any _ _).mono ?_; rintro e w' ⟨rfl, rfl⟩) | (go_at_call 9; refine (same_6 _ _ _ (by assumption) (by assumption)).mono ?_; rintro e w' ⟨rfl, rfl⟩) | (go_at_call 15; refine (finite_6 _ _).mono ?_; rintro e w' ⟨n, rfl, rfl⟩) | (go_at_call 17; refine (within_6 _ _ _).mono ?_; rintro e w' ⟨rfl, rfl⟩) | (go_at_call 14; refine (clamp_6 _ _ _ _).mono ?_; rintro e w' ⟨rfl, rfl⟩) | (go_at_call 10; refine (least_6 _ _ _).mono ?_; rintro e w' ⟨rfl, rfl⟩) | (go_at_call 11; refine (most_6 _ _ _).mono ?_; rintro e w' ⟨rfl, rfl⟩) | (go_at_call 19; refine (sign_6 _ _).mono ?_; rintro e w' ⟨rfl, rfl⟩) | (go_at_call 7; refine (order_any _ _ _ (by assumption) (by assumption)).mono ?_; rintro e w' ⟨rfl, rfl⟩) | (go_at_call 13; refine (bits_any _ _).mono ?_; rintro e w' ⟨rfl, rfl⟩) | (go_at_call 12; refine (from_any _ _).mono ?_; rintro e w' ⟨rfl, rfl⟩) | (go_at_call 16; refine (between_any _ _ _ _).mono ?_; rintro e w' ⟨x1, x2, x3, n, hx1, hx2, hx3, rfl, rfl⟩; have ox3 := hx3.1))
  go_ret
  exact ⟨_, rfl, rfl⟩

end Go.Proofs.Ytpehgaojjfobeab
