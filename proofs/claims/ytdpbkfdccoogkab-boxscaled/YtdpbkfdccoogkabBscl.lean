/-
  What each function of package box answers, and what the reference of its chapter answers: one contract a function, for every float: the answer stands in the relation of its formula to what was given; of the memory that was there nothing has turned.
-/
import Derived.Test.YtdpbkfdccoogkabVec
import Derived.Test.YtdpbkfdccoogkabBmore
import Derived.Test.YtdpbkfdccoogkabBsc
import Derived.Below
import Derived.WalkKit
import Derived.WalkLawsBesides
import Derived.WalkSpells
import Derived.ProofKit
import Derived.OpenShut
import Derived.Deep.RegionHeld3
namespace Go.Proofs.Ytdpbkfdccoogkab
open Go.ChangeShapes Go.WideShapes Go.ChangeAt Go.RowKit
set_option linter.unusedVariables false
set_option linter.unusedSimpArgs false

theorem isInf_one (w : World) : Calls Try.prog 42 #[.float .f64 4607182418800017408, .int .i64 0] w fun e w' => e = .returned (.bool false) ∧ w' = w := by
  have c3 := cmp_gt .f64
  have o1 : okK .f64 4607182418800017408 := one_okK
  have r1 : rgK .f64 4607182418800017408 = 4607182418800017408 := by decide +kernel
  have e1 : ltK .f64 9218868437227405311 4607182418800017408 = false := by decide +kernel
  go_enter Try.func42, Try.ntmps42
  go_wp2_with (first | (go_at_call 23; refine (abs_any _ _ (by assumption)).mono ?_; rintro e w' ⟨rfl, rfl⟩))
  go_ret
  exact ⟨rfl, rfl⟩
theorem isNaN_one (w : World) : Calls Try.prog 43 #[.float .f64 4607182418800017408] w fun e w' => e = .returned (.bool false) ∧ w' = w := by
  have c1 := cmp_ne .f64
  have e1 : eqK .f64 4607182418800017408 4607182418800017408 = true := by decide +kernel
  go_enter Try.func43, Try.ntmps43
  go_wp2
  go_ret
  exact ⟨rfl, rfl⟩
theorem normalize_one (w : World) : Calls Try.prog 44 #[.float .f64 4607182418800017408] w fun e w' => e = .returned (.tuple #[.float .f64 4607182418800017408, .int .i64 0]) ∧ w' = w := by
  have c2 := cmp_lt .f64
  have o1 : okK .f64 4607182418800017408 := one_okK
  have r1 : rgK .f64 4607182418800017408 = 4607182418800017408 := by decide +kernel
  have e1 : ltK .f64 4607182418800017408 4503599627370496 = false := by decide +kernel
  go_enter Try.func44, Try.ntmps44
  go_wp2_with (first | (go_at_call 23; refine (abs_any _ _ (by assumption)).mono ?_; rintro e w' ⟨rfl, rfl⟩))
  go_ret2
  exact ⟨rfl, rfl⟩
theorem ldexp_in (e : Int) (h1 : -100 ≤ e) (h2 : e ≤ 100) (w : World) : Calls Try.prog 25 #[.float .f64 4607182418800017408, .int .i64 e] w fun e' w' => e' = .returned (.float .f64 (pw e)) ∧ w' = w := by
  have c1 := cmp_eq .f64
  have e0 : eqK .f64 4607182418800017408 0 = false := by decide +kernel
  have hb := bits_run
  have hf := from_int
  have e1 : bits .and .i64 1023 2047 = 1023 := by decide +kernel
  have e2 : bits .andNot .u64 4607182418800017408 9218868437227405312 = 0 := by decide +kernel
  have e3 : (bits .or .u64 0 ((e + 1023) * 4503599627370496)).toNat = pw e := by
    obtain ⟨n, hn⟩ : ∃ n : Nat, (e + 1023) * 4503599627370496 = (n : Int) := ⟨((e + 1023) * 4503599627370496).toNat, by omega⟩
    have := u64_or_nat 0 n (by omega) (by omega)
    rw [Nat.zero_or, Int.natCast_zero] at this
    unfold pw
    rw [hn, this]
  have e4 : ∀ (t : TypeId) (w : World), (binOp .mul t (.float .f64 4607182418800017408) (.float .f64 (pw e))).run Try.prog w = .ok (.float .f64 (pw e)) w := by
    intro t w
    obtain ⟨j, _, _, ff, fo⟩ := pw_sc h1 h2
    have := one_mul (pw e) ff fo
    rw [run_mul]
    unfold fv fd
    rw [show floatBits .mul .f64 4607182418800017408 (pw e) = some (pw e) from this]
    rfl
  go_enter Try.func25, Try.ntmps25
  go_wp2_with (first | (go_at_call 42; refine (isInf_one _).mono ?_; rintro e w' ⟨rfl, rfl⟩) | (go_at_call 43; refine (isNaN_one _).mono ?_; rintro e w' ⟨rfl, rfl⟩) | (go_at_call 44; refine (normalize_one _).mono ?_; rintro e w' ⟨rfl, rfl⟩))
  go_ret
  exact ⟨rfl, rfl⟩
theorem ldexp_one (e : Int) (h1 : -100 ≤ e) (h2 : e ≤ 100) (w : World) : Calls Try.prog 6 #[.float .f64 4607182418800017408, .int .i64 e] w fun e' w' => e' = .returned (.float .f64 (pw e)) ∧ w' = w := by
  go_enter Try.func6, Try.ntmps6
  go_wp2_with (first | (go_at_call 25; refine (ldexp_in _ (by assumption) (by assumption) _).mono ?_; rintro e w' ⟨rfl, rfl⟩))
  go_ret
  exact ⟨rfl, rfl⟩

theorem eq_nought (x : Nat) (o : okK .f64 x) : eqK .f64 (rgK .f64 x) 0 = decide (rgK .f64 x = 0) := by
  rw [eqK_nought]
  have : rgK .f64 (rgK .f64 x) = rgK .f64 x := by rw [rg64, rg64]; omega
  rw [this]
set_option maxHeartbeats 1000000 in
theorem lmidd_any (x y : Nat) (w : World) (ox : okK .f64 x) (oy : okK .f64 y) : Calls Try.prog 5 #[.agg #[.float .f64 x, .float .f64 y]] w fun e w' => e = .returned (.bool (plB x && plB y)) ∧ Bel w w' := by
  have c1 := cmp_eq .f64
  have c2 := cmp_lt .f64
  have c3 := cmp_gt .f64
  have c4 := cmp_le2 .f64
  have c5 := cmp_ge2 .f64
  have e1 := eq_nought x ox
  have e2 := eq_nought y oy
  unfold plB
  by_cases h1 : rgK .f64 x = 0 <;> cases h2 : leK .f64 3706462493325918208 (rgK .f64 x) <;> cases h3 : leK .f64 (rgK .f64 x) 5507902344274116608 <;> by_cases h4 : rgK .f64 y = 0 <;> cases h5 : leK .f64 3706462493325918208 (rgK .f64 y)
  all_goals
    go_enter Try.func5, Try.ntmps5
    go_wp2_with (first | (go_at_call 23; refine (abs_any _ _ (by assumption)).mono ?_; rintro e w' ⟨rfl, rfl⟩))
    go_ret
    refine ⟨by simp [h1, h2, h3, h4, h5], ?_⟩
    repeat (first | exact bl_refl _ | assumption | apply bl_drewN | apply bl_drew | apply bl_alloc | refine bl_set ?_ (by simp <;> omega) | refine bl_trans ?_ (by assumption))
set_option maxHeartbeats 1000000 in
theorem ltimes_any (lx ly hx hy s : Nat) (w : World) : Calls Try.prog 7 #[.agg #[.float .f64 lx, .float .f64 ly, .float .f64 hx, .float .f64 hy], .float .f64 s] w fun e w' => ∃ a b c d, ScaleR lx ly s a b ∧ ScaleR hx hy s c d ∧ e = .returned (.agg #[.float .f64 a, .float .f64 b, .float .f64 c, .float .f64 d]) ∧ Bel w w' := by
  go_enter Try.func7, Try.ntmps7
  go_wp2
  go_region_held3 (fun w1 => w1.cell? ⟨w.heap.size, 0, none⟩ = some (.float .f64 lx) ∧ w1.cell? ⟨w.heap.size, 1, none⟩ = some (.float .f64 ly) ∧ w1.cell? ⟨w.heap.size, 2, none⟩ = some (.float .f64 hx) ∧ w1.cell? ⟨w.heap.size, 3, none⟩ = some (.float .f64 hy)) (first | ((try go_split_ands); refine ⟨?_, ?_, ?_, ?_⟩ <;> (first | ((repeat' (first | (with_reducible assumption) | (with_reducible refine up_drew ?_) | (with_reducible refine up_drewN ?_) | (with_reducible refine keep hb ?_) | (with_reducible refine up_set2 ?_ ?_) | (with_reducible refine (cell_own ?_ _ _ _).1) | (with_reducible refine (cell_own ?_ _ _ _).2) | (with_reducible refine up_alloc ?_) | omega | (simp; done))); done) | go_keep)))
    (first | (go_at_call 8; have z := hMk; clear z; refine (vScale_any _ _ _ _).mono ?_; rintro e w' ⟨c, d, hT, rfl, hb⟩; clear hc hf hz; have B := bl_trans B hb; obtain ⟨hc, hf⟩ := bcell B; have hz := B.size; (try simp at hz)) | (go_at_call 8; refine (vScale_any _ _ _ _).mono ?_; rintro e w' ⟨a, b, hS, rfl, hb⟩; have B := hb; obtain ⟨hc, hf⟩ := bcell B; have hz := B.size; (try simp at hz); have hMk := hide True.intro))
  all_goals go_wp2
  refine bodyPost_ret (v := .agg #[.float .f64 _, .float .f64 _, .float .f64 _, .float .f64 _]) (by simp [hc, results, Try.results7, go_sem] <;> (first | exact ⟨rfl, rfl, rfl, rfl⟩ | exact ⟨rfl, rfl⟩ | rfl)) rfl ⟨_, _, _, _, hS, hT, rfl, ?_⟩
  repeat (first | exact bl_refl _ | assumption | apply bl_drewN | apply bl_drew | apply bl_alloc | refine bl_set ?_ (by simp <;> omega) | refine bl_trans ?_ (by assumption))
theorem pr_mt {j x x' : Nat} {o o' : Bool} (e : o' = o) (h : Pr j x x') : Pr j (mt o x) (mt o' x') := by
  subst e
  unfold mt
  split
  · exact h
  · exact pr_zero
theorem sm4 {a b c d a' b' c' d' : Nat} (h1 : a' = a) (h2 : b' = b) (h3 : c' = c) (h4 : d' = d) : smK .f64 a a' = true ∧ smK .f64 b b' = true ∧ smK .f64 c c' = true ∧ smK .f64 d d' = true := by
  subst h1 h2 h3 h4
  exact ⟨smK_self _ _, smK_self _ _, smK_self _ _, smK_self _ _⟩
theorem and2 {a b : Bool} (h : (a && b) = true) : a = true ∧ b = true := by simpa using h

end Go.Proofs.Ytdpbkfdccoogkab
