/-
  What each function of package vec answers, and what the reference of its chapter answers: one contract a function, for every float: the answer stands in the relation of its formula to what was given; of the memory that was there nothing has turned.
-/
import Derived.Test.YtdlendamklcinabValive
import Derived.Test.YtdlendamklcinabRndz
import Derived.Test.YtdlendamklcinabBel
import Derived.Below
import Derived.WalkKit
import Derived.WalkLawsBesides
import Derived.WalkSpells
import Derived.ProofKit
import Derived.OpenShut
import Derived.Deep.RegionHeld3
namespace Go.Proofs.Ytdlendamklcinab
open Go.ChangeShapes Go.WideShapes Go.ChangeAt Go.RowKit
set_option linter.unusedVariables false
set_option linter.unusedSimpArgs false


theorem vAdd_det (ax ay bx b_y : Nat) (w : World) (f_ax : finK .f64 ax = true) (f_ay : finK .f64 ay = true) (f_bx : finK .f64 bx = true) (f_b_y : finK .f64 b_y = true) : Calls Try.prog 10 #[.agg #[.float .f64 ax, .float .f64 ay], .agg #[.float .f64 bx, .float .f64 b_y]] w fun e w' => e = .returned (.agg #[.float .f64 (Dv .add ax bx), .float .f64 (Dv .add ay b_y)]) ∧ Bel w w' :=
  (vAdd_any ax ay bx b_y w).mono fun e w' ⟨x, y, h, he, hb⟩ => ⟨by rw [he, res_dv h.1 (some_add f_ax f_bx), res_dv h.2 (some_add f_ay f_b_y)], hb⟩

theorem vSub_det (ax ay bx b_y : Nat) (w : World) (f_ax : finK .f64 ax = true) (f_ay : finK .f64 ay = true) (f_bx : finK .f64 bx = true) (f_b_y : finK .f64 b_y = true) (o1 : okK .f64 bx) (o2 : okK .f64 b_y) : Calls Try.prog 11 #[.agg #[.float .f64 ax, .float .f64 ay], .agg #[.float .f64 bx, .float .f64 b_y]] w fun e w' => e = .returned (.agg #[.float .f64 (Dv .sub ax bx), .float .f64 (Dv .sub ay b_y)]) ∧ Bel w w' :=
  (vSub_any ax ay bx b_y w).mono fun e w' ⟨x, y, h, he, hb⟩ => ⟨by rw [he, res_dv h.1 (some_sub f_ax f_bx o1), res_dv h.2 (some_sub f_ay f_b_y o2)], hb⟩

theorem vScale_det (ax ay s : Nat) (w : World) (f_ax : finK .f64 ax = true) (f_ay : finK .f64 ay = true) (f_s : finK .f64 s = true) : Calls Try.prog 7 #[.agg #[.float .f64 ax, .float .f64 ay], .float .f64 s] w fun e w' => e = .returned (.agg #[.float .f64 (Dv .mul ax s), .float .f64 (Dv .mul ay s)]) ∧ Bel w w' :=
  (vScale_any ax ay s w).mono fun e w' ⟨x, y, h, he, hb⟩ => ⟨by rw [he, res_dv h.1 (some_mul f_ax f_s), res_dv h.2 (some_mul f_ay f_s)], hb⟩

theorem vMiddle_det (ax ay bx b_y : Nat) (w : World) (f_ax : finK .f64 ax = true) (f_ay : finK .f64 ay = true) (f_bx : finK .f64 bx = true) (f_b_y : finK .f64 b_y = true) (g1 : finK .f64 (Dv .add ax bx) = true) (g2 : finK .f64 (Dv .add ay b_y) = true) : Calls Try.prog 12 #[.agg #[.float .f64 ax, .float .f64 ay], .agg #[.float .f64 bx, .float .f64 b_y]] w fun e w' => e = .returned (.agg #[.float .f64 (Dv .quo (Dv .add ax bx) twoB), .float .f64 (Dv .quo (Dv .add ay b_y) twoB)]) ∧ Bel w w' :=
  (vMiddle_any ax ay bx b_y w).mono fun e w' ⟨x, y, ⟨p, q, h1, h2, h3, h4⟩, he, hb⟩ => ⟨by rw [res_dv h1 (some_add f_ax f_bx)] at h3; rw [res_dv h2 (some_add f_ay f_b_y)] at h4; rw [he, res_dv h3 (some_two g1), res_dv h4 (some_two g2)]; rfl, hb⟩

theorem vMore_det (ax ay s bx b_y : Nat) (w : World) (f_ax : finK .f64 ax = true) (f_ay : finK .f64 ay = true) (f_s : finK .f64 s = true) (f_bx : finK .f64 bx = true) (f_b_y : finK .f64 b_y = true) (g1 : finK .f64 (Dv .mul s bx) = true) (g2 : finK .f64 (Dv .mul s b_y) = true) : Calls Try.prog 14 #[.agg #[.float .f64 ax, .float .f64 ay], .float .f64 s, .agg #[.float .f64 bx, .float .f64 b_y]] w fun e w' => e = .returned (.agg #[.float .f64 (Dv .add ax (Dv .mul s bx)), .float .f64 (Dv .add ay (Dv .mul s b_y))]) ∧ Bel w w' :=
  (vMore_any ax ay s bx b_y w).mono fun e w' ⟨x, y, ⟨p, q, h1, h2, h3, h4⟩, he, hb⟩ => ⟨by rw [res_dv h1 (some_mul f_s f_bx)] at h3; rw [res_dv h2 (some_mul f_s f_b_y)] at h4; rw [he, res_dv h3 (some_add f_ax g1), res_dv h4 (some_add f_ay g2)], hb⟩

theorem vDot_det (ax ay bx b_y : Nat) (w : World) (f_ax : finK .f64 ax = true) (f_ay : finK .f64 ay = true) (f_bx : finK .f64 bx = true) (f_b_y : finK .f64 b_y = true) (g1 : finK .f64 (Dv .mul ax bx) = true) (g2 : finK .f64 (Dv .mul ay b_y) = true) : Calls Try.prog 16 #[.agg #[.float .f64 ax, .float .f64 ay], .agg #[.float .f64 bx, .float .f64 b_y]] w fun e w' => e = .returned (.float .f64 (Dv .add (Dv .mul ax bx) (Dv .mul ay b_y))) ∧ Bel w w' :=
  (vDot_any ax ay bx b_y w).mono fun e w' ⟨r, h, he, hb⟩ => ⟨by rw [he, dot_is h f_ax f_ay f_bx f_b_y g1 g2], hb⟩

theorem vCross_det (ax ay bx b_y : Nat) (w : World) (f_ax : finK .f64 ax = true) (f_ay : finK .f64 ay = true) (f_bx : finK .f64 bx = true) (f_b_y : finK .f64 b_y = true) (g1 : finK .f64 (Dv .mul ax b_y) = true) (g2 : finK .f64 (Dv .mul ay bx) = true) (o : okK .f64 (Dv .mul ay bx)) : Calls Try.prog 17 #[.agg #[.float .f64 ax, .float .f64 ay], .agg #[.float .f64 bx, .float .f64 b_y]] w fun e w' => e = .returned (.float .f64 (Dv .sub (Dv .mul ax b_y) (Dv .mul ay bx))) ∧ Bel w w' :=
  (vCross_any ax ay bx b_y w).mono fun e w' ⟨r, h, he, hb⟩ => ⟨by rw [he, cross_is h f_ax f_ay f_bx f_b_y g1 g2 o], hb⟩

theorem vSquare_det (ax ay : Nat) (w : World) (f_ax : finK .f64 ax = true) (f_ay : finK .f64 ay = true) (g1 : finK .f64 (Dv .mul ax ax) = true) (g2 : finK .f64 (Dv .mul ay ay) = true) : Calls Try.prog 18 #[.agg #[.float .f64 ax, .float .f64 ay]] w fun e w' => e = .returned (.float .f64 (Dv .add (Dv .mul ax ax) (Dv .mul ay ay))) ∧ Bel w w' :=
  (vSquare_any ax ay w).mono fun e w' ⟨r, h, he, hb⟩ => ⟨by rw [he, dot_is h f_ax f_ay f_ax f_ay g1 g2], hb⟩

theorem vLength_det (ax ay : Nat) (w : World) (f_ax : finK .f64 ax = true) (f_ay : finK .f64 ay = true) (g1 : finK .f64 (Dv .mul ax ax) = true) (g2 : finK .f64 (Dv .mul ay ay) = true) (g3 : finK .f64 (Dv .add (Dv .mul ax ax) (Dv .mul ay ay)) = true) (g4 : ngK .f64 (Dv .add (Dv .mul ax ax) (Dv .mul ay ay)) = false) : Calls Try.prog 19 #[.agg #[.float .f64 ax, .float .f64 ay]] w fun e w' => e = .returned (.float .f64 (Sq (Dv .add (Dv .mul ax ax) (Dv .mul ay ay)))) ∧ Bel w w' :=
  (vLength_any ax ay w).mono fun e w' ⟨r, ⟨s, h1, h2⟩, he, hb⟩ => ⟨by rw [dot_is h1 f_ax f_ay f_ax f_ay g1 g2] at h2; rw [he, sqR_is h2 (sqr_some g3 g4)], hb⟩

theorem calls_bel0 {P : Program} {f : FuncId} {args : Array Value} {W : World} {p : BelBy W} {v : Value}
    (h : Calls P f args p.world fun e w' => e = .returned v ∧ w' = p.world) : Calls P f args p.world fun e w'' => e = .returned v ∧ ∃ q : BelBy W, w'' = q.world :=
  h.mono fun _ w' ⟨he, hb⟩ => ⟨he, p, hb⟩

theorem plain_any (x : Nat) (w : World) (ox : okK .f64 x) : Calls Try.prog 5 #[.float .f64 x] w fun e w' => e = .returned (.bool (plB x)) ∧ w' = w := by
  have c1 := cmp_eq .f64
  have c2 := cmp_lt .f64
  have c3 := cmp_gt .f64
  have c4 := cmp_le2 .f64
  have c5 := cmp_ge2 .f64
  have c6 := eqK_nought .f64
  by_cases h1 : rgK .f64 x = 0
  · go_enter Try.func5, Try.ntmps5
    go_wp2_with (first | (go_at_call 25; refine (abs_any _ _ (by assumption)).mono ?_; rintro e w' ⟨rfl, rfl⟩))
    go_ret
    exact ⟨by simp [plB, h1], rfl⟩
  · cases h2 : leK .f64 3706462493325918208 (rgK .f64 x)
    all_goals
      go_enter Try.func5, Try.ntmps5
      go_wp2_with (first | (go_at_call 25; refine (abs_any _ _ (by assumption)).mono ?_; rintro e w' ⟨rfl, rfl⟩))
      go_ret
      exact ⟨by simp [plB, h1, h2], rfl⟩
theorem isInf_one (w : World) : Calls Try.prog 38 #[.float .f64 4607182418800017408, .int .i64 0] w fun e w' => e = .returned (.bool false) ∧ w' = w := by
  have c3 := cmp_gt .f64
  have o1 : okK .f64 4607182418800017408 := one_okK
  have r1 : rgK .f64 4607182418800017408 = 4607182418800017408 := by decide +kernel
  have e1 : ltK .f64 9218868437227405311 4607182418800017408 = false := by decide +kernel
  go_enter Try.func38, Try.ntmps38
  go_wp2_with (first | (go_at_call 25; refine (abs_any _ _ (by assumption)).mono ?_; rintro e w' ⟨rfl, rfl⟩))
  go_ret
  exact ⟨rfl, rfl⟩
theorem isNaN_one (w : World) : Calls Try.prog 39 #[.float .f64 4607182418800017408] w fun e w' => e = .returned (.bool false) ∧ w' = w := by
  have c1 := cmp_ne .f64
  have e1 : eqK .f64 4607182418800017408 4607182418800017408 = true := by decide +kernel
  go_enter Try.func39, Try.ntmps39
  go_wp2
  go_ret
  exact ⟨rfl, rfl⟩
theorem normalize_one (w : World) : Calls Try.prog 40 #[.float .f64 4607182418800017408] w fun e w' => e = .returned (.tuple #[.float .f64 4607182418800017408, .int .i64 0]) ∧ w' = w := by
  have c2 := cmp_lt .f64
  have o1 : okK .f64 4607182418800017408 := one_okK
  have r1 : rgK .f64 4607182418800017408 = 4607182418800017408 := by decide +kernel
  have e1 : ltK .f64 4607182418800017408 4503599627370496 = false := by decide +kernel
  go_enter Try.func40, Try.ntmps40
  go_wp2_with (first | (go_at_call 25; refine (abs_any _ _ (by assumption)).mono ?_; rintro e w' ⟨rfl, rfl⟩))
  go_ret2
  exact ⟨rfl, rfl⟩
theorem ldexp_in (e : Int) (h1 : -100 ≤ e) (h2 : e ≤ 100) (w : World) : Calls Try.prog 27 #[.float .f64 4607182418800017408, .int .i64 e] w fun e' w' => e' = .returned (.float .f64 (pw e)) ∧ w' = w := by
  have c1 := cmp_eq .f64
  have e0 : eqK .f64 4607182418800017408 0 = false := by decide +kernel
  have hb := bits_run
  have hf := from_int
  have e1 : bits .and .i64 1023 2047 = 1023 := by decide +kernel
  have e2 : bits .andNot .u64 4607182418800017408 9218868437227405312 = 0 := by decide +kernel
  have e3 : (bits .or .u64 0 ((e + 1023) * 4503599627370496)).toNat = pw e := by
    obtain ⟨n, hn⟩ : ∃ n : Nat, (e + 1023) * 4503599627370496 = (n : Int) := ⟨((e + 1023) * 4503599627370496).toNat, by omega⟩
    have := u64_or_nat 0 n (by omega) (by omega)
    rw [Nat.zero_or, Int.natCast_zero] at this
    unfold pw
    rw [hn, this]
  have e4 : ∀ (t : TypeId) (w : World), (binOp .mul t (.float .f64 4607182418800017408) (.float .f64 (pw e))).run Try.prog w = .ok (.float .f64 (pw e)) w := by
    intro t w
    obtain ⟨j, _, _, ff, fo⟩ := pw_sc h1 h2
    have := one_mul (pw e) ff fo
    rw [run_mul]
    unfold fv fd
    rw [show floatBits .mul .f64 4607182418800017408 (pw e) = some (pw e) from this]
    rfl
  go_enter Try.func27, Try.ntmps27
  go_wp2_with (first | (go_at_call 38; refine (isInf_one _).mono ?_; rintro e w' ⟨rfl, rfl⟩) | (go_at_call 39; refine (isNaN_one _).mono ?_; rintro e w' ⟨rfl, rfl⟩) | (go_at_call 40; refine (normalize_one _).mono ?_; rintro e w' ⟨rfl, rfl⟩))
  go_ret
  exact ⟨rfl, rfl⟩
theorem ldexp_one (e : Int) (h1 : -100 ≤ e) (h2 : e ≤ 100) (w : World) : Calls Try.prog 6 #[.float .f64 4607182418800017408, .int .i64 e] w fun e' w' => e' = .returned (.float .f64 (pw e)) ∧ w' = w := by
  go_enter Try.func6, Try.ntmps6
  go_wp2_with (first | (go_at_call 27; refine (ldexp_in _ (by assumption) (by assumption) _).mono ?_; rintro e w' ⟨rfl, rfl⟩))
  go_ret
  exact ⟨rfl, rfl⟩

end Go.Proofs.Ytdlendamklcinab
