/-
  What each function of package turn answers, and what the reference of its chapter answers: one contract a function, for every float: the answer stands in the relation of its formula to what was given; of the memory that was there nothing has turned.
-/
import Derived.Test.YtbphmjfgpkjecabVec
import Derived.Test.YtbphmjfgpkjecabTurns
import Derived.Below
import Derived.WalkKit
import Derived.WalkLawsBesides
import Derived.WalkSpells
import Derived.ProofKit
import Derived.OpenShut
import Derived.Deep.RegionHeld3
namespace Go.Proofs.Ytbphmjfgpkjecab
open Go.ChangeShapes Go.WideShapes Go.ChangeAt Go.RowKit
set_option linter.unusedVariables false
set_option linter.unusedSimpArgs false


theorem way_any (x y : Nat) (w : World) : Calls Try.prog 21 #[.complex .f64 x y] w fun e w' => e = .returned (.agg #[.float .f64 x, .float .f64 y]) ∧ Bel w w' := by
  go_enter Try.func21, Try.ntmps21
  go_wp2
  refine bodyPost_ret (v := .agg #[.float .f64 x, .float .f64 y]) (by simp [results, Try.results21, go_sem] <;> exact ⟨rfl, rfl⟩) rfl ⟨rfl, ?_⟩
  repeat (first | exact bl_refl _ | assumption | apply bl_drewN | apply bl_drew | apply bl_alloc | refine bl_set ?_ (by simp <;> omega) | refine bl_trans ?_ (by assumption))
theorem number_any (x y : Nat) (w : World) : Calls Try.prog 25 #[.agg #[.float .f64 x, .float .f64 y]] w fun e w' => e = .returned (.complex .f64 x y) ∧ Bel w w' := by
  go_enter Try.func25, Try.ntmps25
  go_wp2
  go_ret
  refine ⟨rfl, ?_⟩
  repeat (first | exact bl_refl _ | assumption | apply bl_drewN | apply bl_drew | apply bl_alloc | refine bl_set ?_ (by simp <;> omega) | refine bl_trans ?_ (by assumption))

theorem tOne_any (w : World) : Calls Try.prog 9 #[] w fun e w' => e = .returned (.complex .f64 4607182418800017408 0) ∧ w' = w := by
  go_enter Try.func9, Try.ntmps9
  go_wp2
  go_ret
  exact ⟨rfl, rfl⟩

theorem tQuarter_any (w : World) : Calls Try.prog 10 #[] w fun e w' => e = .returned (.complex .f64 0 4607182418800017408) ∧ w' = w := by
  go_enter Try.func10, Try.ntmps10
  go_wp2
  go_ret
  exact ⟨rfl, rfl⟩

theorem tCheck_any (x y : Nat) (w : World) : Calls Try.prog 12 #[.complex .f64 x y] w fun e w' => ∃ s, DotR x y x y s ∧ e = .returned (.int .i64 (errT (chk s))) ∧ Bel w w' := by
  have c1 := cmp_le .f64
  go_enter Try.func12, Try.ntmps12
  go_wp2_with (first | (go_at_call 21; refine (way_any _ _ _).mono ?_; rintro e w' ⟨rfl, hb⟩) | (go_at_call 23; refine (vSquare_any _ _ _).mono ?_; rintro e w' ⟨s, hs, rfl, hb2⟩; cases h1 : leK .f64 4607182418800009216 s <;> cases h2 : leK .f64 s 4607182418800021504))
  all_goals
    go_ret
    refine ⟨_, hs, by simp [errT, chk, lo40, hi40, h1, h2], ?_⟩
    repeat (first | exact bl_refl _ | assumption | apply bl_drewN | apply bl_drew | apply bl_alloc | refine bl_set ?_ (by simp <;> omega) | refine bl_trans ?_ (by assumption))
set_option maxHeartbeats 400000 in
theorem tUnit_any (x y : Nat) (w : World) : Calls Try.prog 8 #[.complex .f64 x y] w fun e w' => ∃ u v b, TUnitR x y u v b ∧ e = .returned (.tuple #[.complex .f64 u v, .bool b]) ∧ Bel w w' := by
  have q4 := run_quo Try.prog
  have e1 : errT true = 0 := rfl
  have e2 : errT false = 30 := rfl
  go_enter Try.func8, Try.ntmps8
  go_wp2_with (first | (go_at_call 21; refine (way_any _ _ _).mono ?_; rintro e w' ⟨rfl, hb⟩) | (go_at_call 20; refine (vLength_any _ _ _).mono ?_; rintro e w' ⟨n, hn, rfl, hb2⟩) | (go_at_call 12; refine (tCheck_any _ _ _).mono ?_; rintro e w' ⟨s, hs, rfl, hb3⟩; cases h1 : chk s))
  · refine bodyPost_ret (v := .tuple #[.complex .f64 0 0, .bool false]) (by simp [results, Try.results8, go_sem] <;> exact ⟨rfl, rfl⟩) rfl ⟨_, _, _, ⟨_, _, _, _, hn, fv_res _ _ _ _ _, fv_res _ _ _ _ _, hs, h1.symm, rfl, rfl⟩, rfl, ?_⟩
    repeat (first | exact bl_refl _ | assumption | apply bl_drewN | apply bl_drew | apply bl_alloc | refine bl_set ?_ (by simp <;> omega) | refine bl_trans ?_ (by assumption))
  · refine bodyPost_ret (v := .tuple #[.complex .f64 _ _, .bool true]) (by simp [results, Try.results8, go_sem] <;> exact ⟨rfl, rfl⟩) rfl ⟨_, _, _, ⟨_, _, _, _, hn, fv_res _ _ _ _ _, fv_res _ _ _ _ _, hs, h1.symm, rfl, rfl⟩, rfl, ?_⟩
    repeat (first | exact bl_refl _ | assumption | apply bl_drewN | apply bl_drew | apply bl_alloc | refine bl_set ?_ (by simp <;> omega) | refine bl_trans ?_ (by assumption))
theorem isInf_one (x : Nat) (w : World) : Calls Try.prog 22 #[.float .f64 x, .int .i64 1] w fun e w' => e = .returned (.bool (ltK .f64 9218868437227405311 x)) ∧ w' = w := by
  have c1 := cmp_gt .f64
  go_enter Try.func22, Try.ntmps22
  go_wp2
  go_ret
  exact ⟨rfl, rfl⟩
theorem tBy_any (t : Nat) (w : World) : Calls Try.prog 11 #[.float .f64 t] w fun e w' => ∃ x y, TByR t x y ∧ e = .returned (.complex .f64 x y) ∧ Bel w w' := by
  have q1 := run_add Try.prog
  have q2 := run_sub Try.prog
  have q3 := run_mul Try.prog
  have q4 := run_quo Try.prog
  have hs := fv_res .mul .f64 t t w
  cases h1 : ltK .f64 9218868437227405311 (fv .mul .f64 t t w)
  all_goals
    go_enter Try.func11, Try.ntmps11
    go_wp2_with (first | (go_at_call 22; refine (isInf_one _ _).mono ?_; rintro e w' ⟨rfl, rfl⟩))
    go_ret
    refine ⟨_, _, ⟨_, hs, ?_⟩, rfl, ?_⟩
    · rw [h1]
      first | exact ⟨rfl, rfl⟩ | (simp only [Bool.false_eq_true, if_false]; exact ⟨_, _, _, fv_res _ _ _ _ _, fv_res _ _ _ _ _, fv_res _ _ _ _ _, fv_res _ _ _ _ _, fv_res _ _ _ _ _⟩)
    repeat (first | exact bl_refl _ | assumption | apply bl_drewN | apply bl_drew | apply bl_alloc | refine bl_set ?_ (by simp <;> omega) | refine bl_trans ?_ (by assumption))
theorem tThen_any (x y u v : Nat) (w : World) : Calls Try.prog 24 #[.complex .f64 x y, .complex .f64 u v] w fun e w' => ∃ r i, ThenR x y u v r i ∧ e = .returned (.complex .f64 r i) ∧ Bel w w' := by
  have q1 := run_add Try.prog
  have q2 := run_sub Try.prog
  have q3 := run_mul Try.prog
  have q4 := run_quo Try.prog
  go_enter Try.func24, Try.ntmps24
  go_wp2
  go_ret
  refine ⟨_, _, ⟨_, _, _, _, fv_res _ _ _ _ _, fv_res _ _ _ _ _, fv_res _ _ _ _ _, fv_res _ _ _ _ _, fv_res _ _ _ _ _, fv_res _ _ _ _ _⟩, rfl, ?_⟩
  repeat (first | exact bl_refl _ | assumption | apply bl_drewN | apply bl_drew | apply bl_alloc | refine bl_set ?_ (by simp <;> omega) | refine bl_trans ?_ (by assumption))

theorem tApply_any (x y u v : Nat) (w : World) : Calls Try.prog 13 #[.complex .f64 x y, .agg #[.float .f64 u, .float .f64 v]] w fun e w' => ∃ r i, ThenR x y u v r i ∧ e = .returned (.agg #[.float .f64 r, .float .f64 i]) ∧ Bel w w' := by
  go_enter Try.func13, Try.ntmps13
  go_wp2_with (first | (go_at_call 25; refine (number_any _ _ _).mono ?_; rintro e w' ⟨rfl, hb⟩; have B := hb; obtain ⟨hc, hf⟩ := bcell B; have hz := B.size; simp at hz) | (go_at_call 24; refine (tThen_any _ _ _ _ _).mono ?_; rintro e w' ⟨r, i, ht, rfl, hb⟩; clear hc hf hz; have B := bl_trans B hb; obtain ⟨hc, hf⟩ := bcell B; have hz := B.size; simp at hz) | (go_at_call 21; refine (way_any _ _ _).mono ?_; rintro e w' ⟨rfl, hb⟩; clear hc hf hz; have B := bl_trans B hb; obtain ⟨hc, hf⟩ := bcell B; have hz := B.size; simp at hz))
  refine bodyPost_ret (v := .agg #[.float .f64 _, .float .f64 _]) (by simp [hc, results, Try.results13, go_sem] <;> exact ⟨rfl, rfl⟩) rfl ⟨_, _, ht, rfl, ?_⟩
  repeat (first | exact bl_refl _ | assumption | apply bl_drewN | apply bl_drew | apply bl_alloc | refine bl_set ?_ (by simp <;> omega) | refine bl_trans ?_ (by assumption))

theorem tSame_any (x y u v : Nat) (hx : okK .f64 x) (hy : okK .f64 y) (hu : okK .f64 u) (hv : okK .f64 v) (w : World) : Calls Try.prog 7 #[.complex .f64 x y, .complex .f64 u v] w fun e w' => e = .returned (.bool (smK .f64 x u && smK .f64 y v)) ∧ Bel w w' := by
  cases h1 : smK .f64 x u
  all_goals
    go_enter Try.func7, Try.ntmps7
    go_wp2_with (first | (go_at_call 19; refine (same_6 _ _ _ (by assumption) (by assumption)).mono ?_; rintro e w' ⟨rfl, rfl⟩))
    go_ret
    refine ⟨rfl, ?_⟩
    repeat (first | exact bl_refl _ | assumption | apply bl_drewN | apply bl_drew | apply bl_alloc | refine bl_set ?_ (by simp <;> omega) | refine bl_trans ?_ (by assumption))

theorem isNaN_any (x : Nat) (w : World) : Calls Try.prog 26 #[.float .f64 x] w fun e w' => e = .returned (.bool (nanK .f64 x)) ∧ w' = w := by
  have c1 := cmp_ne .f64
  have c2 := eqK_self .f64
  go_enter Try.func26, Try.ntmps26
  go_wp2
  go_ret
  exact ⟨by simp, rfl⟩
theorem cisNaN_any (x : Nat) (w : World) : Calls Try.prog 28 #[.float .f64 x] w fun e w' => e = .returned (.bool (nanK .f64 x)) ∧ w' = w := by
  have c1 := cmp_ne .f64
  have c2 := eqK_self .f64
  go_enter Try.func28, Try.ntmps28
  go_wp2
  go_ret
  exact ⟨by simp, rfl⟩
theorem cisNaN_int (x : Int) (w : World) : Calls Try.prog 27 #[.int .i64 x] w fun e w' => e = .returned (.bool false) ∧ w' = w := by
  go_enter Try.func27, Try.ntmps27
  go_wp2
  go_ret
  exact ⟨by simp, rfl⟩
theorem piece_any (x y : Nat) (w : World) : Calls Try.prog 15 #[.complex .f64 x y] w fun e w' => e = .returned (.int .i64 (pcT x y : Nat)) ∧ w' = w := by
  have c1 := cmp_gt .f64
  have c2 := cmp_eq .f64
  have c3 := lt_or_eq .f64
  cases h1 : nanK .f64 x <;> cases h2 : nanK .f64 y <;> cases h3 : ltK .f64 0 y <;> cases h4 : eqK .f64 y 0 <;> cases h5 : leK .f64 0 x
  all_goals
    go_enter Try.func15, Try.ntmps15
    go_wp2_with (first | (go_at_call 26; refine (isNaN_any _ _).mono ?_; rintro e w' ⟨rfl, rfl⟩))
    go_ret
    exact ⟨by simp [pcT, h1, h2, h3, h4, h5], rfl⟩

theorem cmpF_any (x y : Nat) (nx : nanK .f64 x = false) (ny : nanK .f64 y = false) (w : World) : Calls Try.prog 17 #[.float .f64 x, .float .f64 y] w fun e w' => e = .returned (.int .i64 (sgT x y)) ∧ w' = w := by
  have c1 := cmp_gt .f64
  have c2 := cmp_lt .f64
  cases h1 : ltK .f64 x y <;> cases h2 : ltK .f64 y x
  all_goals
    go_enter Try.func17, Try.ntmps17
    go_wp2_with (first | (go_at_call 28; refine (cisNaN_any _ _).mono ?_; rintro e w' ⟨rfl, rfl⟩))
    go_ret
    exact ⟨by simp [sgT, h1, h2], rfl⟩
theorem cmpI_any (x y : Int) (w : World) : Calls Try.prog 16 #[.int .i64 x, .int .i64 y] w fun e w' => e = .returned (.int .i64 (if x < y then -1 else if y < x then 1 else 0)) ∧ w' = w := by
  have hd : (x < y ∧ ¬ y < x) ∨ (¬ x < y ∧ y < x) ∨ (¬ x < y ∧ ¬ y < x) := by omega
  rcases hd with ⟨h1, h2⟩ | ⟨h1, h2⟩ | ⟨h1, h2⟩
  all_goals
    go_enter Try.func16, Try.ntmps16
    go_wp2_with (first | (go_at_call 27; refine (cisNaN_int _ _).mono ?_; rintro e w' ⟨rfl, rfl⟩))
    go_ret
    exact ⟨by simp [h1, h2], rfl⟩
theorem or_any (a c : Int) (b : Nat) (w : World) (h0 : w.cell? ⟨b, 0, none⟩ = some (.int .i64 a)) (h1 : w.cell? ⟨b, 1, none⟩ = some (.int .i64 c)) : Calls Try.prog 18 #[.slice (some ⟨b, 0, none⟩) 2 2] w fun e w' => e = .returned (.int .i64 (if a ≠ 0 then a else c)) ∧ w' = w := by
  go_enter Try.func18, Try.ntmps18
  go_wp2
  go_loopw [8] (fun i wr => ∃ k : Nat, k ≤ 2 ∧ i = .int .i64 k ∧ (0 < k → a = 0) ∧ (1 < k → c = 0) ∧ wr = w) (fun i _ => 2 - (intOf i).toNat)
  case atStart => exact ⟨0, by omega, rfl, by omega, by omega, rfl⟩
  case round =>
    obtain ⟨k, hk, rfl, hA, hC, rfl⟩ := hrel
    obtain rfl | rfl | rfl : k = 0 ∨ k = 1 ∨ k = 2 := by omega
    · by_cases ha : a = 0
      · go_wp2
        go_roundw
        case rel => exact ⟨1, by omega, by go_num, by first | trivial | omega | simp [*], by first | trivial | omega | simp [*], by first | rfl | trivial⟩
        case measure => simp [intOf]
      · go_wp2
        go_ret
        exact ⟨by simp [ha], rfl⟩
    · have ha := hA (by omega)
      subst ha
      by_cases hc : c = 0
      · go_wp2
        go_roundw
        case rel => exact ⟨2, by omega, by go_num, by first | trivial | omega | simp [*], by first | trivial | omega | simp [*], by first | rfl | trivial⟩
        case measure => simp [intOf]
      · go_wp2
        go_ret
        exact ⟨by simp, rfl⟩
    · have ha := hA (by omega)
      have hc := hC (by omega)
      subst ha hc
      go_wp2
      go_ret
      exact ⟨by simp, rfl⟩
theorem or_at (a c : Int) (t : TypeId) (w : World) : Calls Try.prog 18 #[.slice (some ⟨w.heap.size, 0, none⟩) 2 2] (w.alloc (Obj.cells #[.int .i64 a, .int .i64 c] t)) fun e w' => e = .returned (.int .i64 (if a ≠ 0 then a else c)) ∧ w' = w.alloc (Obj.cells #[.int .i64 a, .int .i64 c] t) :=
  or_any a c _ _ (by go_keep) (by go_keep)
theorem tOrder_any (x y u v : Nat) (w : World) : Calls Try.prog 6 #[.complex .f64 x y, .complex .f64 u v] w fun e w' => e = .returned (.int .i64 (ordT x y u v)) ∧ Bel w w' := by
  have wn := wrap_sg x u
  have ha := pc_three x y
  have hb := pc_three u v
  rcases ha with ⟨ha, nx, ny⟩ | ⟨ha, nx, ny⟩ | ha <;> rcases hb with ⟨hb, nu, nv⟩ | ⟨hb, nu, nv⟩ | hb
  all_goals
    go_enter Try.func6, Try.ntmps6
    go_wp2_with (first | (go_at_call 18; refine (or_at _ _ _ _).mono ?_; rintro e w' ⟨rfl, rfl⟩) | (go_at_call 15; refine (piece_any _ _ _).mono ?_; rintro e w' ⟨rfl, rfl⟩) | (go_at_call 17; refine (cmpF_any _ _ (by assumption) (by assumption) _).mono ?_; rintro e w' ⟨rfl, rfl⟩) | (go_at_call 16; refine (cmpI_any _ _ _).mono ?_; rintro e w' ⟨rfl, rfl⟩))
  all_goals first | (go_ret; refine ⟨by first | (simp [ordT, ha, hb]; done) | (simp [ordT, ha, hb] <;> intros <;> omega), ?_⟩; repeat (first | exact bl_refl _ | assumption | apply bl_drewN | apply bl_drew | apply bl_alloc | refine bl_set ?_ (by simp <;> omega) | refine bl_trans ?_ (by assumption)))

end Go.Proofs.Ytbphmjfgpkjecab
