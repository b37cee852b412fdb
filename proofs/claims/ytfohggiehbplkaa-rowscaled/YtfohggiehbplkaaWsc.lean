/-
  What each function of package poly answers, and what the reference of its chapter answers: one contract a function, for every float: the answer stands in the relation of its formula to what was given; of the memory that was there nothing has turned.
-/
import Derived.Test.YtfohggiehbplkaaVec
import Derived.Test.YtfohggiehbplkaaWsb
import Derived.Below
import Derived.WalkKit
import Derived.WalkLawsBesides
import Derived.WalkSpells
import Derived.ProofKit
import Derived.OpenShut
import Derived.Deep.RegionHeld3
namespace Go.Proofs.Ytfohggiehbplkaa
open Go.ChangeShapes Go.WideShapes Go.ChangeAt Go.RowKit
set_option linter.unusedVariables false
set_option linter.unusedSimpArgs false

theorem isInf_one (w : World) : Calls Try.prog 103 #[.float .f64 4607182418800017408, .int .i64 0] w fun e w' => e = .returned (.bool false) ∧ w' = w := by
  have c3 := cmp_gt .f64
  have o1 : okK .f64 4607182418800017408 := one_okK
  have r1 : rgK .f64 4607182418800017408 = 4607182418800017408 := by decide +kernel
  have e1 : ltK .f64 9218868437227405311 4607182418800017408 = false := by decide +kernel
  go_enter Try.func103, Try.ntmps103
  go_wp2_with (first | (go_at_call 22; refine (abs_any _ _ (by assumption)).mono ?_; rintro e w' ⟨rfl, rfl⟩))
  go_ret
  exact ⟨rfl, rfl⟩
theorem isNaN_one (w : World) : Calls Try.prog 104 #[.float .f64 4607182418800017408] w fun e w' => e = .returned (.bool false) ∧ w' = w := by
  have c1 := cmp_ne .f64
  have e1 : eqK .f64 4607182418800017408 4607182418800017408 = true := by decide +kernel
  go_enter Try.func104, Try.ntmps104
  go_wp2
  go_ret
  exact ⟨rfl, rfl⟩
theorem normalize_one (w : World) : Calls Try.prog 105 #[.float .f64 4607182418800017408] w fun e w' => e = .returned (.tuple #[.float .f64 4607182418800017408, .int .i64 0]) ∧ w' = w := by
  have c2 := cmp_lt .f64
  have o1 : okK .f64 4607182418800017408 := one_okK
  have r1 : rgK .f64 4607182418800017408 = 4607182418800017408 := by decide +kernel
  have e1 : ltK .f64 4607182418800017408 4503599627370496 = false := by decide +kernel
  go_enter Try.func105, Try.ntmps105
  go_wp2_with (first | (go_at_call 22; refine (abs_any _ _ (by assumption)).mono ?_; rintro e w' ⟨rfl, rfl⟩))
  go_ret2
  exact ⟨rfl, rfl⟩
theorem ldexp_in (e : Int) (h1 : -100 ≤ e) (h2 : e ≤ 100) (w : World) : Calls Try.prog 67 #[.float .f64 4607182418800017408, .int .i64 e] w fun e' w' => e' = .returned (.float .f64 (pw e)) ∧ w' = w := by
  have c1 := cmp_eq .f64
  have e0 : eqK .f64 4607182418800017408 0 = false := by decide +kernel
  have hb := bits_run
  have hf := from_int
  have e1 : bits .and .i64 1023 2047 = 1023 := by decide +kernel
  have e2 : bits .andNot .u64 4607182418800017408 9218868437227405312 = 0 := by decide +kernel
  have e3 : (bits .or .u64 0 ((e + 1023) * 4503599627370496)).toNat = pw e := by
    obtain ⟨n, hn⟩ : ∃ n : Nat, (e + 1023) * 4503599627370496 = (n : Int) := ⟨((e + 1023) * 4503599627370496).toNat, by omega⟩
    have := u64_or_nat 0 n (by omega) (by omega)
    rw [Nat.zero_or, Int.natCast_zero] at this
    unfold pw
    rw [hn, this]
  have e4 : ∀ (t : TypeId) (w : World), (binOp .mul t (.float .f64 4607182418800017408) (.float .f64 (pw e))).run Try.prog w = .ok (.float .f64 (pw e)) w := by
    intro t w
    obtain ⟨j, _, _, ff, fo⟩ := pw_sc h1 h2
    have := one_mul (pw e) ff fo
    rw [run_mul]
    unfold fv fd
    rw [show floatBits .mul .f64 4607182418800017408 (pw e) = some (pw e) from this]
    rfl
  go_enter Try.func67, Try.ntmps67
  go_wp2_with (first | (go_at_call 103; refine (isInf_one _).mono ?_; rintro e w' ⟨rfl, rfl⟩) | (go_at_call 104; refine (isNaN_one _).mono ?_; rintro e w' ⟨rfl, rfl⟩) | (go_at_call 105; refine (normalize_one _).mono ?_; rintro e w' ⟨rfl, rfl⟩))
  go_ret
  exact ⟨rfl, rfl⟩
theorem ldexp_one (e : Int) (h1 : -100 ≤ e) (h2 : e ≤ 100) (w : World) : Calls Try.prog 24 #[.float .f64 4607182418800017408, .int .i64 e] w fun e' w' => e' = .returned (.float .f64 (pw e)) ∧ w' = w := by
  go_enter Try.func24, Try.ntmps24
  go_wp2_with (first | (go_at_call 67; refine (ldexp_in _ (by assumption) (by assumption) _).mono ?_; rintro e w' ⟨rfl, rfl⟩))
  go_ret
  exact ⟨rfl, rfl⟩
def so1 (t0 b0 d0 : Nat) : Nat → Option (Nat × Nat) := fun i => if i = t0 then some (b0, d0) else none
theorem so1_some {t0 b0 d0 i b d : Nat} (h : so1 t0 b0 d0 i = some (b, d)) : (i = t0 ∧ b = b0 ∧ d = d0) := by
  unfold so1 at h
  repeat' (split at h)
  all_goals (first | (cases h; done) | (cases h; simp_all))
theorem so1_far {t0 b0 d0 c : Nat} (h0 : c ≠ b0) : ∀ i d, so1 t0 b0 d0 i ≠ some (c, d) := fun i d h => by
  rcases so1_some h with ⟨_, e, _⟩
  · exact h0 e
theorem so1_ne {t0 b0 d0 : Nat}  : ∀ i j b d b' d', i ≠ j → so1 t0 b0 d0 i = some (b, d) → so1 t0 b0 d0 j = some (b', d') → b ≠ b' := fun i j b d b' d' hij h g => by
  rcases so1_some h with ⟨e1, e2, _⟩
  all_goals rcases so1_some g with ⟨f1, f2, _⟩
  all_goals first | (exfalso; omega) | (rw [e2, f2]; first | assumption | (apply Ne.symm; assumption))
theorem so1_at0 {t0 b0 d0 : Nat} (h : (t0 :: []) = [t0] ∧ True) : so1 t0 b0 d0 t0 = some (b0, d0) := by
  unfold so1
  simp [h]

theorem scale_x (x y k x2 y2 : Nat) (hx : floatBits .mul .f64 x k = some x2) (hy : floatBits .mul .f64 y k = some y2) (w : World) : Calls Try.prog 26 #[.agg #[.float .f64 x, .float .f64 y], .float .f64 k] w fun e w' => e = .returned (.agg #[.float .f64 x2, .float .f64 y2]) ∧ Bel w w' := by
  have q1 := fun W => run_bits .mul (.inl rfl) 24 hx W
  have q2 := fun W => run_bits .mul (.inl rfl) 24 hy W
  have z0_0 : (w.alloc (.cells #[.float .f64 x, .float .f64 y] 26)).cell? ⟨w.heap.size, 0, none⟩ = some (.float .f64 x) := by rw [World.cell?_alloc_new]; rfl
  replace z0_0 := up_alloc (o := .cells #[.float .f64 0, .float .f64 0] 26) z0_0
  have z0_1 : (w.alloc (.cells #[.float .f64 x, .float .f64 y] 26)).cell? ⟨w.heap.size, 1, none⟩ = some (.float .f64 y) := by rw [World.cell?_alloc_new]; rfl
  replace z0_1 := up_alloc (o := .cells #[.float .f64 0, .float .f64 0] 26) z0_1
  have z1_0 : ((w.alloc (.cells #[.float .f64 x, .float .f64 y] 26)).alloc (.cells #[.float .f64 0, .float .f64 0] 26)).cell? ⟨w.heap.size + 1, 0, none⟩ = some (.float .f64 0) := by rw [← (show (w.alloc (.cells #[.float .f64 x, .float .f64 y] 26)).heap.size = w.heap.size + 1 by simp only [World.size_alloc]), World.cell?_alloc_new]; rfl
  have z1_1 : ((w.alloc (.cells #[.float .f64 x, .float .f64 y] 26)).alloc (.cells #[.float .f64 0, .float .f64 0] 26)).cell? ⟨w.heap.size + 1, 1, none⟩ = some (.float .f64 0) := by rw [← (show (w.alloc (.cells #[.float .f64 x, .float .f64 y] 26)).heap.size = w.heap.size + 1 by simp only [World.size_alloc]), World.cell?_alloc_new]; rfl
  have B0 : Bel w ((w.alloc (.cells #[.float .f64 x, .float .f64 y] 26)).alloc (.cells #[.float .f64 0, .float .f64 0] 26)) := bl_alloc (bl_alloc (bl_refl w) _ _) _ _
  go_enter Try.func26, Try.ntmps26
  go_wp2
  refine bodyPost_ret (v := .agg #[.float .f64 x2, .float .f64 y2]) (by simp [results, Try.results26, go_sem] <;> exact ⟨rfl, rfl⟩) rfl ⟨rfl, ?_⟩
  repeat (first | exact bl_refl _ | assumption | apply bl_drewN | apply bl_drew | apply bl_alloc | refine bl_set ?_ (by simp <;> omega) | refine bl_trans ?_ (by assumption))
theorem results_c9 {P : Program} {fn : Func} {tmps : Array Value} {w : World} {c : Nat} {ty : TypeId} {a : Addr} {v : Value} (hres : fn.results = #[.cell c ty]) (hc : tmps.getD c undef = .pointer (some a)) (hl : (loadVar ty a).run P w = .ok v w) : (results fn tmps).run P w = .ok v w := by
  unfold results
  rw [hres]
  have e : (#[ResultVar.cell c ty]) = [ResultVar.cell c ty].toArray := rfl
  rw [e]
  simp only [List.mapM_toArray, List.mapM_cons, List.mapM_nil, Sem.run_bind, Sem.run_map, Sem.run_pure, Result.andThen_ok, hc, asAddr, hl]
  rfl
set_option maxRecDepth 100000 in
set_option maxHeartbeats 8000000 in
theorem lighter_x (q : SD) (k m1 m2 n1 n2 n3 i2 x2 y2 : Nat) (h1 : floatBits .quo .f64 q.sm k = some m1) (h2 : floatBits .quo .f64 m1 k = some m2) (h3 : floatBits .quo .f64 q.si k = some n1) (h4 : floatBits .quo .f64 n1 k = some n2) (h5 : floatBits .quo .f64 n2 k = some n3) (h6 : floatBits .quo .f64 n3 k = some i2)
    (hx : floatBits .mul .f64 q.sx k = some x2) (hy : floatBits .mul .f64 q.sy k = some y2) (w : World) : Calls Try.prog 25 #[.agg #[.float .f64 q.sm, .float .f64 q.si, .float .f64 q.sx, .float .f64 q.sy, .float .f64 q.ss], .float .f64 k] w fun e w' => e = .returned (.agg #[.float .f64 m2, .float .f64 i2, .float .f64 x2, .float .f64 y2, .float .f64 q.ss]) ∧ Bel w w' := by
  have r1 := fun W => run_bits .quo (.inr rfl) 24 h1 W
  have r2 := fun W => run_bits .quo (.inr rfl) 24 h2 W
  have r3 := fun W => run_bits .quo (.inr rfl) 24 h3 W
  have r4 := fun W => run_bits .quo (.inr rfl) 24 h4 W
  have r5 := fun W => run_bits .quo (.inr rfl) 24 h5 W
  have r6 := fun W => run_bits .quo (.inr rfl) 24 h6 W
  have hA : ((w.alloc (.cells #[.float .f64 q.sm, .float .f64 q.si, .float .f64 q.sx, .float .f64 q.sy, .float .f64 q.ss] 45)).alloc (.cells #[.float .f64 0, .float .f64 0, .float .f64 0, .float .f64 0, .float .f64 0] 45)).rangeAt (w.heap.size) 0 [.float .f64 q.sm, .float .f64 q.si, .float .f64 q.sx, .float .f64 q.sy, .float .f64 q.ss] := World.rangeAt_alloc (rng_new w [.float .f64 q.sm, .float .f64 q.si, .float .f64 q.sx, .float .f64 q.sy, .float .f64 q.ss] 45) _
  have hth23 : ((w.alloc (.cells #[.float .f64 q.sm, .float .f64 q.si, .float .f64 q.sx, .float .f64 q.sy, .float .f64 q.ss] 45)).alloc (.cells #[.float .f64 0, .float .f64 0, .float .f64 0, .float .f64 0, .float .f64 0] 45)).there (w.heap.size + 1) 0 5 := by have h := there_new (w.alloc (.cells #[.float .f64 q.sm, .float .f64 q.si, .float .f64 q.sx, .float .f64 q.sy, .float .f64 q.ss] 45)) [.float .f64 0, .float .f64 0, .float .f64 0, .float .f64 0, .float .f64 0] 45; rw [World.size_alloc] at h; exact h
  have hB9 : Bel w ((w.alloc (.cells #[.float .f64 q.sm, .float .f64 q.si, .float .f64 q.sx, .float .f64 q.sy, .float .f64 q.ss] 45)).alloc (.cells #[.float .f64 0, .float .f64 0, .float .f64 0, .float .f64 0, .float .f64 0] 45)) := bl_alloc (bl_alloc (bl_refl _) _ _) _ _
  go_enter Try.func25, Try.ntmps25
  repeat (first | go_values | go_skip | go_guarded | go_step | go_upon | go_back | dsimp only)
  refine wp_region_outs (w0 := w) 24 rfl (fun i v => match i with | 0 => v = .pointer (some ⟨w.heap.size, 0, none⟩) | 1 => v = .float .f64 q.sm | 2 => v = .float .f64 k | 3 => v = .float .f64 m1 | 4 => v = .float .f64 k | 5 => v = .float .f64 m2 | 6 => v = .pointer (some ⟨w.heap.size, 1, none⟩) | 7 => v = .float .f64 q.si | 8 => v = .float .f64 k | 9 => v = .float .f64 n1 | 10 => v = .float .f64 k | 11 => v = .float .f64 n2 | 12 => v = .float .f64 k | 13 => v = .float .f64 n3 | 14 => v = .float .f64 k | 15 => v = .float .f64 i2 | 16 => v = .pointer (some ⟨w.heap.size, 2, none⟩) | 17 => v = .agg #[.float .f64 q.sx, .float .f64 q.sy] | 18 => v = .float .f64 k | 19 => v = .agg #[.float .f64 x2, .float .f64 y2] | 20 => v = .pointer (some ⟨w.heap.size, 4, none⟩) | 21 => v = .float .f64 q.ss | 22 => v = .agg #[.float .f64 m2, .float .f64 i2, .float .f64 x2, .float .f64 y2, .float .f64 q.ss] | _ => False) (so1 23 (w.heap.size + 1) 22) ?A_lg (by kernel_rfl) (by kernel_rfl) ?hA_lg ?hb_lg ?hd_lg ?hn_lg ?hS_lg ?hq_lg ?hst_lg ?ht_lg
  case hA_lg =>
    intro s
    simp only [putL, dstO, Act.put, List.getElem?_toArray, List.getElem?_cons_zero, List.getElem?_cons_succ, Option.bind_some, List.setIfInBounds_toArray, List.set_cons_zero, List.set_cons_succ, if_true]
    all_goals exact rfl
  case hb_lg => exact hB9
  case hd_lg =>
    intro i b d hi h
    rcases so1_some h with ⟨rfl, rfl, rfl⟩
    all_goals exact ⟨by decide, by simp [so1], by kernel_rfl⟩
  case hn_lg => exact so1_ne 
  case hS_lg =>
    intro i b d h
    rcases so1_some h with ⟨rfl, rfl, rfl⟩
    all_goals omega
  case hq_lg =>
    intro i o hi ho hso s hs W hb K hK
    have c0 := Bo.rng hb hA (so1_far (by omega)) 0 _ rfl; rw [Nat.zero_add] at c0; have c1 := Bo.rng hb hA (so1_far (by omega)) 1 _ rfl; rw [Nat.zero_add] at c1; have c2 := Bo.rng hb hA (so1_far (by omega)) 2 _ rfl; rw [Nat.zero_add] at c2; have c3 := Bo.rng hb hA (so1_far (by omega)) 3 _ rfl; rw [Nat.zero_add] at c3; have c4 := Bo.rng hb hA (so1_far (by omega)) 4 _ rfl; rw [Nat.zero_add] at c4
    rcases (show i = 0 ∨ i = 1 ∨ i = 2 ∨ i = 3 ∨ i = 4 ∨ i = 5 ∨ i = 6 ∨ i = 7 ∨ i = 8 ∨ i = 9 ∨ i = 10 ∨ i = 11 ∨ i = 12 ∨ i = 13 ∨ i = 14 ∨ i = 15 ∨ i = 16 ∨ i = 17 ∨ i = 18 ∨ i = 19 ∨ i = 20 ∨ i = 21 ∨ i = 22 ∨ i = 23 by omega) with rfl | rfl | rfl | rfl | rfl | rfl | rfl | rfl | rfl | rfl | rfl | rfl | rfl | rfl | rfl | rfl | rfl | rfl | rfl | rfl | rfl | rfl | rfl | rfl
    · cases ho
      simp only [Act.put, List.setIfInBounds_toArray, List.set_cons_zero, List.set_cons_succ] at hK
      clear hs hso
      go_simp
      all_goals first | with_reducible exact hK.out _ _ rfl (bl_refl _) | exact hK.out _ _ rfl (bl_refl _)
    · cases ho
      have e0 : s 0 = _ := hs 0 (by decide) (by simp [so1]) (by kernel_rfl)
      simp only [e0] at hK ⊢
      simp only [Act.put, List.setIfInBounds_toArray, List.set_cons_zero, List.set_cons_succ] at hK
      clear hs hso
      go_simp
      all_goals first | with_reducible exact hK.out _ _ rfl (bl_refl _) | exact hK.out _ _ rfl (bl_refl _)
    · cases ho
      simp only [Act.put, List.setIfInBounds_toArray, List.set_cons_zero, List.set_cons_succ] at hK
      clear hs hso
      go_simp
      all_goals first | with_reducible exact hK.out _ _ rfl (bl_refl _) | exact hK.out _ _ rfl (bl_refl _)
    · cases ho
      have e1 : s 1 = _ := hs 1 (by decide) (by simp [so1]) (by kernel_rfl)
      have e2 : s 2 = _ := hs 2 (by decide) (by simp [so1]) (by kernel_rfl)
      simp only [e1, e2] at hK ⊢
      simp only [Act.put, List.setIfInBounds_toArray, List.set_cons_zero, List.set_cons_succ] at hK
      clear hs hso
      go_simp
      all_goals first | with_reducible exact hK.out _ _ rfl (bl_refl _) | exact hK.out _ _ rfl (bl_refl _)
    · cases ho
      simp only [Act.put, List.setIfInBounds_toArray, List.set_cons_zero, List.set_cons_succ] at hK
      clear hs hso
      go_simp
      all_goals first | with_reducible exact hK.out _ _ rfl (bl_refl _) | exact hK.out _ _ rfl (bl_refl _)
    · cases ho
      have e3 : s 3 = _ := hs 3 (by decide) (by simp [so1]) (by kernel_rfl)
      have e4 : s 4 = _ := hs 4 (by decide) (by simp [so1]) (by kernel_rfl)
      simp only [e3, e4] at hK ⊢
      simp only [Act.put, List.setIfInBounds_toArray, List.set_cons_zero, List.set_cons_succ] at hK
      clear hs hso
      go_simp
      all_goals first | with_reducible exact hK.out _ _ rfl (bl_refl _) | exact hK.out _ _ rfl (bl_refl _)
    · cases ho
      simp only [Act.put, List.setIfInBounds_toArray, List.set_cons_zero, List.set_cons_succ] at hK
      clear hs hso
      go_simp
      all_goals first | with_reducible exact hK.out _ _ rfl (bl_refl _) | exact hK.out _ _ rfl (bl_refl _)
    · cases ho
      have e6 : s 6 = _ := hs 6 (by decide) (by simp [so1]) (by kernel_rfl)
      simp only [e6] at hK ⊢
      simp only [Act.put, List.setIfInBounds_toArray, List.set_cons_zero, List.set_cons_succ] at hK
      clear hs hso
      go_simp
      all_goals first | with_reducible exact hK.out _ _ rfl (bl_refl _) | exact hK.out _ _ rfl (bl_refl _)
    · cases ho
      simp only [Act.put, List.setIfInBounds_toArray, List.set_cons_zero, List.set_cons_succ] at hK
      clear hs hso
      go_simp
      all_goals first | with_reducible exact hK.out _ _ rfl (bl_refl _) | exact hK.out _ _ rfl (bl_refl _)
    · cases ho
      have e7 : s 7 = _ := hs 7 (by decide) (by simp [so1]) (by kernel_rfl)
      have e8 : s 8 = _ := hs 8 (by decide) (by simp [so1]) (by kernel_rfl)
      simp only [e7, e8] at hK ⊢
      simp only [Act.put, List.setIfInBounds_toArray, List.set_cons_zero, List.set_cons_succ] at hK
      clear hs hso
      go_simp
      all_goals first | with_reducible exact hK.out _ _ rfl (bl_refl _) | exact hK.out _ _ rfl (bl_refl _)
    · cases ho
      simp only [Act.put, List.setIfInBounds_toArray, List.set_cons_zero, List.set_cons_succ] at hK
      clear hs hso
      go_simp
      all_goals first | with_reducible exact hK.out _ _ rfl (bl_refl _) | exact hK.out _ _ rfl (bl_refl _)
    · cases ho
      have e9 : s 9 = _ := hs 9 (by decide) (by simp [so1]) (by kernel_rfl)
      have e10 : s 10 = _ := hs 10 (by decide) (by simp [so1]) (by kernel_rfl)
      simp only [e9, e10] at hK ⊢
      simp only [Act.put, List.setIfInBounds_toArray, List.set_cons_zero, List.set_cons_succ] at hK
      clear hs hso
      go_simp
      all_goals first | with_reducible exact hK.out _ _ rfl (bl_refl _) | exact hK.out _ _ rfl (bl_refl _)
    · cases ho
      simp only [Act.put, List.setIfInBounds_toArray, List.set_cons_zero, List.set_cons_succ] at hK
      clear hs hso
      go_simp
      all_goals first | with_reducible exact hK.out _ _ rfl (bl_refl _) | exact hK.out _ _ rfl (bl_refl _)
    · cases ho
      have e11 : s 11 = _ := hs 11 (by decide) (by simp [so1]) (by kernel_rfl)
      have e12 : s 12 = _ := hs 12 (by decide) (by simp [so1]) (by kernel_rfl)
      simp only [e11, e12] at hK ⊢
      simp only [Act.put, List.setIfInBounds_toArray, List.set_cons_zero, List.set_cons_succ] at hK
      clear hs hso
      go_simp
      all_goals first | with_reducible exact hK.out _ _ rfl (bl_refl _) | exact hK.out _ _ rfl (bl_refl _)
    · cases ho
      simp only [Act.put, List.setIfInBounds_toArray, List.set_cons_zero, List.set_cons_succ] at hK
      clear hs hso
      go_simp
      all_goals first | with_reducible exact hK.out _ _ rfl (bl_refl _) | exact hK.out _ _ rfl (bl_refl _)
    · cases ho
      have e13 : s 13 = _ := hs 13 (by decide) (by simp [so1]) (by kernel_rfl)
      have e14 : s 14 = _ := hs 14 (by decide) (by simp [so1]) (by kernel_rfl)
      simp only [e13, e14] at hK ⊢
      simp only [Act.put, List.setIfInBounds_toArray, List.set_cons_zero, List.set_cons_succ] at hK
      clear hs hso
      go_simp
      all_goals first | with_reducible exact hK.out _ _ rfl (bl_refl _) | exact hK.out _ _ rfl (bl_refl _)
    · cases ho
      simp only [Act.put, List.setIfInBounds_toArray, List.set_cons_zero, List.set_cons_succ] at hK
      clear hs hso
      go_simp
      all_goals first | with_reducible exact hK.out _ _ rfl (bl_refl _) | exact hK.out _ _ rfl (bl_refl _)
    · cases ho
      have e16 : s 16 = _ := hs 16 (by decide) (by simp [so1]) (by kernel_rfl)
      simp only [e16] at hK ⊢
      simp only [Act.put, List.setIfInBounds_toArray, List.set_cons_zero, List.set_cons_succ] at hK
      clear hs hso
      go_simp
      all_goals first | with_reducible exact hK.out _ _ rfl (bl_refl _) | exact hK.out _ _ rfl (bl_refl _)
    · cases ho
      simp only [Act.put, List.setIfInBounds_toArray, List.set_cons_zero, List.set_cons_succ] at hK
      clear hs hso
      go_simp
      all_goals first | with_reducible exact hK.out _ _ rfl (bl_refl _) | exact hK.out _ _ rfl (bl_refl _)
    · cases ho
      have e17 : s 17 = _ := hs 17 (by decide) (by simp [so1]) (by kernel_rfl)
      have e18 : s 18 = _ := hs 18 (by decide) (by simp [so1]) (by kernel_rfl)
      simp only [e17, e18] at hK ⊢
      simp only [Act.put, List.setIfInBounds_toArray, List.set_cons_zero, List.set_cons_succ] at hK
      clear hs hso
      go_simp
      all_goals (try go_wp2_with (first | (go_at_call 26; (with_reducible refine (scale_x _ _ _ _ _ hx hy _).mono ?_); rintro e w' ⟨rfl, hb1⟩)))
      all_goals first | exact hK.out _ _ rfl hb1 | exact hK.out _ _ rfl hb1 | with_reducible exact hK.out _ _ rfl (bl_refl _) | exact hK.out _ _ rfl (bl_refl _)
    · cases ho
      simp only [Act.put, List.setIfInBounds_toArray, List.set_cons_zero, List.set_cons_succ] at hK
      clear hs hso
      go_simp
      all_goals first | with_reducible exact hK.out _ _ rfl (bl_refl _) | exact hK.out _ _ rfl (bl_refl _)
    · cases ho
      have e20 : s 20 = _ := hs 20 (by decide) (by simp [so1]) (by kernel_rfl)
      simp only [e20] at hK ⊢
      simp only [Act.put, List.setIfInBounds_toArray, List.set_cons_zero, List.set_cons_succ] at hK
      clear hs hso
      go_simp
      all_goals first | with_reducible exact hK.out _ _ rfl (bl_refl _) | exact hK.out _ _ rfl (bl_refl _)
    · cases ho
      have e5 : s 5 = _ := hs 5 (by decide) (by simp [so1]) (by kernel_rfl)
      have e15 : s 15 = _ := hs 15 (by decide) (by simp [so1]) (by kernel_rfl)
      have e19 : s 19 = _ := hs 19 (by decide) (by simp [so1]) (by kernel_rfl)
      have e21 : s 21 = _ := hs 21 (by decide) (by simp [so1]) (by kernel_rfl)
      simp only [e5, e15, e19, e21] at hK ⊢
      simp only [Act.put, List.setIfInBounds_toArray, List.set_cons_zero, List.set_cons_succ] at hK
      clear hs hso
      go_simp
      all_goals first | with_reducible exact hK.out _ _ rfl (bl_refl _) | exact hK.out _ _ rfl (bl_refl _)
    · simp [so1] at hso
  case hst_lg =>
    intro i o b d hi ho hso s hs W hb K hK
    rcases so1_some hso with ⟨rfl, rfl, rfl⟩
    · cases ho
      have e22 : s 22 = _ := hs 22 (by decide) (by simp [so1]) (by kernel_rfl)
      simp only [e22] at hK ⊢
      have hth := hb.2.2.2 _ _ _ hth23
      refine wp_store_mid (P := Try.prog) 45 _ _ rfl _ 0 #[.float .f64 m2, .float .f64 i2, .float .f64 x2, .float .f64 y2, .float .f64 q.ss] rfl rfl hth (by kernel_rfl) (by kernel_rfl) ?_
      exact hK.out [.float .f64 m2, .float .f64 i2, .float .f64 x2, .float .f64 y2, .float .f64 q.ss] rfl hth
  case ht_lg =>
    intro s hs W hB9 hb hout
    have e0 : s 0 = _ := hs 0 (by decide) (by simp [so1])
    have e1 : s 1 = _ := hs 1 (by decide) (by simp [so1])
    have e2 : s 2 = _ := hs 2 (by decide) (by simp [so1])
    have e3 : s 3 = _ := hs 3 (by decide) (by simp [so1])
    have e4 : s 4 = _ := hs 4 (by decide) (by simp [so1])
    have e5 : s 5 = _ := hs 5 (by decide) (by simp [so1])
    have e6 : s 6 = _ := hs 6 (by decide) (by simp [so1])
    have e7 : s 7 = _ := hs 7 (by decide) (by simp [so1])
    have e8 : s 8 = _ := hs 8 (by decide) (by simp [so1])
    have e9 : s 9 = _ := hs 9 (by decide) (by simp [so1])
    have e10 : s 10 = _ := hs 10 (by decide) (by simp [so1])
    have e11 : s 11 = _ := hs 11 (by decide) (by simp [so1])
    have e12 : s 12 = _ := hs 12 (by decide) (by simp [so1])
    have e13 : s 13 = _ := hs 13 (by decide) (by simp [so1])
    have e14 : s 14 = _ := hs 14 (by decide) (by simp [so1])
    have e15 : s 15 = _ := hs 15 (by decide) (by simp [so1])
    have e16 : s 16 = _ := hs 16 (by decide) (by simp [so1])
    have e17 : s 17 = _ := hs 17 (by decide) (by simp [so1])
    have e18 : s 18 = _ := hs 18 (by decide) (by simp [so1])
    have e19 : s 19 = _ := hs 19 (by decide) (by simp [so1])
    have e20 : s 20 = _ := hs 20 (by decide) (by simp [so1])
    have e21 : s 21 = _ := hs 21 (by decide) (by simp [so1])
    have e22 : s 22 = _ := hs 22 (by decide) (by simp [so1])
    have hr23 : W.rangeAt (w.heap.size + 1) 0 [.float .f64 m2, .float .f64 i2, .float .f64 x2, .float .f64 y2, .float .f64 q.ss] := by obtain ⟨cs, g1, g2⟩ := hout 23 _ _ (by decide) (so1_at0 (by decide)); rw [e22] at g1; injection g1 with g1; have g3 := congrArg Array.toList g1; simp only [List.toList_toArray] at g3; rw [← g3] at g2; exact g2
    simp only [e0, e1, e2, e3, e4, e5, e6, e7, e8, e9, e10, e11, e12, e13, e14, e15, e16, e17, e18, e19, e20, e21, e22]
    clear hs hout e0 e1 e2 e3 e4 e5 e6 e7 e8 e9 e10 e11 e12 e13 e14 e15 e16 e17 e18 e19 e20 e21 e22
    repeat (first | go_values | go_skip | go_guarded | go_step | go_upon | go_back | dsimp only)
    refine bodyPost_ret (results_c9 (c := 4) (ty := 45) rfl rfl (run_loadVar_mid _ (w.heap.size + 1) 0 45 [.float .f64 m2, .float .f64 i2, .float .f64 x2, .float .f64 y2, .float .f64 q.ss] _ hr23 Try.underlying45 rfl (by kernel_rfl))) rfl ⟨rfl, hB9⟩

end Go.Proofs.Ytfohggiehbplkaa
