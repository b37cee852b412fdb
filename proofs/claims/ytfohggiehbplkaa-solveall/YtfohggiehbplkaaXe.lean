/-
  What each function of package poly answers, and what the reference of its chapter answers: one contract a function, for every float: the answer stands in the relation of its formula to what was given; of the memory that was there nothing has turned.
-/
import Derived.Test.YtfohggiehbplkaaVec
import Derived.Test.YtfohggiehbplkaaXd
import Derived.Test.YtfohggiehbplkaaWnu
import Derived.Below
import Derived.OwnWalk
import Derived.Laws.AppendOwn
import Derived.Lib.SliceRun
import Derived.Laws.MakeOwn
import Derived.WalkKit
import Derived.WalkLawsBesides
import Derived.WalkSpells
import Derived.ProofKit
import Derived.OpenShut
import Derived.Deep.RegionHeld3
namespace Go.Proofs.Ytfohggiehbplkaa
open Go.ChangeShapes Go.WideShapes Go.ChangeAt Go.RowKit
set_option linter.unusedVariables false
set_option linter.unusedSimpArgs false


/-- how far a row may be pushed that another one bounds -/
def enF (R : RD) (P : Nat) : Nat := bif ltK .f64 0 (oF .mul (bitsK R.r13) (bitsK P)) then oF .mul (bitsK R.r13) (bitsK P) else 0
theorem lt_nums0 {x : Nat} (h : ltK .f64 0 x = true) : nanK .f64 x = false := by
 unfold ltK at h
 simp only [Bool.and_eq_true, Bool.not_eq_true'] at h
 exact h.1.2
theorem isF_n {x : Nat} (o : okK .f64 x) (h : nanK .f64 x = false) : isF x x := ⟨o, bits_num h⟩
theorem nan_ne {x : Nat} (h : nanK .f64 x = false) : x ≠ 9221120237041090560 := by rintro rfl; revert h; decide +kernel
theorem inf_of {h : Nat} (o : okK .f64 h) (hn : nanK .f64 h = false) (hf : finK .f64 h = false) (hp : ltK .f64 0 h = true) : h = 9218868437227405312 := by
 rw [okK64] at o
 have hn2 : ¬ (infK .f64 < rgK .f64 h) := fun g => by rw [show nanK .f64 h = true from decide_eq_true g] at hn; cases hn
 unfold finK at hf
 rw [inf64] at hn2 hf
 simp only [decide_eq_false_iff_not] at hf
 rw [rg64] at hn2 hf
 rcases Nat.lt_or_ge h 9223372036854775808 with g | g
 ·omega
 ·have e : h = 18442240474082181120 := by omega
  subst e
  exact absurd hp (by decide +kernel)
theorem sub0 {h : Nat} (oh : okK .f64 h) (hp : ltK .f64 0 h = true ∨ h = 0) : nanK .f64 (oF .sub 0 h) = false ∧ leK .f64 (oF .sub 0 h) h = true := by
 have hn : nanK .f64 h = false := by rcases hp with hp | rfl; exact lt_nums0 hp; decide +kernel
 cases hf : finK .f64 h
 ·have e : h = 9218868437227405312 := by
   rcases hp with hp | rfl
   ·exact inf_of oh hn hf hp
   ·exact absurd hf (by decide +kernel)
  subst e
  exact ⟨by decide +kernel, by decide +kernel⟩
 ·have f0 : finK .f64 0 = true := by decide +kernel
  obtain ⟨v, hv⟩ := Option.isSome_iff_exists.1 (some_sub f0 hf oh)
  have hr : resK .sub .f64 0 h v := by have h1 := res_o .sub 0 h; rw [hv] at h1; exact h1
  have fneg : finK .f64 (Op.negFloat .f64 h) = true := by rw [fin_neg _ oh]; exact hf
  obtain ⟨fv_, ev⟩ := add_exact f0 fneg fneg (res_sub_add oh hr) (by rw [show svK .f64 0 = 0 by decide +kernel]; omega)
  have eo : oF .sub 0 h = v := by unfold oF; rw [hv]; exact bits_num (fin_nan fv_)
  rw [eo]
  refine ⟨fin_nan fv_, (le_rv (fin_nan fv_) hn).2 ?_⟩
  have e1 : rv v = -rv h := by rw [rv_sv, ev, sv_neg _ oh, rv_sv, Rat.div_def, Rat.div_def, Rat.intCast_neg, Rat.neg_mul]
  have e2 : 0 ≤ rv h := by
   rcases hp with hp | rfl
   ·have h1 := lt_sv f0 hf
    rw [hp, show svK .f64 0 = 0 by decide +kernel] at h1
    have h2 : (0 : Int) < svK .f64 h := by simpa using h1.symm
    rw [rv_sv, Rat.div_def]
    refine Rat.mul_nonneg ?_ (by decide +kernel)
    exact_mod_cast Int.le_of_lt h2
   ·decide +kernel
  rw [e1]
  grind
theorem en_ok (R : RD) (P : Nat) : okK .f64 (enF R P) ∧ (ltK .f64 0 (enF R P) = true ∨ enF R P = 0) := by
 unfold enF
 cases h : ltK .f64 0 (oF .mul (bitsK R.r13) (bitsK P))
 ·exact ⟨ok_zero, .inr rfl⟩
 ·exact ⟨oF_ok _ _ _, .inl h⟩
set_option maxRecDepth 100000 in
set_option maxHeartbeats 4000000 in
theorem ends_w (R : RD) (g rn rc_ P : Nat) (sv : Value) (w : World) (oR13 : okK .f64 R.r13) (oP : okK .f64 P) (hc : rn ≤ rc_) (hm : rc_ ≤ maxLen) (h0 : 0 ≤ R.ro) (h1 : R.ro < rn) (hP : w.cell? ⟨g, R.ro.toNat * 14 + 11, none⟩ = some (.float .f64 P)) : Calls Try.prog 118 #[.agg #[.slice (some ⟨g, 0, none⟩) rn rc_, sv], .agg #[.int .i64 R.ra, .int .i64 R.rb, .float .f64 R.r2, .float .f64 R.r3, .float .f64 R.r4, .float .f64 R.r5, .float .f64 R.r6, .float .f64 R.r7, .float .f64 R.r8, .float .f64 R.r9, .float .f64 R.r10, .float .f64 R.r11, .int .i64 R.ro, .float .f64 R.r13]] w fun e w' => e = .returned (.tuple #[.float .f64 (oF .sub 0 (enF R P)), .float .f64 (enF R P)]) ∧ Bel w w' := by
 unfold maxLen at hm
 have c1 := cmp_gt .f64
 have q1 := run_mul Try.prog
 have B0 : Bel w ((w.alloc (.cells #[.slice (some ⟨g, 0, none⟩) rn rc_, sv] 116)).alloc (.cells #[.int .i64 R.ra, .int .i64 R.rb, .float .f64 R.r2, .float .f64 R.r3, .float .f64 R.r4, .float .f64 R.r5, .float .f64 R.r6, .float .f64 R.r7, .float .f64 R.r8, .float .f64 R.r9, .float .f64 R.r10, .float .f64 R.r11, .int .i64 R.ro, .float .f64 R.r13] 43)) := bl_alloc (bl_alloc (bl_refl w) _ _) _ _
 have hT0 : ((w.alloc (.cells #[.slice (some ⟨g, 0, none⟩) rn rc_, sv] 116)).alloc (.cells #[.int .i64 R.ra, .int .i64 R.rb, .float .f64 R.r2, .float .f64 R.r3, .float .f64 R.r4, .float .f64 R.r5, .float .f64 R.r6, .float .f64 R.r7, .float .f64 R.r8, .float .f64 R.r9, .float .f64 R.r10, .float .f64 R.r11, .int .i64 R.ro, .float .f64 R.r13] 43)).rangeAt (w.heap.size) 0 [.slice (some ⟨g, 0, none⟩) rn rc_, sv] := World.rangeAt_alloc (rng_new w [.slice (some ⟨g, 0, none⟩) rn rc_, sv] 116) _
 have hT1 : ((w.alloc (.cells #[.slice (some ⟨g, 0, none⟩) rn rc_, sv] 116)).alloc (.cells #[.int .i64 R.ra, .int .i64 R.rb, .float .f64 R.r2, .float .f64 R.r3, .float .f64 R.r4, .float .f64 R.r5, .float .f64 R.r6, .float .f64 R.r7, .float .f64 R.r8, .float .f64 R.r9, .float .f64 R.r10, .float .f64 R.r11, .int .i64 R.ro, .float .f64 R.r13] 43)).rangeAt (w.heap.size + 1) 0 [.int .i64 R.ra, .int .i64 R.rb, .float .f64 R.r2, .float .f64 R.r3, .float .f64 R.r4, .float .f64 R.r5, .float .f64 R.r6, .float .f64 R.r7, .float .f64 R.r8, .float .f64 R.r9, .float .f64 R.r10, .float .f64 R.r11, .int .i64 R.ro, .float .f64 R.r13] := by have h := rng_new (w.alloc (.cells #[.slice (some ⟨g, 0, none⟩) rn rc_, sv] 116)) [.int .i64 R.ra, .int .i64 R.rb, .float .f64 R.r2, .float .f64 R.r3, .float .f64 R.r4, .float .f64 R.r5, .float .f64 R.r6, .float .f64 R.r7, .float .f64 R.r8, .float .f64 R.r9, .float .f64 R.r10, .float .f64 R.r11, .int .i64 R.ro, .float .f64 R.r13] 43; rwa [World.size_alloc] at h
 have k0 : ((w.alloc (.cells #[.slice (some ⟨g, 0, none⟩) rn rc_, sv] 116)).alloc (.cells #[.int .i64 R.ra, .int .i64 R.rb, .float .f64 R.r2, .float .f64 R.r3, .float .f64 R.r4, .float .f64 R.r5, .float .f64 R.r6, .float .f64 R.r7, .float .f64 R.r8, .float .f64 R.r9, .float .f64 R.r10, .float .f64 R.r11, .int .i64 R.ro, .float .f64 R.r13] 43)).cell? ⟨w.heap.size, 0, none⟩ = some (.slice (some ⟨g, 0, none⟩) rn rc_) := hT0 0 _ rfl
 have k1 : ((w.alloc (.cells #[.slice (some ⟨g, 0, none⟩) rn rc_, sv] 116)).alloc (.cells #[.int .i64 R.ra, .int .i64 R.rb, .float .f64 R.r2, .float .f64 R.r3, .float .f64 R.r4, .float .f64 R.r5, .float .f64 R.r6, .float .f64 R.r7, .float .f64 R.r8, .float .f64 R.r9, .float .f64 R.r10, .float .f64 R.r11, .int .i64 R.ro, .float .f64 R.r13] 43)).cell? ⟨w.heap.size + 1, 13, none⟩ = some (.float .f64 R.r13) := hT1 13 _ rfl
 have k2 : ((w.alloc (.cells #[.slice (some ⟨g, 0, none⟩) rn rc_, sv] 116)).alloc (.cells #[.int .i64 R.ra, .int .i64 R.rb, .float .f64 R.r2, .float .f64 R.r3, .float .f64 R.r4, .float .f64 R.r5, .float .f64 R.r6, .float .f64 R.r7, .float .f64 R.r8, .float .f64 R.r9, .float .f64 R.r10, .float .f64 R.r11, .int .i64 R.ro, .float .f64 R.r13] 43)).cell? ⟨w.heap.size + 1, 12, none⟩ = some (.int .i64 R.ro) := hT1 12 _ rfl
 have k3 := keep B0 hP
 go_enter Try.func118, Try.ntmps118
 go_wp2
 refine wp_region_mono 11 rfl (fun i W v => match i with | 0 => v = .pointer (some ⟨w.heap.size + 1, 13, none⟩) | 1 => v = .float .f64 R.r13 | 2 => v = .pointer (some ⟨w.heap.size, 0, none⟩) | 3 => v = (.slice (some ⟨g, 0, none⟩) rn rc_) | 4 => v = .pointer (some ⟨w.heap.size + 1, 12, none⟩) | 5 => v = .int .i64 R.ro | 6 => v = .pointer (some ⟨g, R.ro.toNat * 14, none⟩) | 7 => v = .pointer (some ⟨g, R.ro.toNat * 14 + 11, none⟩) | 8 => v = .float .f64 P | 9 => ∃ p, isF p (oF .mul (bitsK R.r13) (bitsK P)) ∧ v = .float .f64 p | 10 => ∃ p, isF p (oF .mul (bitsK R.r13) (bitsK P)) ∧ v = .float .f64 p | _ => False) ?A_we (by kernel_rfl) (by kernel_rfl) ?hA_we ?hmo_we ?hq_we ?ht_we
 case hA_we =>
  intro s
  simp only [putL, dstO, Act.put, List.getElem?_toArray, List.getElem?_cons_zero, List.getElem?_cons_succ, Option.bind_some, List.setIfInBounds_toArray, List.set_cons_zero, List.set_cons_succ, if_true]
  all_goals exact rfl
 case hmo_we =>
  intro i W W' v hi hb h
  rcases (show i = 0 ∨ i = 1 ∨ i = 2 ∨ i = 3 ∨ i = 4 ∨ i = 5 ∨ i = 6 ∨ i = 7 ∨ i = 8 ∨ i = 9 ∨ i = 10 by omega) with rfl | rfl | rfl | rfl | rfl | rfl | rfl | rfl | rfl | rfl | rfl
  all_goals exact h
 case hq_we =>
  intro i o hi ho s W hs hb K hK
  have u0 := keep hb k0; have u1 := keep hb k1; have u2 := keep hb k2; have u3 := keep hb k3
  rcases (show i = 0 ∨ i = 1 ∨ i = 2 ∨ i = 3 ∨ i = 4 ∨ i = 5 ∨ i = 6 ∨ i = 7 ∨ i = 8 ∨ i = 9 ∨ i = 10 by omega) with rfl | rfl | rfl | rfl | rfl | rfl | rfl | rfl | rfl | rfl | rfl
  ·cases ho
   simp only [Act.put, List.setIfInBounds_toArray, List.set_cons_zero, List.set_cons_succ] at hK
   clear hs
   go_simp
   all_goals first | with_reducible exact hK.out _ _ rfl (bl_refl _) | exact hK.out _ _ rfl (bl_refl _)
  ·cases ho
   have e0 : s 0 = _ := hs 0 (by decide) (by kernel_rfl)
   simp only [e0] at hK ⊢
   simp only [Act.put, List.setIfInBounds_toArray, List.set_cons_zero, List.set_cons_succ] at hK
   clear hs
   go_simp
   all_goals first | with_reducible exact hK.out _ _ rfl (bl_refl _) | exact hK.out _ _ rfl (bl_refl _)
  ·cases ho
   simp only [Act.put, List.setIfInBounds_toArray, List.set_cons_zero, List.set_cons_succ] at hK
   clear hs
   go_simp
   all_goals first | with_reducible exact hK.out _ _ rfl (bl_refl _) | exact hK.out _ _ rfl (bl_refl _)
  ·cases ho
   have e2 : s 2 = _ := hs 2 (by decide) (by kernel_rfl)
   simp only [e2] at hK ⊢
   simp only [Act.put, List.setIfInBounds_toArray, List.set_cons_zero, List.set_cons_succ] at hK
   clear hs
   go_simp
   all_goals first | with_reducible exact hK.out _ _ rfl (bl_refl _) | exact hK.out _ _ rfl (bl_refl _)
  ·cases ho
   simp only [Act.put, List.setIfInBounds_toArray, List.set_cons_zero, List.set_cons_succ] at hK
   clear hs
   go_simp
   all_goals first | with_reducible exact hK.out _ _ rfl (bl_refl _) | exact hK.out _ _ rfl (bl_refl _)
  ·cases ho
   have e4 : s 4 = _ := hs 4 (by decide) (by kernel_rfl)
   simp only [e4] at hK ⊢
   simp only [Act.put, List.setIfInBounds_toArray, List.set_cons_zero, List.set_cons_succ] at hK
   clear hs
   go_simp
   all_goals first | with_reducible exact hK.out _ _ rfl (bl_refl _) | exact hK.out _ _ rfl (bl_refl _)
  ·cases ho
   have e3 : s 3 = _ := hs 3 (by decide) (by kernel_rfl)
   have e5 : s 5 = _ := hs 5 (by decide) (by kernel_rfl)
   simp only [e3, e5] at hK ⊢
   simp only [Act.put, List.setIfInBounds_toArray, List.set_cons_zero, List.set_cons_succ] at hK
   clear hs
   go_simp
   all_goals first | with_reducible exact hK.out _ _ rfl (bl_refl _) | exact hK.out _ _ rfl (bl_refl _)
  ·cases ho
   have e6 : s 6 = _ := hs 6 (by decide) (by kernel_rfl)
   simp only [e6] at hK ⊢
   simp only [Act.put, List.setIfInBounds_toArray, List.set_cons_zero, List.set_cons_succ] at hK
   clear hs
   go_simp
   all_goals first | with_reducible exact hK.out _ _ rfl (bl_refl _) | exact hK.out _ _ rfl (bl_refl _)
  ·cases ho
   have e7 : s 7 = _ := hs 7 (by decide) (by kernel_rfl)
   simp only [e7] at hK ⊢
   simp only [Act.put, List.setIfInBounds_toArray, List.set_cons_zero, List.set_cons_succ] at hK
   clear hs
   go_simp
   all_goals first | with_reducible exact hK.out _ _ rfl (bl_refl _) | exact hK.out _ _ rfl (bl_refl _)
  ·cases ho
   have e1 : s 1 = _ := hs 1 (by decide) (by kernel_rfl)
   have e8 : s 8 = _ := hs 8 (by decide) (by kernel_rfl)
   simp only [e1, e8] at hK ⊢
   simp only [Act.put, List.setIfInBounds_toArray, List.set_cons_zero, List.set_cons_succ] at hK
   clear hs
   go_simp
   all_goals first | with_reducible exact hK.out _ _ ⟨_, o_is _ (isF_r oR13) (isF_r oP), rfl⟩ (by first | exact bl_refl _ | exact bl_drewN (bl_refl _) _ | exact bl_drew (bl_refl _)) | exact hK.out _ _ ⟨_, o_is _ (isF_r oR13) (isF_r oP), rfl⟩ (by first | exact bl_refl _ | exact bl_drewN (bl_refl _) _ | exact bl_drew (bl_refl _)) | with_reducible exact hK.out _ _ rfl (bl_refl _) | exact hK.out _ _ rfl (bl_refl _)
  ·cases ho
   obtain ⟨p9, h9, e9⟩ := hs 9 (by decide) (by kernel_rfl)
   simp only [e9] at hK ⊢
   simp only [Act.put, List.setIfInBounds_toArray, List.set_cons_zero, List.set_cons_succ] at hK
   clear hs
   go_simp
   all_goals first | with_reducible exact hK.out _ _ ⟨_, h9, rfl⟩ (bl_refl _) | exact hK.out _ _ ⟨_, h9, rfl⟩ (bl_refl _) | with_reducible exact hK.out _ _ rfl (bl_refl _) | exact hK.out _ _ rfl (bl_refl _)
 case ht_we =>
  intro s W hs hb
  have e0 : s 0 = _ := hs 0 (by decide)
  have e1 : s 1 = _ := hs 1 (by decide)
  have e2 : s 2 = _ := hs 2 (by decide)
  have e3 : s 3 = _ := hs 3 (by decide)
  have e4 : s 4 = _ := hs 4 (by decide)
  have e5 : s 5 = _ := hs 5 (by decide)
  have e6 : s 6 = _ := hs 6 (by decide)
  have e7 : s 7 = _ := hs 7 (by decide)
  have e8 : s 8 = _ := hs 8 (by decide)
  obtain ⟨p9, h9, e9⟩ := hs 9 (by decide)
  obtain ⟨p10, h10, e10⟩ := hs 10 (by decide)
  simp only [e0, e1, e2, e3, e4, e5, e6, e7, e8, e9, e10]
  clear hs e0 e1 e2 e3 e4 e5 e6 e7 e8 e9 e10
  obtain hz | hz : ltK .f64 0 p10 = false ∨ ltK .f64 0 p10 = true := by cases ltK .f64 0 p10 <;> simp
  ·have e0 : enF R P = 0 := by unfold enF; rw [← lt0_is h10, hz]; rfl
   have f0 : finK .f64 0 = true := by decide +kernel
   have qz : ∀ w : World, (binOp .sub 24 (.float .f64 0) (.float .f64 0)).run Try.prog w = .ok (.float .f64 0) w := fun w => by rw [run_sub_dv _ _ _ _ _ f0 f0 ok_zero, show Dv .sub 0 0 = 0 by decide +kernel]
   repeat (first | go_values | go_skip | go_guarded | go_step | go_upon | go_back | dsimp only)
   refine bodyPost_ret (v := .tuple #[.float .f64 0, .float .f64 0]) (by kernel_rfl) rfl ?_
   exact ⟨by rw [e0, show oF .sub 0 0 = 0 by decide +kernel], bl_trans B0 hb⟩
  ·have e0 : enF R P = p10 := by
    have e1 : enF R P = oF .mul (bitsK R.r13) (bitsK P) := by unfold enF; rw [← lt0_is h10, hz]; rfl
    rw [e1, ← h10.2, bits_num (lt_nums0 hz)]
   have q2 := run_sub Try.prog
   repeat (first | go_values | go_skip | go_guarded | go_step | go_upon | go_back | dsimp only)
   refine bodyPost_ret (v := .tuple #[.float .f64 (fv .sub .f64 0 p10 W), .float .f64 p10]) (by kernel_rfl) rfl ?_
   have hx := isF_wd (o_is (op := .sub) W (isF_n (show okK .f64 0 from ok_zero) (by decide +kernel)) (isF_n h10.1 (lt_nums0 hz))) (nan_ne (sub0 h10.1 (.inl hz)).1)
   refine ⟨by rw [e0, ← hx], ?_⟩
   exact bl_drewN (bl_trans B0 hb) _

end Go.Proofs.Ytfohggiehbplkaa
