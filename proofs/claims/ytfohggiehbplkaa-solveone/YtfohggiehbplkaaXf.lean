/-
  Plain facts that go together.
-/
import Derived.Test.YtfohggiehbplkaaVec
import Derived.Test.YtfohggiehbplkaaXd
import Derived.Test.YtfohggiehbplkaaWnu
import Derived.Below
import Derived.OwnWalk
import Derived.Laws.AppendOwn
import Derived.Lib.SliceRun
import Derived.Laws.MakeOwn
import Derived.WalkKit
import Derived.WalkLawsBesides
import Derived.WalkSpells
import Derived.ProofKit
import Derived.OpenShut
import Derived.Deep.RegionHeld3
namespace Go.Proofs.Ytfohggiehbplkaa
open Go.ChangeShapes Go.WideShapes Go.ChangeAt Go.RowKit
set_option linter.unusedSimpArgs false
set_option linter.unusedVariables false
/-- how far a row may be pushed that another one bounds -/
def enF (R : RD) (P : Nat) : Nat := bif ltK .f64 0 (oF .mul (bitsK R.r13) (bitsK P)) then oF .mul (bitsK R.r13) (bitsK P) else 0
theorem lt_nums0 {x : Nat} (h : ltK .f64 0 x = true) : nanK .f64 x = false := by
 unfold ltK at h
 simp only [Bool.and_eq_true, Bool.not_eq_true'] at h
 exact h.1.2
theorem isF_n {x : Nat} (o : okK .f64 x) (h : nanK .f64 x = false) : isF x x := ⟨o, bits_num h⟩
theorem nan_ne {x : Nat} (h : nanK .f64 x = false) : x ≠ 9221120237041090560 := by rintro rfl; revert h; decide +kernel
theorem inf_of {h : Nat} (o : okK .f64 h) (hn : nanK .f64 h = false) (hf : finK .f64 h = false) (hp : ltK .f64 0 h = true) : h = 9218868437227405312 := by
 rw [okK64] at o
 have hn2 : ¬ (infK .f64 < rgK .f64 h) := fun g => by rw [show nanK .f64 h = true from decide_eq_true g] at hn; cases hn
 unfold finK at hf
 rw [inf64] at hn2 hf
 simp only [decide_eq_false_iff_not] at hf
 rw [rg64] at hn2 hf
 rcases Nat.lt_or_ge h 9223372036854775808 with g | g
 ·omega
 ·have e : h = 18442240474082181120 := by omega
  subst e
  exact absurd hp (by decide +kernel)
theorem sub0 {h : Nat} (oh : okK .f64 h) (hp : ltK .f64 0 h = true ∨ h = 0) : nanK .f64 (oF .sub 0 h) = false ∧ leK .f64 (oF .sub 0 h) h = true := by
 have hn : nanK .f64 h = false := by rcases hp with hp | rfl; exact lt_nums0 hp; decide +kernel
 cases hf : finK .f64 h
 ·have e : h = 9218868437227405312 := by
   rcases hp with hp | rfl
   ·exact inf_of oh hn hf hp
   ·exact absurd hf (by decide +kernel)
  subst e
  exact ⟨by decide +kernel, by decide +kernel⟩
 ·have f0 : finK .f64 0 = true := by decide +kernel
  obtain ⟨v, hv⟩ := Option.isSome_iff_exists.1 (some_sub f0 hf oh)
  have hr : resK .sub .f64 0 h v := by have h1 := res_o .sub 0 h; rw [hv] at h1; exact h1
  have fneg : finK .f64 (Op.negFloat .f64 h) = true := by rw [fin_neg _ oh]; exact hf
  obtain ⟨fv_, ev⟩ := add_exact f0 fneg fneg (res_sub_add oh hr) (by rw [show svK .f64 0 = 0 by decide +kernel]; omega)
  have eo : oF .sub 0 h = v := by unfold oF; rw [hv]; exact bits_num (fin_nan fv_)
  rw [eo]
  refine ⟨fin_nan fv_, (le_rv (fin_nan fv_) hn).2 ?_⟩
  have e1 : rv v = -rv h := by rw [rv_sv, ev, sv_neg _ oh, rv_sv, Rat.div_def, Rat.div_def, Rat.intCast_neg, Rat.neg_mul]
  have e2 : 0 ≤ rv h := by
   rcases hp with hp | rfl
   ·have h1 := lt_sv f0 hf
    rw [hp, show svK .f64 0 = 0 by decide +kernel] at h1
    have h2 : (0 : Int) < svK .f64 h := by simpa using h1.symm
    rw [rv_sv, Rat.div_def]
    refine Rat.mul_nonneg ?_ (by decide +kernel)
    exact_mod_cast Int.le_of_lt h2
   ·decide +kernel
  rw [e1]
  grind
theorem en_ok (R : RD) (P : Nat) : okK .f64 (enF R P) ∧ (ltK .f64 0 (enF R P) = true ∨ enF R P = 0) := by
 unfold enF
 cases h : ltK .f64 0 (oF .mul (bitsK R.r13) (bitsK P))
 ·exact ⟨ok_zero, .inr rfl⟩
 ·exact ⟨oF_ok _ _ _, .inl h⟩
set_option maxRecDepth 100000 in
set_option maxHeartbeats 4000000 in
theorem ends_w (R : RD) (g rn rc_ P : Nat) (sv : Value) (w : World) (oR13 : okK .f64 R.r13) (oP : okK .f64 P) (hc : rn ≤ rc_) (hm : rc_ ≤ maxLen) (h0 : 0 ≤ R.ro) (h1 : R.ro < rn) (hP : w.cell? ⟨g, R.ro.toNat * 14 + 11, none⟩ = some (.float .f64 P)) : Calls Try.prog 118 #[.agg #[.slice (some ⟨g, 0, none⟩) rn rc_, sv], .agg #[.int .i64 R.ra, .int .i64 R.rb, .float .f64 R.r2, .float .f64 R.r3, .float .f64 R.r4, .float .f64 R.r5, .float .f64 R.r6, .float .f64 R.r7, .float .f64 R.r8, .float .f64 R.r9, .float .f64 R.r10, .float .f64 R.r11, .int .i64 R.ro, .float .f64 R.r13]] w fun e w' => e = .returned (.tuple #[.float .f64 (oF .sub 0 (enF R P)), .float .f64 (enF R P)]) ∧ Bel w w' := by
 unfold maxLen at hm
 have c1 := cmp_gt .f64
 have q1 := run_mul Try.prog
 have B0 : Bel w ((w.alloc (.cells #[.slice (some ⟨g, 0, none⟩) rn rc_, sv] 116)).alloc (.cells #[.int .i64 R.ra, .int .i64 R.rb, .float .f64 R.r2, .float .f64 R.r3, .float .f64 R.r4, .float .f64 R.r5, .float .f64 R.r6, .float .f64 R.r7, .float .f64 R.r8, .float .f64 R.r9, .float .f64 R.r10, .float .f64 R.r11, .int .i64 R.ro, .float .f64 R.r13] 43)) := bl_alloc (bl_alloc (bl_refl w) _ _) _ _
 have hT0 : ((w.alloc (.cells #[.slice (some ⟨g, 0, none⟩) rn rc_, sv] 116)).alloc (.cells #[.int .i64 R.ra, .int .i64 R.rb, .float .f64 R.r2, .float .f64 R.r3, .float .f64 R.r4, .float .f64 R.r5, .float .f64 R.r6, .float .f64 R.r7, .float .f64 R.r8, .float .f64 R.r9, .float .f64 R.r10, .float .f64 R.r11, .int .i64 R.ro, .float .f64 R.r13] 43)).rangeAt (w.heap.size) 0 [.slice (some ⟨g, 0, none⟩) rn rc_, sv] := World.rangeAt_alloc (rng_new w [.slice (some ⟨g, 0, none⟩) rn rc_, sv] 116) _
 have hT1 : ((w.alloc (.cells #[.slice (some ⟨g, 0, none⟩) rn rc_, sv] 116)).alloc (.cells #[.int .i64 R.ra, .int .i64 R.rb, .float .f64 R.r2, .float .f64 R.r3, .float .f64 R.r4, .float .f64 R.r5, .float .f64 R.r6, .float .f64 R.r7, .float .f64 R.r8, .float .f64 R.r9, .float .f64 R.r10, .float .f64 R.r11, .int .i64 R.ro, .float .f64 R.r13] 43)).rangeAt (w.heap.size + 1) 0 [.int .i64 R.ra, .int .i64 R.rb, .float .f64 R.r2, .float .f64 R.r3, .float .f64 R.r4, .float .f64 R.r5, .float .f64 R.r6, .float .f64 R.r7, .float .f64 R.r8, .float .f64 R.r9, .float .f64 R.r10, .float .f64 R.r11, .int .i64 R.ro, .float .f64 R.r13] := by have h := rng_new (w.alloc (.cells #[.slice (some ⟨g, 0, none⟩) rn rc_, sv] 116)) [.int .i64 R.ra, .int .i64 R.rb, .float .f64 R.r2, .float .f64 R.r3, .float .f64 R.r4, .float .f64 R.r5, .float .f64 R.r6, .float .f64 R.r7, .float .f64 R.r8, .float .f64 R.r9, .float .f64 R.r10, .float .f64 R.r11, .int .i64 R.ro, .float .f64 R.r13] 43; rwa [World.size_alloc] at h
 have k0 : ((w.alloc (.cells #[.slice (some ⟨g, 0, none⟩) rn rc_, sv] 116)).alloc (.cells #[.int .i64 R.ra, .int .i64 R.rb, .float .f64 R.r2, .float .f64 R.r3, .float .f64 R.r4, .float .f64 R.r5, .float .f64 R.r6, .float .f64 R.r7, .float .f64 R.r8, .float .f64 R.r9, .float .f64 R.r10, .float .f64 R.r11, .int .i64 R.ro, .float .f64 R.r13] 43)).cell? ⟨w.heap.size, 0, none⟩ = some (.slice (some ⟨g, 0, none⟩) rn rc_) := hT0 0 _ rfl
 have k1 : ((w.alloc (.cells #[.slice (some ⟨g, 0, none⟩) rn rc_, sv] 116)).alloc (.cells #[.int .i64 R.ra, .int .i64 R.rb, .float .f64 R.r2, .float .f64 R.r3, .float .f64 R.r4, .float .f64 R.r5, .float .f64 R.r6, .float .f64 R.r7, .float .f64 R.r8, .float .f64 R.r9, .float .f64 R.r10, .float .f64 R.r11, .int .i64 R.ro, .float .f64 R.r13] 43)).cell? ⟨w.heap.size + 1, 13, none⟩ = some (.float .f64 R.r13) := hT1 13 _ rfl
 have k2 : ((w.alloc (.cells #[.slice (some ⟨g, 0, none⟩) rn rc_, sv] 116)).alloc (.cells #[.int .i64 R.ra, .int .i64 R.rb, .float .f64 R.r2, .float .f64 R.r3, .float .f64 R.r4, .float .f64 R.r5, .float .f64 R.r6, .float .f64 R.r7, .float .f64 R.r8, .float .f64 R.r9, .float .f64 R.r10, .float .f64 R.r11, .int .i64 R.ro, .float .f64 R.r13] 43)).cell? ⟨w.heap.size + 1, 12, none⟩ = some (.int .i64 R.ro) := hT1 12 _ rfl
 have k3 := keep B0 hP
 go_enter Try.func118, Try.ntmps118
 go_wp2
 refine wp_region_mono 11 rfl (fun i W v => match i with | 0 => v = .pointer (some ⟨w.heap.size + 1, 13, none⟩) | 1 => v = .float .f64 R.r13 | 2 => v = .pointer (some ⟨w.heap.size, 0, none⟩) | 3 => v = (.slice (some ⟨g, 0, none⟩) rn rc_) | 4 => v = .pointer (some ⟨w.heap.size + 1, 12, none⟩) | 5 => v = .int .i64 R.ro | 6 => v = .pointer (some ⟨g, R.ro.toNat * 14, none⟩) | 7 => v = .pointer (some ⟨g, R.ro.toNat * 14 + 11, none⟩) | 8 => v = .float .f64 P | 9 => ∃ p, isF p (oF .mul (bitsK R.r13) (bitsK P)) ∧ v = .float .f64 p | 10 => ∃ p, isF p (oF .mul (bitsK R.r13) (bitsK P)) ∧ v = .float .f64 p | _ => False) ?A_we (by kernel_rfl) (by kernel_rfl) ?hA_we ?hmo_we ?hq_we ?ht_we
 case hA_we =>
  intro s
  simp only [putL, dstO, Act.put, List.getElem?_toArray, List.getElem?_cons_zero, List.getElem?_cons_succ, Option.bind_some, List.setIfInBounds_toArray, List.set_cons_zero, List.set_cons_succ, if_true]
  all_goals exact rfl
 case hmo_we =>
  intro i W W' v hi hb h
  rcases (show i = 0 ∨ i = 1 ∨ i = 2 ∨ i = 3 ∨ i = 4 ∨ i = 5 ∨ i = 6 ∨ i = 7 ∨ i = 8 ∨ i = 9 ∨ i = 10 by omega) with rfl | rfl | rfl | rfl | rfl | rfl | rfl | rfl | rfl | rfl | rfl
  all_goals exact h
 case hq_we =>
  intro i o hi ho s W hs hb K hK
  have u0 := keep hb k0; have u1 := keep hb k1; have u2 := keep hb k2; have u3 := keep hb k3
  rcases (show i = 0 ∨ i = 1 ∨ i = 2 ∨ i = 3 ∨ i = 4 ∨ i = 5 ∨ i = 6 ∨ i = 7 ∨ i = 8 ∨ i = 9 ∨ i = 10 by omega) with rfl | rfl | rfl | rfl | rfl | rfl | rfl | rfl | rfl | rfl | rfl
  ·cases ho
   simp only [Act.put, List.setIfInBounds_toArray, List.set_cons_zero, List.set_cons_succ] at hK
   clear hs
   go_simp
   all_goals first | with_reducible exact hK.out _ _ rfl (bl_refl _) | exact hK.out _ _ rfl (bl_refl _)
  ·cases ho
   have e0 : s 0 = _ := hs 0 (by decide) (by kernel_rfl)
   simp only [e0] at hK ⊢
   simp only [Act.put, List.setIfInBounds_toArray, List.set_cons_zero, List.set_cons_succ] at hK
   clear hs
   go_simp
   all_goals first | with_reducible exact hK.out _ _ rfl (bl_refl _) | exact hK.out _ _ rfl (bl_refl _)
  ·cases ho
   simp only [Act.put, List.setIfInBounds_toArray, List.set_cons_zero, List.set_cons_succ] at hK
   clear hs
   go_simp
   all_goals first | with_reducible exact hK.out _ _ rfl (bl_refl _) | exact hK.out _ _ rfl (bl_refl _)
  ·cases ho
   have e2 : s 2 = _ := hs 2 (by decide) (by kernel_rfl)
   simp only [e2] at hK ⊢
   simp only [Act.put, List.setIfInBounds_toArray, List.set_cons_zero, List.set_cons_succ] at hK
   clear hs
   go_simp
   all_goals first | with_reducible exact hK.out _ _ rfl (bl_refl _) | exact hK.out _ _ rfl (bl_refl _)
  ·cases ho
   simp only [Act.put, List.setIfInBounds_toArray, List.set_cons_zero, List.set_cons_succ] at hK
   clear hs
   go_simp
   all_goals first | with_reducible exact hK.out _ _ rfl (bl_refl _) | exact hK.out _ _ rfl (bl_refl _)
  ·cases ho
   have e4 : s 4 = _ := hs 4 (by decide) (by kernel_rfl)
   simp only [e4] at hK ⊢
   simp only [Act.put, List.setIfInBounds_toArray, List.set_cons_zero, List.set_cons_succ] at hK
   clear hs
   go_simp
   all_goals first | with_reducible exact hK.out _ _ rfl (bl_refl _) | exact hK.out _ _ rfl (bl_refl _)
  ·cases ho
   have e3 : s 3 = _ := hs 3 (by decide) (by kernel_rfl)
   have e5 : s 5 = _ := hs 5 (by decide) (by kernel_rfl)
   simp only [e3, e5] at hK ⊢
   simp only [Act.put, List.setIfInBounds_toArray, List.set_cons_zero, List.set_cons_succ] at hK
   clear hs
   go_simp
   all_goals first | with_reducible exact hK.out _ _ rfl (bl_refl _) | exact hK.out _ _ rfl (bl_refl _)
  ·cases ho
   have e6 : s 6 = _ := hs 6 (by decide) (by kernel_rfl)
   simp only [e6] at hK ⊢
   simp only [Act.put, List.setIfInBounds_toArray, List.set_cons_zero, List.set_cons_succ] at hK
   clear hs
   go_simp
   all_goals first | with_reducible exact hK.out _ _ rfl (bl_refl _) | exact hK.out _ _ rfl (bl_refl _)
  ·cases ho
   have e7 : s 7 = _ := hs 7 (by decide) (by kernel_rfl)
   simp only [e7] at hK ⊢
   simp only [Act.put, List.setIfInBounds_toArray, List.set_cons_zero, List.set_cons_succ] at hK
   clear hs
   go_simp
   all_goals first | with_reducible exact hK.out _ _ rfl (bl_refl _) | exact hK.out _ _ rfl (bl_refl _)
  ·cases ho
   have e1 : s 1 = _ := hs 1 (by decide) (by kernel_rfl)
   have e8 : s 8 = _ := hs 8 (by decide) (by kernel_rfl)
   simp only [e1, e8] at hK ⊢
   simp only [Act.put, List.setIfInBounds_toArray, List.set_cons_zero, List.set_cons_succ] at hK
   clear hs
   go_simp
   all_goals first | with_reducible exact hK.out _ _ ⟨_, o_is _ (isF_r oR13) (isF_r oP), rfl⟩ (by first | exact bl_refl _ | exact bl_drewN (bl_refl _) _ | exact bl_drew (bl_refl _)) | exact hK.out _ _ ⟨_, o_is _ (isF_r oR13) (isF_r oP), rfl⟩ (by first | exact bl_refl _ | exact bl_drewN (bl_refl _) _ | exact bl_drew (bl_refl _)) | with_reducible exact hK.out _ _ rfl (bl_refl _) | exact hK.out _ _ rfl (bl_refl _)
  ·cases ho
   obtain ⟨p9, h9, e9⟩ := hs 9 (by decide) (by kernel_rfl)
   simp only [e9] at hK ⊢
   simp only [Act.put, List.setIfInBounds_toArray, List.set_cons_zero, List.set_cons_succ] at hK
   clear hs
   go_simp
   all_goals first | with_reducible exact hK.out _ _ ⟨_, h9, rfl⟩ (bl_refl _) | exact hK.out _ _ ⟨_, h9, rfl⟩ (bl_refl _) | with_reducible exact hK.out _ _ rfl (bl_refl _) | exact hK.out _ _ rfl (bl_refl _)
 case ht_we =>
  intro s W hs hb
  have e0 : s 0 = _ := hs 0 (by decide)
  have e1 : s 1 = _ := hs 1 (by decide)
  have e2 : s 2 = _ := hs 2 (by decide)
  have e3 : s 3 = _ := hs 3 (by decide)
  have e4 : s 4 = _ := hs 4 (by decide)
  have e5 : s 5 = _ := hs 5 (by decide)
  have e6 : s 6 = _ := hs 6 (by decide)
  have e7 : s 7 = _ := hs 7 (by decide)
  have e8 : s 8 = _ := hs 8 (by decide)
  obtain ⟨p9, h9, e9⟩ := hs 9 (by decide)
  obtain ⟨p10, h10, e10⟩ := hs 10 (by decide)
  simp only [e0, e1, e2, e3, e4, e5, e6, e7, e8, e9, e10]
  clear hs e0 e1 e2 e3 e4 e5 e6 e7 e8 e9 e10
  obtain hz | hz : ltK .f64 0 p10 = false ∨ ltK .f64 0 p10 = true := by cases ltK .f64 0 p10 <;> simp
  ·have e0 : enF R P = 0 := by unfold enF; rw [← lt0_is h10, hz]; rfl
   have f0 : finK .f64 0 = true := by decide +kernel
   have qz : ∀ w : World, (binOp .sub 24 (.float .f64 0) (.float .f64 0)).run Try.prog w = .ok (.float .f64 0) w := fun w => by rw [run_sub_dv _ _ _ _ _ f0 f0 ok_zero, show Dv .sub 0 0 = 0 by decide +kernel]
   repeat (first | go_values | go_skip | go_guarded | go_step | go_upon | go_back | dsimp only)
   refine bodyPost_ret (v := .tuple #[.float .f64 0, .float .f64 0]) (by kernel_rfl) rfl ?_
   exact ⟨by rw [e0, show oF .sub 0 0 = 0 by decide +kernel], bl_trans B0 hb⟩
  ·have e0 : enF R P = p10 := by
    have e1 : enF R P = oF .mul (bitsK R.r13) (bitsK P) := by unfold enF; rw [← lt0_is h10, hz]; rfl
    rw [e1, ← h10.2, bits_num (lt_nums0 hz)]
   have q2 := run_sub Try.prog
   repeat (first | go_values | go_skip | go_guarded | go_step | go_upon | go_back | dsimp only)
   refine bodyPost_ret (v := .tuple #[.float .f64 (fv .sub .f64 0 p10 W), .float .f64 p10]) (by kernel_rfl) rfl ?_
   have hx := isF_wd (o_is (op := .sub) W (isF_n (show okK .f64 0 from ok_zero) (by decide +kernel)) (isF_n h10.1 (lt_nums0 hz))) (nan_ne (sub0 h10.1 (.inl hz)).1)
   refine ⟨by rw [e0, ← hx], ?_⟩
   exact bl_drewN (bl_trans B0 hb) _
/-- a row as its turn begins: its ends told -/
def toR (Q : Nat → RD) (k : Nat) : RD := if 0 ≤ (Q k).ro then { Q k with r9 := oF .sub 0 (enF (Q k) (Q (Q k).ro.toNat).r11), r10 := enF (Q k) (Q (Q k).ro.toNat).r11 } else Q k
def onQ (T : RD) (a b : SD) : RD := bif slB T a b then { T with r11 := quF T a b } else T
def onX (T : RD) (a b : SD) : SD := bif slB T a b then puM a T.r2 T.r3 T.r6 (dfF T a b) else a
def onY (T : RD) (a b : SD) : SD := bif slB T a b then puM b T.r4 T.r5 T.r7 (dfF T a b) else b
def onR (T : RD) (a b : SD) : RD := bif mvB a || mvB b then onQ T a b else T
def onA (T : RD) (a b : SD) : SD := bif mvB a || mvB b then onX T a b else a
def onB (T : RD) (a b : SD) : SD := bif mvB a || mvB b then onY T a b else b
/-- a round, row by row -/
def rndM (Q : Nat → RD) (M : Nat → SD) : Nat → (Nat → RD) × (Nat → SD)
 | 0 => (Q, M)
 | k + 1 => (setF (rndM Q M k).1 k (onR (toR (rndM Q M k).1 k) ((rndM Q M k).2 ((rndM Q M k).1 k).ra.toNat) ((rndM Q M k).2 ((rndM Q M k).1 k).rb.toNat)),
   setF (setF (rndM Q M k).2 ((rndM Q M k).1 k).ra.toNat (onA (toR (rndM Q M k).1 k) ((rndM Q M k).2 ((rndM Q M k).1 k).ra.toNat) ((rndM Q M k).2 ((rndM Q M k).1 k).rb.toNat))) ((rndM Q M k).1 k).rb.toNat (onB (toR (rndM Q M k).1 k) ((rndM Q M k).2 ((rndM Q M k).1 k).ra.toNat) ((rndM Q M k).2 ((rndM Q M k).1 k).rb.toNat)))
theorem sp_rel {T : RD} {a b m n : SD} (h : RelS a m) (g : RelS b n) : spF T a b = spF T m n := by
 unfold spF nP
 simp only [h.hx.2, h.hy.2, h.hs.2, g.hx.2, g.hy.2, g.hs.2, isF_bits h.hx, isF_bits h.hy, isF_bits h.hs, isF_bits g.hx, isF_bits g.hy, isF_bits g.hs]
theorem wt_rel {T : RD} {a b m n : SD} (h : RelS a m) (g : RelS b n) : wtF T a b = wtF T m n := by unfold wtF; rw [h.em, h.ei, g.em, g.ei]
theorem lk_rel {T : RD} {a b m n : SD} (h : RelS a m) (g : RelS b n) : lkF T a b = lkF T m n := by unfold lkF; rw [sp_rel h g]
theorem qu_rel {T : RD} {a b m n : SD} (h : RelS a m) (g : RelS b n) : quF T a b = quF T m n := by unfold quF; rw [lk_rel h g, wt_rel h g]
theorem df_rel {T : RD} {a b m n : SD} (h : RelS a m) (g : RelS b n) : dfF T a b = dfF T m n := by unfold dfF; rw [qu_rel h g]
theorem sl_rel {T : RD} {a b m n : SD} (h : RelS a m) (g : RelS b n) : slB T a b = slB T m n := by unfold slB okB fiB; rw [lk_rel h g, wt_rel h g, qu_rel h g, df_rel h g]
theorem sl_fin {T : RD} {a b : SD} (h : slB T a b = true) : finK .f64 (quF T a b) = true := by
 unfold slB fiB at h
 simp only [Bool.and_eq_true] at h
 exact h.2.1
set_option maxRecDepth 100000 in
set_option maxHeartbeats 4000000 in
theorem one_m (T : RD) (a b m n : SD) (w : World) (oR : rok T) (h : RelS a m) (g : RelS b n) (hal : alB T a b = true) : Calls Try.prog 18 #[.agg #[.int .i64 T.ra, .int .i64 T.rb, .float .f64 T.r2, .float .f64 T.r3, .float .f64 T.r4, .float .f64 T.r5, .float .f64 T.r6, .float .f64 T.r7, .float .f64 T.r8, .float .f64 T.r9, .float .f64 T.r10, .float .f64 T.r11, .int .i64 T.ro, .float .f64 T.r13], .agg #[.float .f64 a.sm, .float .f64 a.si, .float .f64 a.sx, .float .f64 a.sy, .float .f64 a.ss], .agg #[.float .f64 b.sm, .float .f64 b.si, .float .f64 b.sx, .float .f64 b.sy, .float .f64 b.ss]] w fun e w' => ∃ A B : SD, RelS A (onX T m n) ∧ RelS B (onY T m n) ∧ e = .returned (.tuple #[.agg #[.int .i64 (onQ T m n).ra, .int .i64 (onQ T m n).rb, .float .f64 (onQ T m n).r2, .float .f64 (onQ T m n).r3, .float .f64 (onQ T m n).r4, .float .f64 (onQ T m n).r5, .float .f64 (onQ T m n).r6, .float .f64 (onQ T m n).r7, .float .f64 (onQ T m n).r8, .float .f64 (onQ T m n).r9, .float .f64 (onQ T m n).r10, .float .f64 (onQ T m n).r11, .int .i64 (onQ T m n).ro, .float .f64 (onQ T m n).r13], .agg #[.float .f64 A.sm, .float .f64 A.si, .float .f64 A.sx, .float .f64 A.sy, .float .f64 A.ss], .agg #[.float .f64 B.sm, .float .f64 B.si, .float .f64 B.sx, .float .f64 B.sy, .float .f64 B.ss], .int .i64 0]) ∧ Bel w w' := by
 unfold onX onY onQ
 cases hs : slB T m n
 ·have hs2 := (sl_rel h g).trans hs
  refine (one_same T a b w oR h.ok g.ok hal hs2).mono fun e w' ⟨he, hb⟩ => ⟨a, b, h, g, he, hb⟩
 ·have hs2 := (sl_rel h g).trans hs
  have hs3 := hs2
  unfold slB at hs3
  rw [Bool.and_eq_true] at hs3
  refine (one_ok T a b w oR h.ok g.ok hal hs3.1 hs3.2).mono fun e w' ⟨q, x, y, u, x2, y2, u2, hq, hx, hy, hu, hx2, hy2, hu2, he, hb⟩ => ?_
  have eq : q = quF T m n := by
   rw [qu_rel h g] at hq
   exact isF_wd hq (nan_ne (fin_nan (sl_fin hs)))
  subst eq
  rw [df_rel h g] at hx hy hu hx2 hy2 hu2
  exact ⟨⟨a.sm, a.si, x, y, u⟩, ⟨b.sm, b.si, x2, y2, u2⟩, pu_rel h hx hy hu, pu_rel g hx2 hy2 hu2, he, hb⟩
theorem ch_told {Q : Nat → RD} {k : Nat} {n m : Int} (h : chB (Q k) n m = true) : chB (toR Q k) n m = true := by
 unfold toR
 split
 ·unfold chB mayB at h ⊢
  simp only [Bool.and_eq_true] at h ⊢
  obtain ⟨⟨h1, h2, h3, h4, h5, h6⟩, h7⟩ := h
  exact ⟨⟨h1, h2, h3, h4, (sub0 (en_ok _ _).1 (en_ok _ _).2).2, h6⟩, h7⟩
 ·exact h
theorem ch_on {T : RD} {a b : SD} {n m : Int} (h : chB T n m = true) : chB (onR T a b) n m = true := by
 unfold onR onQ
 cases mvB a || mvB b
 ·exact h
 ·cases hs : slB T a b
  ·exact h
  ·unfold chB mayB at h ⊢
   simp only [Bool.and_eq_true, cond_true] at h ⊢
   obtain ⟨⟨h1, h2, h3, h4, h5, h6, h7, h8, h9, h10, h11, h12⟩, h13⟩ := h
   exact ⟨⟨h1, h2, h3, h4, h5, h6, h7, h8, h9, h10, sl_fin hs, h12⟩, h13⟩
theorem ok_told {Q : Nat → RD} {k : Nat} (h : rok (Q k)) : rok (toR Q k) := by
 unfold toR
 split
 ·obtain ⟨h2, h3, h4, h5, h6, h7, h8, h9, h10, h11, h13⟩ := h
  exact ⟨h2, h3, h4, h5, h6, h7, h8, oF_ok _ _ _, (en_ok _ _).1, h11, h13⟩
 ·exact h
theorem ok_on {T : RD} {a b : SD} (h : rok T) : rok (onR T a b) ∧ rok (onQ T a b) := by
 have hq : rok (onQ T a b) := by
  unfold onQ
  cases slB T a b
  ·exact h
  ·obtain ⟨h2, h3, h4, h5, h6, h7, h8, h9, h10, h11, h13⟩ := h
   exact ⟨h2, h3, h4, h5, h6, h7, h8, h9, h10, cl_ok (oF_ok _ _ _) h9 h10, h13⟩
 refine ⟨?_, hq⟩
 unfold onR
 cases mvB a || mvB b
 ·exact h
 ·exact hq
theorem on_st (T : RD) (a b : SD) : stB (onA T a b) = stB a ∧ stB (onB T a b) = stB b := by
 unfold onA onB onX onY
 cases mvB a || mvB b <;> cases slB T a b <;> exact ⟨rfl, rfl⟩
theorem rnd_ch {Q : Nat → RD} {M : Nat → SD} {n m : Int} {rn : Nat} (h : ∀ i, i < rn → chB (Q i) n m = true) : ∀ k, k ≤ rn → (∀ i, i < rn → chB ((rndM Q M k).1 i) n m = true) ∧ ∀ i, stB ((rndM Q M k).2 i) = stB (M i)
 | 0, _ => ⟨h, fun _ => rfl⟩
 | k + 1, hk => by
  obtain ⟨h1, h2⟩ := rnd_ch (M := M) h k (by omega)
  refine ⟨fun i hi => ?_, fun i => ?_⟩
  ·show chB (setF _ _ _ i) n m = true
   unfold setF
   split
   ·exact ch_on (ch_told (h1 k (by omega)))
   ·exact h1 i hi
  ·show stB (setF (setF _ _ _) _ _ i) = _
   unfold setF
   split
   ·subst i; rw [(on_st _ _ _).2, h2]
   ·split
    ·subst i; rw [(on_st _ _ _).1, h2]
    ·exact h2 i
theorem rnd_ok {Q : Nat → RD} {M : Nat → SD} {rn : Nat} (h : ∀ i, i < rn → rok (Q i)) : ∀ k, k ≤ rn → ∀ i, i < rn → rok ((rndM Q M k).1 i)
 | 0, _ => h
 | k + 1, hk => fun i hi => by
  have h1 := rnd_ok (M := M) h k (by omega)
  show rok (setF _ _ _ i)
  unfold setF
  split
  ·exact (ok_on (ok_told (h1 k (by omega)))).1
  ·exact h1 i hi
theorem setF_self {α : Type} (f : Nat → α) (i : Nat) : setF f i (f i) = f := by
 funext j
 unfold setF
 split
 ·subst j; rfl
 ·rfl
/-- rows that lie in a block of their own -/
structure RwM (w : World) (g n : Nat) (Q : Nat → RD) : Prop where
 thr : w.there g 0 (n * 14)
 at_ : Rws w g 0 n Q
theorem rws_lt {w : World} {b n : Nat} {Q : Nat → RD} (h : Rws w b 0 n Q) {i : Nat} (hi : i < n) : b < w.heap.size := World.block_lt_of_cell? w _ (h i hi 0 _ rfl)
theorem RwM.bel {w w' : World} {g n : Nat} {Q : Nat → RD} (h : RwM w g n Q) (b : Bel w w') : RwM w' g n Q := ⟨bel_there h.thr b, h.at_.bel b⟩
theorem RwM.away {w w' : World} {g n : Nat} {Q : Nat → RD} {F : List Nat} (h : RwM w g n Q) (b : Fx F w w') (hg : g ∉ F) : RwM w' g n Q := ⟨b.thr _ _ _ h.thr, fun i hi => b.rng hg (h.at_ i hi)⟩
theorem rws_one {W5 W : World} {g n k : Nat} {Q : Nat → RD} {T : RD} (h : Rws W5 g 0 n Q) (hT : W.rangeAt g (k * 14) (rc T)) (hout : ∀ q, ¬ (k * 14 ≤ q ∧ q < k * 14 + 14) → W.cell? ⟨g, q, none⟩ = W5.cell? ⟨g, q, none⟩) : Rws W g 0 n (setF Q k T) := fun i hi => by
 rw [Nat.zero_add]
 by_cases e : i = k
 ·subst e; rw [setF_at]; exact hT
 ·rw [setF_ne _ _ e]
  intro j v hj
  have h14 : j < 14 := (List.getElem?_eq_some_iff.1 hj).1
  have h1 := h i hi j v hj
  rw [Nat.zero_add] at h1
  rw [hout _ (by omega)]
  exact h1
theorem rng_ends {W5 W : World} {g k lo hi : Nat} {R : RD} (h : W5.rangeAt g (k * 14) (rc R)) (h1 : W.rangeAt g (k * 14 + 9) [.float .f64 lo]) (h2 : W.rangeAt g (k * 14 + 10) [.float .f64 hi]) (hout : ∀ q, q ≠ k * 14 + 9 → q ≠ k * 14 + 10 → W.cell? ⟨g, q, none⟩ = W5.cell? ⟨g, q, none⟩) : W.rangeAt g (k * 14) (rc { R with r9 := lo, r10 := hi }) := fun j v hj => by
 have h14 : j < 14 := (List.getElem?_eq_some_iff.1 hj).1
 have q1 := h1 0 _ rfl
 have q2 := h2 0 _ rfl
 rcases (show j = 0 ∨ j = 1 ∨ j = 2 ∨ j = 3 ∨ j = 4 ∨ j = 5 ∨ j = 6 ∨ j = 7 ∨ j = 8 ∨ j = 9 ∨ j = 10 ∨ j = 11 ∨ j = 12 ∨ j = 13 by omega) with rfl | rfl | rfl | rfl | rfl | rfl | rfl | rfl | rfl | rfl | rfl | rfl | rfl | rfl
 all_goals first
  | (cases hj; exact q1)
  | (cases hj; exact q2)
  | (rw [hout _ (by omega) (by omega)]; exact h _ v hj)
end Go.Proofs.Ytfohggiehbplkaa
