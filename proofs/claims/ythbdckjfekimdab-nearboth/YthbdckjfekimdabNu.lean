/-
  What each function of package poly answers, and what the reference of its chapter answers: one contract a function, for every float: the answer stands in the relation of its formula to what was given; of the memory that was there nothing has turned.
-/
import Derived.Test.YthbdckjfekimdabVec
import Derived.Test.YthbdckjfekimdabNp
import Derived.Test.YthbdckjfekimdabNsy
import Derived.Below
import Derived.WalkKit
import Derived.WalkLawsBesides
import Derived.WalkSpells
import Derived.ProofKit
import Derived.OpenShut
import Derived.Deep.RegionHeld3
namespace Go.Proofs.Ythbdckjfekimdab
open Go.ChangeShapes Go.WideShapes Go.ChangeAt Go.RowKit
set_option linter.unusedVariables false
set_option linter.unusedSimpArgs false


theorem fin_max {y : Nat} (f : finK .f64 y = true) : ltK .f64 9218868437227405311 y = false := by
  have h1 := f
  unfold finK at h1
  simp only [decide_eq_true_eq] at h1
  rw [inf64] at h1
  have n1 : nanK .f64 9218868437227405311 = false := by decide +kernel
  have w1 : woK .f64 9218868437227405311 = 9218868437227405311 := by decide +kernel
  unfold ltK
  rw [fin_nan f, n1, w1, woK_eq]
  simp only [Bool.not_false, Bool.true_and, decide_eq_false_iff_not]
  split <;> omega
theorem lt_ne {y : Nat} (f : finK .f64 y = true) (h : rgK .f64 y ≠ 0) : ltK .f64 0 y = !ltK .f64 y 0 := by
  have n0 : nanK .f64 0 = false := by decide +kernel
  have w0 : woK .f64 0 = 0 := by decide +kernel
  unfold ltK
  rw [n0, fin_nan f, w0, woK_eq]
  simp only [Bool.not_false, Bool.true_and]
  rw [Bool.eq_iff_iff]
  simp only [decide_eq_true_eq, Bool.not_eq_true', decide_eq_false_iff_not]
  split <;> omega
theorem lt_z {y : Nat} (h : rgK .f64 y = 0) : ltK .f64 0 y = false := by
  have w0 : woK .f64 0 = 0 := by decide +kernel
  unfold ltK
  rw [w0, woK_eq, h]
  simp
theorem mx_eq {y : Nat} (f : finK .f64 y = true) : (if (FloatKind.f64.decode 0 == .infinity false || FloatKind.f64.decode y == .infinity false) = true then FloatKind.f64.encode (.infinity false) else if ((FloatKind.f64.decode 0).isNaN || (FloatKind.f64.decode y).isNaN) = true then 0x7FF8000000000001 else if ((FloatKind.f64.decode 0).isZero && (FloatKind.f64.decode y).isZero) = true then (if ((FloatKind.f64.decode 0).neg == false) = true then 0 else y) else if ((FloatKind.f64.decode 0).order (FloatKind.f64.decode y) == some .gt) = true then 0 else y) = pkF (ltK .f64 0 y) y 0 := by
  obtain ⟨m, p, hr, hm, _⟩ := read_num64 y f
  have ho : ((FloatKind.f64.decode 0).order (FloatKind.f64.decode y) == some .gt) = ltK .f64 y 0 := cmp_gt .f64 0 y
  have ey : FloatKind.f64.decode y = .number (ngK .f64 y) m (FloatKind.f64.format.leastPlace + (p : Nat)) := hr
  obtain ⟨s, q, e0⟩ : ∃ q1 q2, FloatKind.f64.decode 0 = .number false q1 q2 ∧ q1 = 0 := ⟨0, _, rfl, rfl⟩
  rw [ho, ey, e0.1]
  have i1 : (Ieee.Datum.number false s q == Ieee.Datum.infinity false) = false := by rw [beq_eq_false_iff_ne]; intro h; cases h
  have i2 : (Ieee.Datum.number (ngK .f64 y) m (FloatKind.f64.format.leastPlace + (p : Nat)) == Ieee.Datum.infinity false) = false := by rw [beq_eq_false_iff_ne]; intro h; cases h
  rw [i1, i2, e0.2]
  by_cases h0 : m = 0
  · subst h0
    have hz : rgK .f64 y = 0 := by
      rw [Nat.zero_mul] at hm
      exact mg_zero.1 hm.symm
    rw [lt_z hz]
    rfl
  · have hz : rgK .f64 y ≠ 0 := by
      intro h
      have : mg y = 0 := by unfold mg; rw [h]; decide +kernel
      rw [this] at hm
      rcases Nat.mul_eq_zero.1 hm with h | h
      · exact h0 h
      · exact absurd h (Nat.ne_of_gt (Nat.two_pow_pos _))
    obtain ⟨m', rfl⟩ : ∃ m', m = m' + 1 := ⟨m - 1, by omega⟩
    rw [lt_ne f hz]
    cases ltK .f64 y 0 <;> rfl
theorem arch_run {y : Nat} (f : finK .f64 y = true) (w : World) : (callFunc 31 #[.float .f64 0, .float .f64 y]).run Try.prog w = .ok (.value (.float .f64 (pkF (ltK .f64 0 y) y 0))) w := by
  rw [run_callFunc_extern Try.func31 (by kernel_rfl) (by kernel_rfl) (by kernel_rfl) (f := 31) (e := Extern.MathDim.pick "math.archMax" false .gt) (by kernel_rfl)]
  rw [← mx_eq f]
  rfl
set_option maxRecDepth 100000 in
theorem max0_n {y : Nat} (w : World) (f : finK .f64 y = true) : Calls Try.prog 10 #[.float .f64 0, .float .f64 y] w fun e w' => e = .returned (.float .f64 (pkF (ltK .f64 0 y) y 0)) ∧ w' = w := by
  have q := fun w => arch_run f w
  go_enter Try.func10, Try.ntmps10
  go_wp2
  go_ret
  exact ⟨rfl, rfl⟩

theorem shb_ok {ka kb : Int} {ra rb n m : Nat} {xs ys us vs : Nat → Nat} (h1 : shE ka ra xs ys n = 0) (h2 : shE kb rb us vs m = 0) : (shB ka ra xs ys n kb rb us vs m) = 0 := by unfold shB; rw [if_pos h1]; exact h2
/-- Shapes of two that may be -/
theorem shapes_z (Va Vb : Value) {ka kb : Int} {ra rb n m : Nat} {xs ys us vs : Nat → Nat} (w : World) (hA : AnyS w Va n xs ys) (hB : AnyS w Vb m us vs) (oa : okK .f64 ra) (ob : okK .f64 rb) (h1 : shE ka ra xs ys n = 0) (h2 : shE kb rb us vs m = 0) {f : Nat} {P Q : Vp} (hf : (shF (coF (fiO ka (fun i => hasV xs ys n (us i) (vs i)) m) (fiO kb (fun i => hasV us vs m (xs i) (ys i)) n) us vs xs ys (ouF xs ys n us vs m (sdN kb m) (sdN ka n))) (bitsK ra) (bitsK rb) (bitsK (Op.negFloat .f64 rb))).1 = f) (hP : (shF (coF (fiO ka (fun i => hasV xs ys n (us i) (vs i)) m) (fiO kb (fun i => hasV us vs m (xs i) (ys i)) n) us vs xs ys (ouF xs ys n us vs m (sdN kb m) (sdN ka n))) (bitsK ra) (bitsK rb) (bitsK (Op.negFloat .f64 rb))).2.1 = P) (hQ : (shF (coF (fiO ka (fun i => hasV xs ys n (us i) (vs i)) m) (fiO kb (fun i => hasV us vs m (xs i) (ys i)) n) us vs xs ys (ouF xs ys n us vs m (sdN kb m) (sdN ka n))) (bitsK ra) (bitsK rb) (bitsK (Op.negFloat .f64 rb))).2.2 = Q) : Calls Try.prog 6 #[.agg #[.int .u8 ka, .float .f64 ra, Va], .agg #[.int .u8 kb, .float .f64 rb, Vb]] w fun e w' => ∃ pa pb qa qb, isP pa pb P ∧ isP qa qb Q ∧ e = .returned (.tuple #[.agg #[.float .f64 f, .float .f64 pa, .float .f64 pb, .float .f64 qa, .float .f64 qb], .int .i64 0]) ∧ Bel w w' := by
  have he := shb_ok h1 h2
  refine (shapes_ok Va Vb w hA hB oa ob he).mono ?_
  rintro e w' ⟨nf, pa, pb, qa, qb, h, rfl, hb⟩
  rw [pkF_yes (decide_eq_true he)] at h
  obtain ⟨h1, h2, h3⟩ := h
  rw [hP] at h2
  rw [hQ] at h3
  have e1 := isF_word h1 (sh_nn _ _ _ _).1
  rw [hf] at e1
  subst e1
  exact ⟨pa, pb, qa, qb, h2, h3, by rw [he], hb⟩
/-- and of two of which one may not be -/
theorem shapes_x (Va Vb : Value) {ka kb : Int} {ra rb n m : Nat} {xs ys us vs : Nat → Nat} (w : World) (hA : AnyS w Va n xs ys) (hB : AnyS w Vb m us vs) (oa : okK .f64 ra) (ob : okK .f64 rb) (he : (shB ka ra xs ys n kb rb us vs m) ≠ 0) : Calls Try.prog 6 #[.agg #[.int .u8 ka, .float .f64 ra, Va], .agg #[.int .u8 kb, .float .f64 rb, Vb]] w fun e w' => e = .returned (.tuple #[.agg #[.float .f64 0, .float .f64 0, .float .f64 0, .float .f64 0, .float .f64 0], .int .i64 (shB ka ra xs ys n kb rb us vs m)]) ∧ Bel w w' := by
  refine (shapes_err Va Vb w hA hB oa ob he).mono ?_
  rintro e w' ⟨nf, pa, pb, qa, qb, h, rfl, hb⟩
  rw [pkF_no (decide_eq_false he)] at h
  obtain ⟨h1, h2, h3⟩ := h
  have z : nanK .f64 0 = false := by decide +kernel
  have pz : ∀ {x y : Nat}, isP x y (0, 0) → x = 0 ∧ y = 0 := fun {x y} h => by
    have e := h.2.2
    unfold nP at e
    injection e with e1 e2
    exact ⟨isF_word ⟨h.1, e1⟩ z, isF_word ⟨h.2.1, e2⟩ z⟩
  obtain ⟨e2, e3⟩ := pz h2
  obtain ⟨e4, e5⟩ := pz h3
  rw [isF_word h1 z, e2, e3, e4, e5]
  exact ⟨rfl, hb⟩

theorem over_z (Va Vb : Value) {ka kb : Int} {ra rb n m : Nat} {xs ys us vs : Nat → Nat} (w : World) (hA : AnyS w Va n xs ys) (hB : AnyS w Vb m us vs) (oa : okK .f64 ra) (ob : okK .f64 rb) (h1 : shE ka ra xs ys n = 0) (h2 : shE kb rb us vs m = 0) {f : Nat} {P Q : Vp} (hf : (shF (coF (fiO ka (fun i => hasV xs ys n (us i) (vs i)) m) (fiO kb (fun i => hasV us vs m (xs i) (ys i)) n) us vs xs ys (ouF xs ys n us vs m (sdN kb m) (sdN ka n))) (bitsK ra) (bitsK rb) (bitsK (Op.negFloat .f64 rb))).1 = f) (hP : (shF (coF (fiO ka (fun i => hasV xs ys n (us i) (vs i)) m) (fiO kb (fun i => hasV us vs m (xs i) (ys i)) n) us vs xs ys (ouF xs ys n us vs m (sdN kb m) (sdN ka n))) (bitsK ra) (bitsK rb) (bitsK (Op.negFloat .f64 rb))).2.1 = P) (hQ : (shF (coF (fiO ka (fun i => hasV xs ys n (us i) (vs i)) m) (fiO kb (fun i => hasV us vs m (xs i) (ys i)) n) us vs xs ys (ouF xs ys n us vs m (sdN kb m) (sdN ka n))) (bitsK ra) (bitsK rb) (bitsK (Op.negFloat .f64 rb))).2.2 = Q) : Calls Try.prog 8 #[.agg #[.int .u8 ka, .float .f64 ra, Va], .agg #[.int .u8 kb, .float .f64 rb, Vb]] w fun e w' => e = .returned (.tuple #[.bool (eqK .f64 f 0), .int .i64 0]) ∧ Bel w w' := by
  have c5 := cmp_eq .f64
  have z0_0 : (w.alloc (.cells #[.int .u8 ka, .float .f64 ra, Va] 25)).cell? ⟨w.heap.size, 0, none⟩ = some (.int .u8 ka) := by rw [World.cell?_alloc_new]; rfl
  replace z0_0 := up_alloc (o := .cells #[.int .u8 kb, .float .f64 rb, Vb] 25) z0_0
  have z0_1 : (w.alloc (.cells #[.int .u8 ka, .float .f64 ra, Va] 25)).cell? ⟨w.heap.size, 1, none⟩ = some (.float .f64 ra) := by rw [World.cell?_alloc_new]; rfl
  replace z0_1 := up_alloc (o := .cells #[.int .u8 kb, .float .f64 rb, Vb] 25) z0_1
  have z0_2 : (w.alloc (.cells #[.int .u8 ka, .float .f64 ra, Va] 25)).cell? ⟨w.heap.size, 2, none⟩ = some (Va) := by rw [World.cell?_alloc_new]; rfl
  replace z0_2 := up_alloc (o := .cells #[.int .u8 kb, .float .f64 rb, Vb] 25) z0_2
  have z1_0 : ((w.alloc (.cells #[.int .u8 ka, .float .f64 ra, Va] 25)).alloc (.cells #[.int .u8 kb, .float .f64 rb, Vb] 25)).cell? ⟨w.heap.size + 1, 0, none⟩ = some (.int .u8 kb) := by rw [← (show (w.alloc (.cells #[.int .u8 ka, .float .f64 ra, Va] 25)).heap.size = w.heap.size + 1 by simp only [World.size_alloc]), World.cell?_alloc_new]; rfl
  have z1_1 : ((w.alloc (.cells #[.int .u8 ka, .float .f64 ra, Va] 25)).alloc (.cells #[.int .u8 kb, .float .f64 rb, Vb] 25)).cell? ⟨w.heap.size + 1, 1, none⟩ = some (.float .f64 rb) := by rw [← (show (w.alloc (.cells #[.int .u8 ka, .float .f64 ra, Va] 25)).heap.size = w.heap.size + 1 by simp only [World.size_alloc]), World.cell?_alloc_new]; rfl
  have z1_2 : ((w.alloc (.cells #[.int .u8 ka, .float .f64 ra, Va] 25)).alloc (.cells #[.int .u8 kb, .float .f64 rb, Vb] 25)).cell? ⟨w.heap.size + 1, 2, none⟩ = some (Vb) := by rw [← (show (w.alloc (.cells #[.int .u8 ka, .float .f64 ra, Va] 25)).heap.size = w.heap.size + 1 by simp only [World.size_alloc]), World.cell?_alloc_new]; rfl
  have B0 : Bel w ((w.alloc (.cells #[.int .u8 ka, .float .f64 ra, Va] 25)).alloc (.cells #[.int .u8 kb, .float .f64 rb, Vb] 25)) := bl_alloc (bl_alloc (bl_refl w) _ _) _ _
  go_enter Try.func8, Try.ntmps8
  go_wp2_with (first | (go_at_call 6; (with_reducible refine (shapes_z Va Vb _ (hA.bel B0) (hB.bel B0) oa ob h1 h2 hf hP hQ).mono ?_); rintro e w1 ⟨pa, pb, qa, qb, -, -, rfl, hb⟩; have BF := hb; clear hb))
  refine bodyPost_ret (v := .tuple #[.bool (eqK .f64 f 0), .int .i64 0]) (by simp [results, Try.results8, go_sem] <;> (first | exact ⟨⟨rfl, rfl⟩, rfl⟩ | exact ⟨rfl, rfl, rfl, rfl⟩ | exact ⟨rfl, rfl, rfl⟩ | exact ⟨rfl, rfl⟩ | rfl)) rfl ⟨rfl, bl_alloc (bl_trans B0 BF) _ _⟩

def clB (r : Nat) (xs ys : Nat → Nat) (n : Nat) : Bool := allB n (fun i => withinK .f64 (xs i) 4697254411347427328 && withinK .f64 (ys i) 4697254411347427328) && leK .f64 r 4697254411347427328
set_option maxRecDepth 100000 in
set_option maxHeartbeats 2000000 in
theorem calm_z {k : Int} {r b off cap n : Nat} {xs ys : Nat → Nat} (w : World) (hV : AnyS w (.slice (some ⟨b, off, none⟩) n cap) n xs ys) (hs : Sl w b off n xs ys) (hp : 0 < n) (hn : n ≤ 64) (hcap : n ≤ cap) (hz0 : shE k r xs ys n = 0) : Calls Try.prog 9 #[.agg #[.int .u8 k, .float .f64 r, .slice (some ⟨b, off, none⟩) n cap]] w fun e w' => e = .returned (.bool (clB r xs ys n)) ∧ Bel w w' := by
  have c3 := cmp_le .f64
  have hz := hide hz0
  clear hz0
  have z0_0 : (w.alloc (.cells #[.int .u8 k, .float .f64 r, .slice (some ⟨b, off, none⟩) n cap] 25)).cell? ⟨w.heap.size, 0, none⟩ = some (.int .u8 k) := by rw [World.cell?_alloc_new]; rfl
  have z0_1 : (w.alloc (.cells #[.int .u8 k, .float .f64 r, .slice (some ⟨b, off, none⟩) n cap] 25)).cell? ⟨w.heap.size, 1, none⟩ = some (.float .f64 r) := by rw [World.cell?_alloc_new]; rfl
  have z0_2 : (w.alloc (.cells #[.int .u8 k, .float .f64 r, .slice (some ⟨b, off, none⟩) n cap] 25)).cell? ⟨w.heap.size, 2, none⟩ = some (.slice (some ⟨b, off, none⟩) n cap) := by rw [World.cell?_alloc_new]; rfl
  have B0 : Bel w (w.alloc (.cells #[.int .u8 k, .float .f64 r, .slice (some ⟨b, off, none⟩) n cap] 25)) := bl_alloc (bl_refl w) _ _
  have hb0 := hs.lt hp
  go_enter Try.func9, Try.ntmps9
  go_wp2
  go_loopw [3] (fun i' wr => ∃ j : Nat, j ≤ n ∧ i' = .int .i64 j ∧ Bel (w.alloc (.cells #[.int .u8 k, .float .f64 r, .slice (some ⟨b, off, none⟩) n cap] 25)) wr ∧ Hid (∀ i, i < j → (withinK .f64 (xs i) 4697254411347427328 && withinK .f64 (ys i) 4697254411347427328) = true)) (fun i' _ => n - (intOf i').toNat)
  case atStart => exact ⟨0, by omega, rfl, bl_refl _, hide (fun i hi => by omega)⟩
  case round =>
    obtain ⟨j, hj, rfl, hB, hall⟩ := hrel
    have s0 := keep hB z0_0
    have s1 := keep hB z0_1
    have s2 := keep hB z0_2
    have hS := hV.bel (bl_trans B0 hB)
    by_cases hlt : j < n
    · have k1 : (j : Int) < (n : Int) := by omega
      obtain ⟨c0, c1⟩ := (hs.bel (bl_trans B0 hB)) j hlt
      cases hq : (withinK .f64 (xs j) 4697254411347427328 && withinK .f64 (ys j) 4697254411347427328)
      · have e0 : clB r xs ys n = false := by unfold clB; rw [allB_no (f := fun i => withinK .f64 (xs i) 4697254411347427328 && withinK .f64 (ys i) 4697254411347427328) hlt hq]; rfl
        go_wp2_with (first | (go_at_call 30; refine (vWithin_any _ _ _ _).mono ?_; rintro e w1 ⟨rfl, hb⟩; rw [hq]))
        go_ret
        exact ⟨by rw [e0]; rfl, bl_trans B0 (bl_trans hB hb)⟩
      · go_wp2_with (first | (go_at_call 30; refine (vWithin_any _ _ _ _).mono ?_; rintro e w1 ⟨rfl, hb⟩; rw [hq]))
        exact ⟨⟨j + 1, by omega, by go_num, bl_trans hB hb, hide (fun i hi => by
          by_cases e : i = j
          · subst e; exact hq
          · exact unhide hall i (by omega))⟩, by simp [intOf]; omega⟩
    · have hkn : j = n := by omega
      subst hkn
      have e0 : clB r xs ys j = leK .f64 r 4697254411347427328 := by unfold clB; rw [allB_iff.2 (unhide hall)]; rfl
      clear hall
      cases hr : leK .f64 r 4697254411347427328
      all_goals
        go_wp2_with (first | (go_at_call 7; (with_reducible refine (check_any _ j xs ys k r _ hS).mono ?_); rintro e w2 ⟨rfl, hb⟩; rw [unhide hz]; replace s0 := keep hb s0; replace s1 := keep hb s1; replace s2 := keep hb s2))
        go_ret
        exact ⟨by rw [e0, hr]; rfl, bl_trans B0 (bl_trans hB hb)⟩

/-- what Check says, as numbers -/
theorem sh_num {k : Int} {r n : Nat} {xs ys : Nat → Nat} (o : Oks xs ys n) (hr : okK .f64 r) (h : shE k r xs ys n = 0) : Kd k n ∧ n ≤ 64 ∧ 0 < n ∧ Gd xs ys n ∧ Bd 40 r ∧ 0 ≤ rv r ∧ (k = 1 ∨ ∀ j, j < sdN k n → LongS xs ys n j) := by
  obtain ⟨h1, h2, h3⟩ := kd_of o hr h
  rcases sh_some o hr h with ⟨e1, e2, g, b, rd⟩ | ⟨e1, e2, g, b, rd, cp⟩ | ⟨e1, e2, e3, z, ch, g⟩
  · exact ⟨h1, h2, by omega, h3, b, rd_nn rd, .inl e1⟩
  · subst e1 e2
    exact ⟨h1, h2, by omega, h3, b, rd_nn rd, .inr fun j hj => by
      have : j = 0 := by unfold sdN at hj; simp at hj; exact hj
      subst this
      exact long_cap g cp⟩
  · obtain ⟨z1, z2⟩ := z_rv z
    subst e1
    refine ⟨h1, h2, by omega, h3, ⟨hr, z2, ?_⟩, by rw [z1]; exact Rat.le_refl, .inr fun j hj => ?_⟩
    · rw [← ab_rv, z1]; decide +kernel
    · have hj : j < n := by unfold sdN at hj; simp at hj; exact hj
      exact long_out g hj ((chk_ok o ch).2.2.2 j hj)

end Go.Proofs.Ythbdckjfekimdab
