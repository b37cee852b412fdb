/-
  What each function of package poly answers, and what the reference of its chapter answers: one contract a function, for every float: the answer stands in the relation of its formula to what was given; of the memory that was there nothing has turned.
-/
import Derived.Test.YtfjlonnmhioleaaVec
import Derived.Test.YtfjlonnmhioleaaVec
import Derived.Test.YtfjlonnmhioleaaBel
import Derived.Below
import Derived.Deep.MidRow
import Derived.WalkKit
import Derived.WalkLawsBesides
import Derived.WalkSpells
import Derived.ProofKit
import Derived.OpenShut
import Derived.Deep.RegionHeld3
namespace Go.Proofs.Ytfjlonnmhioleaa
open Go.ChangeShapes Go.WideShapes Go.ChangeAt Go.RowKit
set_option linter.unusedVariables false
set_option linter.unusedSimpArgs false


/-- a real of the document -/
def wk (x : Nat) : Bool := withinK .f64 x 4787326403894837248
def jR (ax ay bx b_y ux uy rs rt sp mt lo hi p0 p1 p2 : Nat) : Bool := [ax, ay, bx, b_y, ux, uy, rs, rt, sp, mt, lo, hi, p0, p1, p2].all wk
/-- the square of an axis is 1 up to 2^-40 -/
noncomputable def rlB (x y : Nat) : Bool := @decide (∃ t, DotR x y x y t ∧ (leK .f64 4607182418800009216 t && leK .f64 t 4607182418800021504) = true) (Classical.propDecidable _)
theorem sm_cases {t t' : Nat} (h : smK .f64 t t' = true) : t = t' ∨ (nanK .f64 t = true ∧ nanK .f64 t' = true) := by
  unfold smK at h
  simp at h
  rcases h with h | h
  · exact .inr h
  · exact .inl h.2
theorem le_smR {t t' c : Nat} (h : smK .f64 t t' = true) : leK .f64 c t = leK .f64 c t' := by
  rcases sm_cases h with rfl | ⟨h1, h2⟩
  · rfl
  · unfold leK; rw [h1, h2]; simp
theorem le_smL {t t' c : Nat} (h : smK .f64 t t' = true) : leK .f64 t c = leK .f64 t' c := by
  rcases sm_cases h with rfl | ⟨h1, h2⟩
  · rfl
  · unfold leK; rw [h1, h2]; simp
theorem rl_is {x y t : Nat} (h : DotR x y x y t) : rlB x y = (leK .f64 4607182418800009216 t && leK .f64 t 4607182418800021504) := by
  unfold rlB
  cases hv : (leK .f64 4607182418800009216 t && leK .f64 t 4607182418800021504)
  · refine @decide_eq_false _ (Classical.propDecidable _) ?_
    rintro ⟨t', g, e⟩
    rw [← le_smR (h.sm g), ← le_smL (h.sm g), hv] at e
    cases e
  · exact @decide_eq_true _ (Classical.propDecidable _) ⟨t, h, hv⟩
noncomputable def sndB (kq : Int) (ux uy rs rt : Nat) (li : Bool) (lo : Nat) : Bool :=
  if kq = 2 then !(ltK .f64 rs 0 || (li && ltK .f64 lo 0)) else if kq = 3 then rlB ux uy else if kq = 5 then leK .f64 4472074429978902528 (rgK .f64 rt) else true
noncomputable def jE (kq sa sb : Int) (ax ay bx b_y ux uy rs rt sp mt lo hi p0 p1 p2 : Nat) (li : Bool) : Int :=
  if (kq < 1 ∨ 5 < kq) ∨ sa = sb then 190 else if (jR ax ay bx b_y ux uy rs rt sp mt lo hi p0 p1 p2) = false then 5 else if (ltK .f64 mt 0 || (li && ltK .f64 hi lo)) = true ∨ (sndB kq ux uy rs rt li lo) = false then 190 else 0
theorem neg_max : Op.negFloat .f64 4787326403894837248 = 14010698440749613056 := by decide +kernel
theorem nan_max : nanK .f64 4787326403894837248 = false ∧ nanK .f64 14010698440749613056 = false := by decide +kernel
theorem wo_max : woK .f64 4787326403894837248 = 4787326403894837248 ∧ woK .f64 14010698440749613056 = -4787326403894837248 := by decide +kernel
theorem cl_wk (p : Nat) : eqK .f64 p (clK .f64 p 14010698440749613056 4787326403894837248) = wk p := by
  obtain ⟨n1, n2⟩ := nan_max
  obtain ⟨w1, w2⟩ := wo_max
  unfold wk withinK clK
  rw [neg_max]
  unfold eqK leK ltK
  rw [n1, n2, w1, w2]
  cases hn : nanK .f64 p
  · simp only [Bool.not_false, Bool.true_and]
    by_cases h1 : -4787326403894837248 < woK .f64 p
    · rw [if_neg (by simp; omega)]
      by_cases h2 : 4787326403894837248 < woK .f64 p
      · rw [if_pos (by simp; omega), n1, w1]
        rw [Bool.eq_iff_iff]
        simp
        omega
      · rw [if_neg (by simp; omega), hn]
        rw [Bool.eq_iff_iff]
        simp
        omega
    · rw [if_pos (by simp; omega), n2, w2]
      rw [Bool.eq_iff_iff]
      simp
      omega
  · simp
set_option maxHeartbeats 2000000 in
theorem bounded_j (p0 p1 p2 : Nat) (w : World) : Calls Try.prog 29 #[.agg #[.float .f64 p0, .float .f64 p1, .float .f64 p2]] w fun e w' => e = .returned (.agg #[.float .f64 (clK .f64 p0 14010698440749613056 4787326403894837248), .float .f64 (clK .f64 p1 14010698440749613056 4787326403894837248), .float .f64 (clK .f64 p2 14010698440749613056 4787326403894837248)]) ∧ Bel w w' := by
  have qi0 : ∀ X : World, (Instr.index 50 (.agg #[.float .f64 p0, .float .f64 p1, .float .f64 p2]) (.int .i64 0)).run Try.prog X = .ok (.float .f64 p0) X := fun X => by kernel_rfl
  have qi1 : ∀ X : World, (Instr.index 50 (.agg #[.float .f64 p0, .float .f64 p1, .float .f64 p2]) (.int .i64 1)).run Try.prog X = .ok (.float .f64 p1) X := fun X => by kernel_rfl
  have qi2 : ∀ X : World, (Instr.index 50 (.agg #[.float .f64 p0, .float .f64 p1, .float .f64 p2]) (.int .i64 2)).run Try.prog X = .ok (.float .f64 p2) X := fun X => by kernel_rfl
  go_enter Try.func29, Try.ntmps29
  go_wp2
  refine wp_loop_rounds 4 ?_
  rw [rounds_succ]
  go_wp2_with (first | (go_at_call 31; refine (clamp_6 _ _ _ _).mono ?_; rintro e w' ⟨rfl, rfl⟩))
  rw [rounds_succ]
  go_wp2_with (first | (go_at_call 31; refine (clamp_6 _ _ _ _).mono ?_; rintro e w' ⟨rfl, rfl⟩))
  rw [rounds_succ]
  go_wp2_with (first | (go_at_call 31; refine (clamp_6 _ _ _ _).mono ?_; rintro e w' ⟨rfl, rfl⟩))
  rw [rounds_succ]
  go_wp2
  refine bodyPost_ret (v := .agg #[.float .f64 (clK .f64 p0 14010698440749613056 4787326403894837248), .float .f64 (clK .f64 p1 14010698440749613056 4787326403894837248), .float .f64 (clK .f64 p2 14010698440749613056 4787326403894837248)]) (by simp [results, Try.results29, go_sem] <;> exact ⟨rfl, rfl⟩) rfl ⟨rfl, ?_⟩
  repeat (first | exact bl_refl _ | assumption | apply bl_drewN | apply bl_drew | apply bl_alloc | refine bl_set ?_ (by simp <;> omega) | refine bl_trans ?_ (by assumption))
theorem rng_new (w : World) (cs : List Value) (t : TypeId) : (w.alloc (.cells cs.toArray t)).rangeAt w.heap.size 0 cs := fun j v h => by
  rw [Nat.zero_add, World.cell?_alloc_new]; simpa using h
theorem rng_bel {W w' : World} {b o : Nat} {cs : List Value} (h : W.rangeAt b o cs) (g : Bel W w') : w'.rangeAt b o cs := fun j v hv => keep g (h j v hv)
theorem wp_build {P : Program} {op : Oper} {a : Act} {w : World} {K : Act → World → Prop} {Q : Exit → Act → World → Prop} (ty : TypeId) (parts : Array (Nat × Operand)) (ho : op.op = .build ty parts) (v : Value) (h : (Instr.build ty (parts.map fun (i, x) => (i, a.eval x))).run P w = .ok v w) (hk : K (a.put op.dst v) w) : op.wp P a w K Q := by
  unfold Oper.wp execOp
  simp only [ho, Sem.run_bind, h, Result.andThen_ok, Sem.run_pure]
  exact hk
theorem wp_iface {P : Program} {op : Oper} {a : Act} {w : World} {K : Act → World → Prop} {Q : Exit → Act → World → Prop} (ty : TypeId) (x : Operand) (ho : op.op = .makeInterface ty x) (v : Value) (h : (Instr.makeInterface ty (a.eval x)).run P w = .ok v w) (hk : K (a.put op.dst v) w) : op.wp P a w K Q := by
  unfold Oper.wp execOp
  simp only [ho, Sem.run_bind, h, Result.andThen_ok, Sem.run_pure]
  exact hk
theorem part_fl (cs : Array Value) (i x : Nat) (w : World) (h : cs[i]? = some (.float .f64 x)) : (part 25 cs i).run Try.prog w = .ok (.float .f64 x) w := by
  unfold part
  simp [go_sem, h]
theorem info_fl : (Try.prog.info? 25).map (fun i => (i.zero, i.size, i.bytes)) = some (some (.float .f64 0), 1, 8) := by kernel_rfl
theorem info_parts {P : Program} {t : TypeId} {z : Option Value} {n b : Nat} (h : (P.info? t).map (fun i => (i.zero, i.size, i.bytes)) = some (z, n, b)) : ∃ i, P.info? t = some i ∧ i.zero = z ∧ i.size = n ∧ i.bytes = b := by
  cases hi : P.info? t with
  | none => rw [hi] at h; simp at h
  | some i => rw [hi] at h; simp at h; exact ⟨i, rfl, h.1, h.2.1, h.2.2⟩
theorem run_equalIn_arr3 (d : Nat) (a b c x y z : Nat) (w : World) : (Op.equalIn (d + 2) 50 (.agg #[.float .f64 a, .float .f64 b, .float .f64 c]) (.agg #[.float .f64 x, .float .f64 y, .float .f64 z])).run Try.prog w = .ok (eqK .f64 a x && eqK .f64 b y && eqK .f64 c z) w := by
  obtain ⟨i0, hi, hz0, hz1, hz2⟩ := info_parts info_fl
  have q := fun (x y : Nat) => run_equalIn_fl Try.prog w d 25 .f64 x y Try.underlying25
  unfold Op.equalIn
  have p1 := part_fl #[.float .f64 a, .float .f64 b, .float .f64 c] 0 a w rfl
  have p2 := part_fl #[.float .f64 a, .float .f64 b, .float .f64 c] 1 b w rfl
  have p3 := part_fl #[.float .f64 a, .float .f64 b, .float .f64 c] 2 c w rfl
  have p4 := part_fl #[.float .f64 x, .float .f64 y, .float .f64 z] 0 x w rfl
  have p5 := part_fl #[.float .f64 x, .float .f64 y, .float .f64 z] 1 y w rfl
  have p6 := part_fl #[.float .f64 x, .float .f64 y, .float .f64 z] 2 z w rfl
  cases h1 : eqK .f64 a x
  · simp [run_underlying Try.underlying50, sizeOf, typeInfo, hi, hz1, List.range', p1, p2, p3, p4, p5, p6, q, h1]
  · cases h2 : eqK .f64 b y
    · simp [run_underlying Try.underlying50, sizeOf, typeInfo, hi, hz1, List.range', p1, p2, p3, p4, p5, p6, q, h1, h2]
    · cases h3 : eqK .f64 c z
      all_goals simp [run_underlying Try.underlying50, sizeOf, typeInfo, hi, hz1, List.range', p1, p2, p3, p4, p5, p6, q, h1, h2, h3]
theorem eqg_imp : Try.prog.eqGuardType Try.prog.depth 50 = false := by kernel_rfl
theorem mayBe_j (p0 p1 p2 : Nat) (w : World) : Calls Try.prog 25 #[.agg #[.float .f64 p0, .float .f64 p1, .float .f64 p2]] w fun e w' => e = .returned (.bool (wk p0 && wk p1 && wk p2)) ∧ Bel w w' := by
  have qe := fun (a b c x y z : Nat) (w : World) => run_equalIn_arr3 9998 a b c x y z w
  have qG := eqg_imp
  have z0_0 : (w.alloc (.cells #[.float .f64 p0, .float .f64 p1, .float .f64 p2] 50)).cell? ⟨w.heap.size, 0, none⟩ = some (.float .f64 p0) := by rw [World.cell?_alloc_new]; rfl
  have z0_1 : (w.alloc (.cells #[.float .f64 p0, .float .f64 p1, .float .f64 p2] 50)).cell? ⟨w.heap.size, 1, none⟩ = some (.float .f64 p1) := by rw [World.cell?_alloc_new]; rfl
  have z0_2 : (w.alloc (.cells #[.float .f64 p0, .float .f64 p1, .float .f64 p2] 50)).cell? ⟨w.heap.size, 2, none⟩ = some (.float .f64 p2) := by rw [World.cell?_alloc_new]; rfl
  have B0 : Bel w (w.alloc (.cells #[.float .f64 p0, .float .f64 p1, .float .f64 p2] 50)) := bl_alloc (bl_refl w) _ _
  have BN := belBy_some (w.alloc (.cells #[.float .f64 p0, .float .f64 p1, .float .f64 p2] 50))
  replace z0_0 := belBy_cell (W := (w.alloc (.cells #[.float .f64 p0, .float .f64 p1, .float .f64 p2] 50))) z0_0
  replace z0_1 := belBy_cell (W := (w.alloc (.cells #[.float .f64 p0, .float .f64 p1, .float .f64 p2] 50))) z0_1
  replace z0_2 := belBy_cell (W := (w.alloc (.cells #[.float .f64 p0, .float .f64 p1, .float .f64 p2] 50))) z0_2
  go_enter Try.func25, Try.ntmps25
  go_wp2
  refine wp_region_quiet_bel (by kernel_rfl) (by kernel_rfl) ?_
  repeat (go_big_quiet_step (first | (go_at_call 29; exact calls_bel (bounded_j _ _ _ _))))
  refine wpQuiet_nil ?_
  rintro _ ⟨pW, rfl⟩
  have B := bl_trans B0 pW.h
  go_wp2
  go_ret
  rw [cl_wk, cl_wk, cl_wk]
  refine ⟨rfl, ?_⟩
  repeat (first | exact bl_refl _ | assumption | apply bl_drewN | apply bl_drew | apply bl_alloc | refine bl_set ?_ (by simp <;> omega) | refine bl_trans ?_ (by assumption))

theorem jR_v0 {ax ay bx b_y ux uy rs rt sp mt lo hi p0 p1 p2 : Nat} (h : (withinK .f64 ax 4787326403894837248 && withinK .f64 ay 4787326403894837248) = false) : (jR ax ay bx b_y ux uy rs rt sp mt lo hi p0 p1 p2) = false := by
  simp only [jR, wk, List.all_cons]
  cases h1 : withinK .f64 ax 4787326403894837248
  · simp [h1]
  · rw [h1] at h; simp at h; simp [h]
theorem jR_v1 {ax ay bx b_y ux uy rs rt sp mt lo hi p0 p1 p2 : Nat} (h : (withinK .f64 bx 4787326403894837248 && withinK .f64 b_y 4787326403894837248) = false) : (jR ax ay bx b_y ux uy rs rt sp mt lo hi p0 p1 p2) = false := by
  simp only [jR, wk, List.all_cons]
  cases h1 : withinK .f64 bx 4787326403894837248
  · simp [h1]
  · rw [h1] at h; simp at h; simp [h]
theorem jR_v2 {ax ay bx b_y ux uy rs rt sp mt lo hi p0 p1 p2 : Nat} (h : (withinK .f64 ux 4787326403894837248 && withinK .f64 uy 4787326403894837248) = false) : (jR ax ay bx b_y ux uy rs rt sp mt lo hi p0 p1 p2) = false := by
  simp only [jR, wk, List.all_cons]
  cases h1 : withinK .f64 ux 4787326403894837248
  · simp [h1]
  · rw [h1] at h; simp at h; simp [h]
theorem jR_f0 {ax ay bx b_y ux uy rs rt sp mt lo hi p0 p1 p2 : Nat} (h : withinK .f64 rs 4787326403894837248 = false) : (jR ax ay bx b_y ux uy rs rt sp mt lo hi p0 p1 p2) = false := by
  simp only [jR, wk, List.all_cons, h]; simp
theorem jR_f1 {ax ay bx b_y ux uy rs rt sp mt lo hi p0 p1 p2 : Nat} (h : withinK .f64 rt 4787326403894837248 = false) : (jR ax ay bx b_y ux uy rs rt sp mt lo hi p0 p1 p2) = false := by
  simp only [jR, wk, List.all_cons, h]; simp
theorem jR_f2 {ax ay bx b_y ux uy rs rt sp mt lo hi p0 p1 p2 : Nat} (h : withinK .f64 sp 4787326403894837248 = false) : (jR ax ay bx b_y ux uy rs rt sp mt lo hi p0 p1 p2) = false := by
  simp only [jR, wk, List.all_cons, h]; simp
theorem jR_f3 {ax ay bx b_y ux uy rs rt sp mt lo hi p0 p1 p2 : Nat} (h : withinK .f64 mt 4787326403894837248 = false) : (jR ax ay bx b_y ux uy rs rt sp mt lo hi p0 p1 p2) = false := by
  simp only [jR, wk, List.all_cons, h]; simp
theorem jR_f4 {ax ay bx b_y ux uy rs rt sp mt lo hi p0 p1 p2 : Nat} (h : withinK .f64 lo 4787326403894837248 = false) : (jR ax ay bx b_y ux uy rs rt sp mt lo hi p0 p1 p2) = false := by
  simp only [jR, wk, List.all_cons, h]; simp
theorem jR_f5 {ax ay bx b_y ux uy rs rt sp mt lo hi p0 p1 p2 : Nat} (h : withinK .f64 hi 4787326403894837248 = false) : (jR ax ay bx b_y ux uy rs rt sp mt lo hi p0 p1 p2) = false := by
  simp only [jR, wk, List.all_cons, h]; simp
theorem jR_p {ax ay bx b_y ux uy rs rt sp mt lo hi p0 p1 p2 : Nat} (g0 : (withinK .f64 ax 4787326403894837248 && withinK .f64 ay 4787326403894837248) = true) (g1 : (withinK .f64 bx 4787326403894837248 && withinK .f64 b_y 4787326403894837248) = true) (g2 : (withinK .f64 ux 4787326403894837248 && withinK .f64 uy 4787326403894837248) = true) (f0 : withinK .f64 rs 4787326403894837248 = true) (f1 : withinK .f64 rt 4787326403894837248 = true) (f2 : withinK .f64 sp 4787326403894837248 = true) (f3 : withinK .f64 mt 4787326403894837248 = true) (f4 : withinK .f64 lo 4787326403894837248 = true) (f5 : withinK .f64 hi 4787326403894837248 = true) : (jR ax ay bx b_y ux uy rs rt sp mt lo hi p0 p1 p2) = (wk p0 && wk p1 && wk p2) := by
  simp only [Bool.and_eq_true] at g0 g1 g2
  simp only [jR, wk, List.all_cons, List.all_nil, g0, g1, g2, f0, f1, f2, f3, f4, f5]
  simp [Bool.and_assoc]
set_option maxRecDepth 100000 in
set_option maxHeartbeats 4000000 in
theorem allReal_j (kq sa ua sb ub : Int) (ax ay bx b_y ux uy rs rt : Nat) (mo : Bool) (sp mt : Nat) (li : Bool) (lo hi p0 p1 p2 : Nat) (w : World) : Calls Try.prog 19 #[.agg #[.int .u8 kq, .int .u32 sa, .int .u32 ua, .int .u32 sb, .int .u32 ub, .float .f64 ax, .float .f64 ay, .float .f64 bx, .float .f64 b_y, .float .f64 ux, .float .f64 uy, .float .f64 rs, .float .f64 rt, .bool mo, .float .f64 sp, .float .f64 mt, .bool li, .float .f64 lo, .float .f64 hi, .float .f64 p0, .float .f64 p1, .float .f64 p2]] w fun e w' => e = .returned (.bool (jR ax ay bx b_y ux uy rs rt sp mt lo hi p0 p1 p2)) ∧ Bel w w' := by
  have qi0 : ∀ X : World, (Instr.index 67 (.agg #[.float .f64 ax, .float .f64 ay, .float .f64 bx, .float .f64 b_y, .float .f64 ux, .float .f64 uy]) (.int .i64 0)).run Try.prog X = .ok (.agg #[.float .f64 ax, .float .f64 ay]) X := fun X => by kernel_rfl
  have qi1 : ∀ X : World, (Instr.index 67 (.agg #[.float .f64 ax, .float .f64 ay, .float .f64 bx, .float .f64 b_y, .float .f64 ux, .float .f64 uy]) (.int .i64 1)).run Try.prog X = .ok (.agg #[.float .f64 bx, .float .f64 b_y]) X := fun X => by kernel_rfl
  have qi2 : ∀ X : World, (Instr.index 67 (.agg #[.float .f64 ax, .float .f64 ay, .float .f64 bx, .float .f64 b_y, .float .f64 ux, .float .f64 uy]) (.int .i64 2)).run Try.prog X = .ok (.agg #[.float .f64 ux, .float .f64 uy]) X := fun X => by kernel_rfl
  have qj0 : ∀ X : World, (Instr.index 69 (.agg #[.float .f64 rs, .float .f64 rt, .float .f64 sp, .float .f64 mt, .float .f64 lo, .float .f64 hi]) (.int .i64 0)).run Try.prog X = .ok (.float .f64 rs) X := fun X => by kernel_rfl
  have qj1 : ∀ X : World, (Instr.index 69 (.agg #[.float .f64 rs, .float .f64 rt, .float .f64 sp, .float .f64 mt, .float .f64 lo, .float .f64 hi]) (.int .i64 1)).run Try.prog X = .ok (.float .f64 rt) X := fun X => by kernel_rfl
  have qj2 : ∀ X : World, (Instr.index 69 (.agg #[.float .f64 rs, .float .f64 rt, .float .f64 sp, .float .f64 mt, .float .f64 lo, .float .f64 hi]) (.int .i64 2)).run Try.prog X = .ok (.float .f64 sp) X := fun X => by kernel_rfl
  have qj3 : ∀ X : World, (Instr.index 69 (.agg #[.float .f64 rs, .float .f64 rt, .float .f64 sp, .float .f64 mt, .float .f64 lo, .float .f64 hi]) (.int .i64 3)).run Try.prog X = .ok (.float .f64 mt) X := fun X => by kernel_rfl
  have qj4 : ∀ X : World, (Instr.index 69 (.agg #[.float .f64 rs, .float .f64 rt, .float .f64 sp, .float .f64 mt, .float .f64 lo, .float .f64 hi]) (.int .i64 4)).run Try.prog X = .ok (.float .f64 lo) X := fun X => by kernel_rfl
  have qj5 : ∀ X : World, (Instr.index 69 (.agg #[.float .f64 rs, .float .f64 rt, .float .f64 sp, .float .f64 mt, .float .f64 lo, .float .f64 hi]) (.int .i64 5)).run Try.prog X = .ok (.float .f64 hi) X := fun X => by kernel_rfl
  have z0_0 : (w.alloc (.cells #[.int .u8 kq, .int .u32 sa, .int .u32 ua, .int .u32 sb, .int .u32 ub, .float .f64 ax, .float .f64 ay, .float .f64 bx, .float .f64 b_y, .float .f64 ux, .float .f64 uy, .float .f64 rs, .float .f64 rt, .bool mo, .float .f64 sp, .float .f64 mt, .bool li, .float .f64 lo, .float .f64 hi, .float .f64 p0, .float .f64 p1, .float .f64 p2] 30)).cell? ⟨w.heap.size, 0, none⟩ = some (.int .u8 kq) := by rw [World.cell?_alloc_new]; rfl
  have z0_1 : (w.alloc (.cells #[.int .u8 kq, .int .u32 sa, .int .u32 ua, .int .u32 sb, .int .u32 ub, .float .f64 ax, .float .f64 ay, .float .f64 bx, .float .f64 b_y, .float .f64 ux, .float .f64 uy, .float .f64 rs, .float .f64 rt, .bool mo, .float .f64 sp, .float .f64 mt, .bool li, .float .f64 lo, .float .f64 hi, .float .f64 p0, .float .f64 p1, .float .f64 p2] 30)).cell? ⟨w.heap.size, 1, none⟩ = some (.int .u32 sa) := by rw [World.cell?_alloc_new]; rfl
  have z0_2 : (w.alloc (.cells #[.int .u8 kq, .int .u32 sa, .int .u32 ua, .int .u32 sb, .int .u32 ub, .float .f64 ax, .float .f64 ay, .float .f64 bx, .float .f64 b_y, .float .f64 ux, .float .f64 uy, .float .f64 rs, .float .f64 rt, .bool mo, .float .f64 sp, .float .f64 mt, .bool li, .float .f64 lo, .float .f64 hi, .float .f64 p0, .float .f64 p1, .float .f64 p2] 30)).cell? ⟨w.heap.size, 2, none⟩ = some (.int .u32 ua) := by rw [World.cell?_alloc_new]; rfl
  have z0_3 : (w.alloc (.cells #[.int .u8 kq, .int .u32 sa, .int .u32 ua, .int .u32 sb, .int .u32 ub, .float .f64 ax, .float .f64 ay, .float .f64 bx, .float .f64 b_y, .float .f64 ux, .float .f64 uy, .float .f64 rs, .float .f64 rt, .bool mo, .float .f64 sp, .float .f64 mt, .bool li, .float .f64 lo, .float .f64 hi, .float .f64 p0, .float .f64 p1, .float .f64 p2] 30)).cell? ⟨w.heap.size, 3, none⟩ = some (.int .u32 sb) := by rw [World.cell?_alloc_new]; rfl
  have z0_4 : (w.alloc (.cells #[.int .u8 kq, .int .u32 sa, .int .u32 ua, .int .u32 sb, .int .u32 ub, .float .f64 ax, .float .f64 ay, .float .f64 bx, .float .f64 b_y, .float .f64 ux, .float .f64 uy, .float .f64 rs, .float .f64 rt, .bool mo, .float .f64 sp, .float .f64 mt, .bool li, .float .f64 lo, .float .f64 hi, .float .f64 p0, .float .f64 p1, .float .f64 p2] 30)).cell? ⟨w.heap.size, 4, none⟩ = some (.int .u32 ub) := by rw [World.cell?_alloc_new]; rfl
  have z0_5 : (w.alloc (.cells #[.int .u8 kq, .int .u32 sa, .int .u32 ua, .int .u32 sb, .int .u32 ub, .float .f64 ax, .float .f64 ay, .float .f64 bx, .float .f64 b_y, .float .f64 ux, .float .f64 uy, .float .f64 rs, .float .f64 rt, .bool mo, .float .f64 sp, .float .f64 mt, .bool li, .float .f64 lo, .float .f64 hi, .float .f64 p0, .float .f64 p1, .float .f64 p2] 30)).cell? ⟨w.heap.size, 5, none⟩ = some (.float .f64 ax) := by rw [World.cell?_alloc_new]; rfl
  have z0_6 : (w.alloc (.cells #[.int .u8 kq, .int .u32 sa, .int .u32 ua, .int .u32 sb, .int .u32 ub, .float .f64 ax, .float .f64 ay, .float .f64 bx, .float .f64 b_y, .float .f64 ux, .float .f64 uy, .float .f64 rs, .float .f64 rt, .bool mo, .float .f64 sp, .float .f64 mt, .bool li, .float .f64 lo, .float .f64 hi, .float .f64 p0, .float .f64 p1, .float .f64 p2] 30)).cell? ⟨w.heap.size, 6, none⟩ = some (.float .f64 ay) := by rw [World.cell?_alloc_new]; rfl
  have z0_7 : (w.alloc (.cells #[.int .u8 kq, .int .u32 sa, .int .u32 ua, .int .u32 sb, .int .u32 ub, .float .f64 ax, .float .f64 ay, .float .f64 bx, .float .f64 b_y, .float .f64 ux, .float .f64 uy, .float .f64 rs, .float .f64 rt, .bool mo, .float .f64 sp, .float .f64 mt, .bool li, .float .f64 lo, .float .f64 hi, .float .f64 p0, .float .f64 p1, .float .f64 p2] 30)).cell? ⟨w.heap.size, 7, none⟩ = some (.float .f64 bx) := by rw [World.cell?_alloc_new]; rfl
  have z0_8 : (w.alloc (.cells #[.int .u8 kq, .int .u32 sa, .int .u32 ua, .int .u32 sb, .int .u32 ub, .float .f64 ax, .float .f64 ay, .float .f64 bx, .float .f64 b_y, .float .f64 ux, .float .f64 uy, .float .f64 rs, .float .f64 rt, .bool mo, .float .f64 sp, .float .f64 mt, .bool li, .float .f64 lo, .float .f64 hi, .float .f64 p0, .float .f64 p1, .float .f64 p2] 30)).cell? ⟨w.heap.size, 8, none⟩ = some (.float .f64 b_y) := by rw [World.cell?_alloc_new]; rfl
  have z0_9 : (w.alloc (.cells #[.int .u8 kq, .int .u32 sa, .int .u32 ua, .int .u32 sb, .int .u32 ub, .float .f64 ax, .float .f64 ay, .float .f64 bx, .float .f64 b_y, .float .f64 ux, .float .f64 uy, .float .f64 rs, .float .f64 rt, .bool mo, .float .f64 sp, .float .f64 mt, .bool li, .float .f64 lo, .float .f64 hi, .float .f64 p0, .float .f64 p1, .float .f64 p2] 30)).cell? ⟨w.heap.size, 9, none⟩ = some (.float .f64 ux) := by rw [World.cell?_alloc_new]; rfl
  have z0_10 : (w.alloc (.cells #[.int .u8 kq, .int .u32 sa, .int .u32 ua, .int .u32 sb, .int .u32 ub, .float .f64 ax, .float .f64 ay, .float .f64 bx, .float .f64 b_y, .float .f64 ux, .float .f64 uy, .float .f64 rs, .float .f64 rt, .bool mo, .float .f64 sp, .float .f64 mt, .bool li, .float .f64 lo, .float .f64 hi, .float .f64 p0, .float .f64 p1, .float .f64 p2] 30)).cell? ⟨w.heap.size, 10, none⟩ = some (.float .f64 uy) := by rw [World.cell?_alloc_new]; rfl
  have z0_11 : (w.alloc (.cells #[.int .u8 kq, .int .u32 sa, .int .u32 ua, .int .u32 sb, .int .u32 ub, .float .f64 ax, .float .f64 ay, .float .f64 bx, .float .f64 b_y, .float .f64 ux, .float .f64 uy, .float .f64 rs, .float .f64 rt, .bool mo, .float .f64 sp, .float .f64 mt, .bool li, .float .f64 lo, .float .f64 hi, .float .f64 p0, .float .f64 p1, .float .f64 p2] 30)).cell? ⟨w.heap.size, 11, none⟩ = some (.float .f64 rs) := by rw [World.cell?_alloc_new]; rfl
  have z0_12 : (w.alloc (.cells #[.int .u8 kq, .int .u32 sa, .int .u32 ua, .int .u32 sb, .int .u32 ub, .float .f64 ax, .float .f64 ay, .float .f64 bx, .float .f64 b_y, .float .f64 ux, .float .f64 uy, .float .f64 rs, .float .f64 rt, .bool mo, .float .f64 sp, .float .f64 mt, .bool li, .float .f64 lo, .float .f64 hi, .float .f64 p0, .float .f64 p1, .float .f64 p2] 30)).cell? ⟨w.heap.size, 12, none⟩ = some (.float .f64 rt) := by rw [World.cell?_alloc_new]; rfl
  have z0_13 : (w.alloc (.cells #[.int .u8 kq, .int .u32 sa, .int .u32 ua, .int .u32 sb, .int .u32 ub, .float .f64 ax, .float .f64 ay, .float .f64 bx, .float .f64 b_y, .float .f64 ux, .float .f64 uy, .float .f64 rs, .float .f64 rt, .bool mo, .float .f64 sp, .float .f64 mt, .bool li, .float .f64 lo, .float .f64 hi, .float .f64 p0, .float .f64 p1, .float .f64 p2] 30)).cell? ⟨w.heap.size, 13, none⟩ = some (.bool mo) := by rw [World.cell?_alloc_new]; rfl
  have z0_14 : (w.alloc (.cells #[.int .u8 kq, .int .u32 sa, .int .u32 ua, .int .u32 sb, .int .u32 ub, .float .f64 ax, .float .f64 ay, .float .f64 bx, .float .f64 b_y, .float .f64 ux, .float .f64 uy, .float .f64 rs, .float .f64 rt, .bool mo, .float .f64 sp, .float .f64 mt, .bool li, .float .f64 lo, .float .f64 hi, .float .f64 p0, .float .f64 p1, .float .f64 p2] 30)).cell? ⟨w.heap.size, 14, none⟩ = some (.float .f64 sp) := by rw [World.cell?_alloc_new]; rfl
  have z0_15 : (w.alloc (.cells #[.int .u8 kq, .int .u32 sa, .int .u32 ua, .int .u32 sb, .int .u32 ub, .float .f64 ax, .float .f64 ay, .float .f64 bx, .float .f64 b_y, .float .f64 ux, .float .f64 uy, .float .f64 rs, .float .f64 rt, .bool mo, .float .f64 sp, .float .f64 mt, .bool li, .float .f64 lo, .float .f64 hi, .float .f64 p0, .float .f64 p1, .float .f64 p2] 30)).cell? ⟨w.heap.size, 15, none⟩ = some (.float .f64 mt) := by rw [World.cell?_alloc_new]; rfl
  have z0_16 : (w.alloc (.cells #[.int .u8 kq, .int .u32 sa, .int .u32 ua, .int .u32 sb, .int .u32 ub, .float .f64 ax, .float .f64 ay, .float .f64 bx, .float .f64 b_y, .float .f64 ux, .float .f64 uy, .float .f64 rs, .float .f64 rt, .bool mo, .float .f64 sp, .float .f64 mt, .bool li, .float .f64 lo, .float .f64 hi, .float .f64 p0, .float .f64 p1, .float .f64 p2] 30)).cell? ⟨w.heap.size, 16, none⟩ = some (.bool li) := by rw [World.cell?_alloc_new]; rfl
  have z0_17 : (w.alloc (.cells #[.int .u8 kq, .int .u32 sa, .int .u32 ua, .int .u32 sb, .int .u32 ub, .float .f64 ax, .float .f64 ay, .float .f64 bx, .float .f64 b_y, .float .f64 ux, .float .f64 uy, .float .f64 rs, .float .f64 rt, .bool mo, .float .f64 sp, .float .f64 mt, .bool li, .float .f64 lo, .float .f64 hi, .float .f64 p0, .float .f64 p1, .float .f64 p2] 30)).cell? ⟨w.heap.size, 17, none⟩ = some (.float .f64 lo) := by rw [World.cell?_alloc_new]; rfl
  have z0_18 : (w.alloc (.cells #[.int .u8 kq, .int .u32 sa, .int .u32 ua, .int .u32 sb, .int .u32 ub, .float .f64 ax, .float .f64 ay, .float .f64 bx, .float .f64 b_y, .float .f64 ux, .float .f64 uy, .float .f64 rs, .float .f64 rt, .bool mo, .float .f64 sp, .float .f64 mt, .bool li, .float .f64 lo, .float .f64 hi, .float .f64 p0, .float .f64 p1, .float .f64 p2] 30)).cell? ⟨w.heap.size, 18, none⟩ = some (.float .f64 hi) := by rw [World.cell?_alloc_new]; rfl
  have z0_19 : (w.alloc (.cells #[.int .u8 kq, .int .u32 sa, .int .u32 ua, .int .u32 sb, .int .u32 ub, .float .f64 ax, .float .f64 ay, .float .f64 bx, .float .f64 b_y, .float .f64 ux, .float .f64 uy, .float .f64 rs, .float .f64 rt, .bool mo, .float .f64 sp, .float .f64 mt, .bool li, .float .f64 lo, .float .f64 hi, .float .f64 p0, .float .f64 p1, .float .f64 p2] 30)).cell? ⟨w.heap.size, 19, none⟩ = some (.float .f64 p0) := by rw [World.cell?_alloc_new]; rfl
  have z0_20 : (w.alloc (.cells #[.int .u8 kq, .int .u32 sa, .int .u32 ua, .int .u32 sb, .int .u32 ub, .float .f64 ax, .float .f64 ay, .float .f64 bx, .float .f64 b_y, .float .f64 ux, .float .f64 uy, .float .f64 rs, .float .f64 rt, .bool mo, .float .f64 sp, .float .f64 mt, .bool li, .float .f64 lo, .float .f64 hi, .float .f64 p0, .float .f64 p1, .float .f64 p2] 30)).cell? ⟨w.heap.size, 20, none⟩ = some (.float .f64 p1) := by rw [World.cell?_alloc_new]; rfl
  have z0_21 : (w.alloc (.cells #[.int .u8 kq, .int .u32 sa, .int .u32 ua, .int .u32 sb, .int .u32 ub, .float .f64 ax, .float .f64 ay, .float .f64 bx, .float .f64 b_y, .float .f64 ux, .float .f64 uy, .float .f64 rs, .float .f64 rt, .bool mo, .float .f64 sp, .float .f64 mt, .bool li, .float .f64 lo, .float .f64 hi, .float .f64 p0, .float .f64 p1, .float .f64 p2] 30)).cell? ⟨w.heap.size, 21, none⟩ = some (.float .f64 p2) := by rw [World.cell?_alloc_new]; rfl
  have B0 : Bel w (w.alloc (.cells #[.int .u8 kq, .int .u32 sa, .int .u32 ua, .int .u32 sb, .int .u32 ub, .float .f64 ax, .float .f64 ay, .float .f64 bx, .float .f64 b_y, .float .f64 ux, .float .f64 uy, .float .f64 rs, .float .f64 rt, .bool mo, .float .f64 sp, .float .f64 mt, .bool li, .float .f64 lo, .float .f64 hi, .float .f64 p0, .float .f64 p1, .float .f64 p2] 30)) := bl_alloc (bl_refl w) _ _

  go_enter Try.func19, Try.ntmps19
  go_wp2
  refine wp_loop_rounds 4 ?_
  rw [rounds_succ]
  cases g0 : (withinK .f64 ax 4787326403894837248 && withinK .f64 ay 4787326403894837248)
  · go_wp2_with (first | (go_at_call 24; refine (vWithin_any _ _ _ _).mono ?_; rintro e w' ⟨rfl, hb⟩; rw [g0]; (first | have B := bl_trans B hb | have B := bl_trans (by repeat (first | exact B | apply bl_drewN)) hb | have B := bl_trans (by repeat (first | exact B | apply bl_drewN | apply bl_drew | apply bl_alloc | refine bl_set ?_ (by simp <;> omega))) hb | have B := hb); (try clear hc hf hz); obtain ⟨hc, hf⟩ := bcell B; have hz := B.size; (try simp at hz)))
    go_ret
    refine ⟨by rw [jR_v0 g0]; rfl, ?_⟩
    repeat (first | exact bl_refl _ | assumption | apply bl_drewN | apply bl_drew | apply bl_alloc | refine bl_set ?_ (by simp <;> omega) | refine bl_trans ?_ (by assumption))
  go_wp2_with (first | (go_at_call 24; refine (vWithin_any _ _ _ _).mono ?_; rintro e w' ⟨rfl, hb⟩; rw [g0]; (first | have B := bl_trans B hb | have B := bl_trans (by repeat (first | exact B | apply bl_drewN)) hb | have B := bl_trans (by repeat (first | exact B | apply bl_drewN | apply bl_drew | apply bl_alloc | refine bl_set ?_ (by simp <;> omega))) hb | have B := hb); (try clear hc hf hz); obtain ⟨hc, hf⟩ := bcell B; have hz := B.size; (try simp at hz)))
  rw [rounds_succ]
  cases g1 : (withinK .f64 bx 4787326403894837248 && withinK .f64 b_y 4787326403894837248)
  · go_wp2_with (first | (go_at_call 24; refine (vWithin_any _ _ _ _).mono ?_; rintro e w' ⟨rfl, hb⟩; rw [g1]; (first | have B := bl_trans B hb | have B := bl_trans (by repeat (first | exact B | apply bl_drewN)) hb | have B := bl_trans (by repeat (first | exact B | apply bl_drewN | apply bl_drew | apply bl_alloc | refine bl_set ?_ (by simp <;> omega))) hb | have B := hb); (try clear hc hf hz); obtain ⟨hc, hf⟩ := bcell B; have hz := B.size; (try simp at hz)))
    go_ret
    refine ⟨by rw [jR_v1 g1]; rfl, ?_⟩
    repeat (first | exact bl_refl _ | assumption | apply bl_drewN | apply bl_drew | apply bl_alloc | refine bl_set ?_ (by simp <;> omega) | refine bl_trans ?_ (by assumption))
  go_wp2_with (first | (go_at_call 24; refine (vWithin_any _ _ _ _).mono ?_; rintro e w' ⟨rfl, hb⟩; rw [g1]; (first | have B := bl_trans B hb | have B := bl_trans (by repeat (first | exact B | apply bl_drewN)) hb | have B := bl_trans (by repeat (first | exact B | apply bl_drewN | apply bl_drew | apply bl_alloc | refine bl_set ?_ (by simp <;> omega))) hb | have B := hb); (try clear hc hf hz); obtain ⟨hc, hf⟩ := bcell B; have hz := B.size; (try simp at hz)))
  rw [rounds_succ]
  cases g2 : (withinK .f64 ux 4787326403894837248 && withinK .f64 uy 4787326403894837248)
  · go_wp2_with (first | (go_at_call 24; refine (vWithin_any _ _ _ _).mono ?_; rintro e w' ⟨rfl, hb⟩; rw [g2]; (first | have B := bl_trans B hb | have B := bl_trans (by repeat (first | exact B | apply bl_drewN)) hb | have B := bl_trans (by repeat (first | exact B | apply bl_drewN | apply bl_drew | apply bl_alloc | refine bl_set ?_ (by simp <;> omega))) hb | have B := hb); (try clear hc hf hz); obtain ⟨hc, hf⟩ := bcell B; have hz := B.size; (try simp at hz)))
    go_ret
    refine ⟨by rw [jR_v2 g2]; rfl, ?_⟩
    repeat (first | exact bl_refl _ | assumption | apply bl_drewN | apply bl_drew | apply bl_alloc | refine bl_set ?_ (by simp <;> omega) | refine bl_trans ?_ (by assumption))
  go_wp2_with (first | (go_at_call 24; refine (vWithin_any _ _ _ _).mono ?_; rintro e w' ⟨rfl, hb⟩; rw [g2]; (first | have B := bl_trans B hb | have B := bl_trans (by repeat (first | exact B | apply bl_drewN)) hb | have B := bl_trans (by repeat (first | exact B | apply bl_drewN | apply bl_drew | apply bl_alloc | refine bl_set ?_ (by simp <;> omega))) hb | have B := hb); (try clear hc hf hz); obtain ⟨hc, hf⟩ := bcell B; have hz := B.size; (try simp at hz)))
  rw [rounds_succ]
  go_wp2
  refine wp_loop_rounds 7 ?_
  rw [rounds_succ]
  cases f0 : withinK .f64 rs 4787326403894837248
  · go_wp2_with (first | (go_at_call 15; refine (within_6 _ _ _).mono ?_; rintro e w' ⟨rfl, rfl⟩; rw [f0]))
    go_ret
    refine ⟨by rw [jR_f0 f0]; rfl, ?_⟩
    repeat (first | exact bl_refl _ | assumption | apply bl_drewN | apply bl_drew | apply bl_alloc | refine bl_set ?_ (by simp <;> omega) | refine bl_trans ?_ (by assumption))
  go_wp2_with (first | (go_at_call 15; refine (within_6 _ _ _).mono ?_; rintro e w' ⟨rfl, rfl⟩; rw [f0]))
  rw [rounds_succ]
  cases f1 : withinK .f64 rt 4787326403894837248
  · go_wp2_with (first | (go_at_call 15; refine (within_6 _ _ _).mono ?_; rintro e w' ⟨rfl, rfl⟩; rw [f1]))
    go_ret
    refine ⟨by rw [jR_f1 f1]; rfl, ?_⟩
    repeat (first | exact bl_refl _ | assumption | apply bl_drewN | apply bl_drew | apply bl_alloc | refine bl_set ?_ (by simp <;> omega) | refine bl_trans ?_ (by assumption))
  go_wp2_with (first | (go_at_call 15; refine (within_6 _ _ _).mono ?_; rintro e w' ⟨rfl, rfl⟩; rw [f1]))
  rw [rounds_succ]
  cases f2 : withinK .f64 sp 4787326403894837248
  · go_wp2_with (first | (go_at_call 15; refine (within_6 _ _ _).mono ?_; rintro e w' ⟨rfl, rfl⟩; rw [f2]))
    go_ret
    refine ⟨by rw [jR_f2 f2]; rfl, ?_⟩
    repeat (first | exact bl_refl _ | assumption | apply bl_drewN | apply bl_drew | apply bl_alloc | refine bl_set ?_ (by simp <;> omega) | refine bl_trans ?_ (by assumption))
  go_wp2_with (first | (go_at_call 15; refine (within_6 _ _ _).mono ?_; rintro e w' ⟨rfl, rfl⟩; rw [f2]))
  rw [rounds_succ]
  cases f3 : withinK .f64 mt 4787326403894837248
  · go_wp2_with (first | (go_at_call 15; refine (within_6 _ _ _).mono ?_; rintro e w' ⟨rfl, rfl⟩; rw [f3]))
    go_ret
    refine ⟨by rw [jR_f3 f3]; rfl, ?_⟩
    repeat (first | exact bl_refl _ | assumption | apply bl_drewN | apply bl_drew | apply bl_alloc | refine bl_set ?_ (by simp <;> omega) | refine bl_trans ?_ (by assumption))
  go_wp2_with (first | (go_at_call 15; refine (within_6 _ _ _).mono ?_; rintro e w' ⟨rfl, rfl⟩; rw [f3]))
  rw [rounds_succ]
  cases f4 : withinK .f64 lo 4787326403894837248
  · go_wp2_with (first | (go_at_call 15; refine (within_6 _ _ _).mono ?_; rintro e w' ⟨rfl, rfl⟩; rw [f4]))
    go_ret
    refine ⟨by rw [jR_f4 f4]; rfl, ?_⟩
    repeat (first | exact bl_refl _ | assumption | apply bl_drewN | apply bl_drew | apply bl_alloc | refine bl_set ?_ (by simp <;> omega) | refine bl_trans ?_ (by assumption))
  go_wp2_with (first | (go_at_call 15; refine (within_6 _ _ _).mono ?_; rintro e w' ⟨rfl, rfl⟩; rw [f4]))
  rw [rounds_succ]
  cases f5 : withinK .f64 hi 4787326403894837248
  · go_wp2_with (first | (go_at_call 15; refine (within_6 _ _ _).mono ?_; rintro e w' ⟨rfl, rfl⟩; rw [f5]))
    go_ret
    refine ⟨by rw [jR_f5 f5]; rfl, ?_⟩
    repeat (first | exact bl_refl _ | assumption | apply bl_drewN | apply bl_drew | apply bl_alloc | refine bl_set ?_ (by simp <;> omega) | refine bl_trans ?_ (by assumption))
  go_wp2_with (first | (go_at_call 15; refine (within_6 _ _ _).mono ?_; rintro e w' ⟨rfl, rfl⟩; rw [f5]))
  rw [rounds_succ]
  go_wp2_with (first | (go_at_call 25; refine (mayBe_j _ _ _ _).mono ?_; rintro e w' ⟨rfl, hb⟩; (first | have B := bl_trans B hb | have B := bl_trans (by repeat (first | exact B | apply bl_drewN)) hb | have B := bl_trans (by repeat (first | exact B | apply bl_drewN | apply bl_drew | apply bl_alloc | refine bl_set ?_ (by simp <;> omega))) hb | have B := hb); (try clear hc hf hz); obtain ⟨hc, hf⟩ := bcell B; have hz := B.size; (try simp at hz)))
  go_ret
  refine ⟨by rw [jR_p g0 g1 g2 f0 f1 f2 f3 f4 f5]; rfl, ?_⟩
  repeat (first | exact bl_refl _ | assumption | apply bl_drewN | apply bl_drew | apply bl_alloc | refine bl_set ?_ (by simp <;> omega) | refine bl_trans ?_ (by assumption))

end Go.Proofs.Ytfjlonnmhioleaa
