/-
  What each function of package poly answers, and what the reference of its chapter answers: one contract a function, for every float: the answer stands in the relation of its formula to what was given; of the memory that was there nothing has turned.
-/
import Derived.Test.YtpedpgpgcmhnoaaVec
import Derived.Test.YtpedpgpgcmhnoaaDf
import Derived.Test.YtpedpgpgcmhnoaaClr
import Derived.Below
import Derived.WalkKit
import Derived.WalkLawsBesides
import Derived.WalkSpells
import Derived.ProofKit
import Derived.OpenShut
import Derived.Deep.RegionHeld3
namespace Go.Proofs.Ytpedpgpgcmhnoaa
open Go.ChangeShapes Go.WideShapes Go.ChangeAt Go.RowKit
set_option linter.unusedVariables false
set_option linter.unusedSimpArgs false


/-! builtin max of floats -/
def mxV (x y : Nat) (w : World) : Nat := if nanK .f64 x || nanK .f64 y then (Question.nanMinMax .f64 true x y).cut (w.tape w.drawn (.nanMinMax .f64 true x y)) else if ltK .f64 x y then y else if ltK .f64 y x then x else if (FloatKind.f64.decode x).neg then y else x
def mxD (x y : Nat) : Nat := if nanK .f64 x || nanK .f64 y then 1 else 0
theorem max2_run (P : Program) (x y : Nat) (w : World) : (Builtin.max2 (.float .f64 x) (.float .f64 y)).run P w = .ok (.float .f64 (mxV x y w)) (w.drewN (mxD x y)) := by
  unfold Builtin.max2 mxV mxD
  simp only []
  cases hx : nanK .f64 x with
  | true =>
    rw [show FloatKind.f64.format.order x y = none from order_none _ (okF .f64) x y (.inl hx)]
    simp only [Bool.true_or, if_true]
    rfl
  | false =>
    cases hy : nanK .f64 y with
    | true =>
      rw [show FloatKind.f64.format.order x y = none from order_none _ (okF .f64) x y (.inr hy)]
      simp only [Bool.or_true, if_true]
      rfl
    | false =>
      have e := order_some FloatKind.f64.format (okF .f64) x y hx hy
      have h1 := cmp_lt .f64 x y
      have h2 := cmp_gt .f64 x y
      rw [e] at h1 h2 ⊢
      simp only [Bool.or_self, Bool.false_eq_true, if_false]
      cases hc : compare (wo FloatKind.f64.format x) (wo FloatKind.f64.format y) <;> rw [hc] at h1 h2 <;> rw [← h1, ← h2] <;> rfl
theorem run_max2f (P : Program) (ts : Array TypeId) (t : TypeId) (x y : Nat) (w : World) : (Builtin.max_ ts t #[.float .f64 x, .float .f64 y]).run P w = .ok (.float .f64 (mxV x y w)) (w.drewN (mxD x y)) := by
  unfold Builtin.max_
  simp [List.foldlM, max2_run]
theorem run_max3f (P : Program) (ts : Array TypeId) (t : TypeId) (x y z : Nat) (w : World) : (Builtin.max_ ts t #[.float .f64 x, .float .f64 y, .float .f64 z]).run P w = .ok (.float .f64 (mxV (mxV x y w) z (w.drewN (mxD x y)))) ((w.drewN (mxD x y)).drewN (mxD (mxV x y w) z)) := by
  unfold Builtin.max_
  simp [List.foldlM, max2_run]
theorem mxV_ok {x y : Nat} (hx : okK .f64 x) (hy : okK .f64 y) (w : World) : okK .f64 (mxV x y w) := by
  unfold mxV
  split
  · exact (cut_nan .f64 x y _).1
  · split
    · exact hy
    · split
      · exact hx
      · split
        · exact hy
        · exact hx
theorem mxV_rv {x y : Nat} (hx : finK .f64 x = true) (hy : finK .f64 y = true) (w : World) : (mxV x y w = x ∨ mxV x y w = y) ∧ rv x ≤ rv (mxV x y w) ∧ rv y ≤ rv (mxV x y w) := by
  have nx := fin_num hx
  have ny := fin_num hy
  have h1 := lt_rv nx ny
  have h2 := lt_rv ny nx
  unfold mxV
  rw [nx, ny]
  simp only [Bool.or_self, Bool.false_eq_true, if_false]
  split
  · rename_i h; have := h1.1 h; exact ⟨.inr rfl, Rat.le_of_lt this, Rat.le_refl⟩
  · rename_i n1
    split
    · rename_i h; have := h2.1 h; exact ⟨.inl rfl, Rat.le_refl, Rat.le_of_lt this⟩
    · rename_i n2
      have e : rv x = rv y := by
        have a : ¬ rv x < rv y := fun h => n1 (h1.2 h)
        have b : ¬ rv y < rv x := fun h => n2 (h2.2 h)
        grind
      split
      · exact ⟨.inr rfl, by rw [e]; exact Rat.le_refl, Rat.le_refl⟩
      · exact ⟨.inl rfl, Rat.le_refl, by rw [e]; exact Rat.le_refl⟩
def mxK (x y : Nat) : Nat := if ltK .f64 x y then y else if ltK .f64 y x then x else if (FloatKind.f64.decode x).neg then y else x
theorem mx_fin {x y : Nat} (hx : finK .f64 x = true) (hy : finK .f64 y = true) (w : World) : mxV x y w = mxK x y ∧ mxD x y = 0 := by
  have nx := fin_num hx
  have ny := fin_num hy
  unfold mxV mxK mxD
  rw [nx, ny]
  exact ⟨rfl, rfl⟩
theorem run_max_fin (P : Program) (ts : Array TypeId) (t : TypeId) (x y : Nat) (w : World) (hx : finK .f64 x = true) (hy : finK .f64 y = true) : (Builtin.max_ ts t #[.float .f64 x, .float .f64 y]).run P w = .ok (.float .f64 (mxK x y)) w := by
  rw [run_max2f, (mx_fin hx hy w).1, (mx_fin hx hy w).2]
  rfl
theorem rg_abs {n x : Nat} (h : Bd n x) : Bd n (rgK .f64 x) ∧ rv (rgK .f64 x) = ab (rv x) := by
  have h1 : rgK .f64 (rgK .f64 x) = rgK .f64 x := by rw [rg64, rg64]; omega
  have h2 : ngK .f64 (rgK .f64 x) = false := by rw [ng64, rg64, beq_eq_false_iff_ne]; omega
  have e : av (rgK .f64 x) = av x := by unfold av mg; rw [h1]
  have e2 : finK .f64 (rgK .f64 x) = finK .f64 x := by unfold finK; rw [h1]
  refine ⟨⟨by rw [okK64, rg64]; have := h.1; rw [okK64] at this; omega, by rw [e2]; exact h.2.1, by rw [e]; exact h.2.2⟩, ?_⟩
  rw [rv_pos h2, e, ab_rv]
theorem rg_ok {x : Nat} (h : okK .f64 x) : okK .f64 (rgK .f64 x) := by rw [okK64, rg64]; rw [okK64] at h; omega
/-- the greatest of the first i points, and of what it began with -/
def GrI (xs ys : Nat → Nat) (n m0 i m : Nat) : Prop := okK .f64 m ∧ (Gd xs ys n → Bd 43 m0 → Bd 43 m ∧ rv m0 ≤ rv m ∧ ∀ j, j < i → Grt m (xs j, ys j))
theorem gr_step {xs ys : Nat → Nat} {n m0 i m : Nat} (h : GrI xs ys n m0 i m) (hi : i < n) (o1 : okK .f64 (xs i)) (o2 : okK .f64 (ys i)) (w w' : World) : GrI xs ys n m0 (i + 1) (mxV (mxV m (rgK .f64 (xs i)) w) (rgK .f64 (ys i)) w') := by
  refine ⟨mxV_ok (mxV_ok h.1 (rg_ok o1) w) (rg_ok o2) w', fun g hm => ?_⟩
  obtain ⟨b, hl, hj⟩ := h.2 g hm
  obtain ⟨g1, g2⟩ := g i hi
  obtain ⟨a1, a2⟩ := rg_abs g1
  obtain ⟨b1, b2⟩ := rg_abs g2
  obtain ⟨c1, c2, c3⟩ := mxV_rv b.2.1 a1.2.1 w
  have bb : Bd 43 (mxV m (rgK .f64 (xs i)) w) := by rcases c1 with e | e <;> rw [e]; exact b; exact bd_mono a1 (by decide)
  obtain ⟨d1, d2, d3⟩ := mxV_rv bb.2.1 b1.2.1 w'
  have bc : Bd 43 (mxV (mxV m (rgK .f64 (xs i)) w) (rgK .f64 (ys i)) w') := by rcases d1 with e | e <;> rw [e]; exact bb; exact bd_mono b1 (by decide)
  refine ⟨bc, by grind, fun j hj' => ?_⟩
  by_cases e : j = i
  · subst e
    exact ⟨by show ab (rv (xs j)) ≤ _; grind, by show ab (rv (ys j)) ≤ _; grind⟩
  · obtain ⟨q1, q2⟩ := hj j (by omega)
    exact ⟨by grind, by grind⟩
theorem one_max {fd : Nat} (h : Bd 42 fd) (w : World) : Bd 43 (mxK 4607182418800017408 (rgK .f64 fd)) ∧ 1 ≤ rv (mxK 4607182418800017408 (rgK .f64 fd)) ∧ ab (rv fd) ≤ rv (mxK 4607182418800017408 (rgK .f64 fd)) := by
  have b1 : Bd 0 4607182418800017408 := ⟨by rw [okK64]; decide, by decide +kernel, by decide +kernel⟩
  have e1 : rv 4607182418800017408 = 1 := by decide +kernel
  obtain ⟨a1, a2⟩ := rg_abs h
  obtain ⟨c1, c2, c3⟩ := mxV_rv b1.2.1 a1.2.1 w
  rw [(mx_fin b1.2.1 a1.2.1 w).1] at c1 c2 c3
  rw [e1] at c2
  rw [a2] at c3
  exact ⟨by rcases c1 with e | e <;> rw [e]; exact bd_mono b1 (by decide); exact bd_mono a1 (by decide), c2, c3⟩

set_option maxHeartbeats 2000000 in
theorem in_d {k nx ny fd x y m : Nat} (w : World) (hp : PnB (nx, ny, fd)) (ha : PtB k (x, y)) (hk : k ≤ 600) (hm : Bd 43 m) : Calls Try.prog 14 #[.agg #[.float .f64 nx, .float .f64 ny, .float .f64 fd], .agg #[.float .f64 x, .float .f64 y], .float .f64 m] w fun e w' => e = .returned (.bool (leK .f64 (frK (nx, ny, fd) (x, y)) (Dv .mul 4436045632959938560 m))) ∧ Bel w w' := by
  have c1 := cmp_le .f64
  have k0 : Bd 0 4436045632959938560 := ⟨by rw [okK64]; decide, by decide +kernel, by decide +kernel⟩
  have bx := bd_mul hp.1 ha.1 (by omega)
  have b_y := bd_mul hp.2.1 ha.2 (by omega)
  have bs := bd_add bx b_y (by omega)
  have f1 := fun (t : TypeId) (w : World) => run_mul_dv Try.prog t nx x w hp.1.2.1 ha.1.2.1
  have f2 := fun (t : TypeId) (w : World) => run_mul_dv Try.prog t ny y w hp.2.1.2.1 ha.2.2.1
  have f3 := fun (t : TypeId) (w : World) => run_add_dv Try.prog t _ _ w bx.2.1 b_y.2.1
  have f4 := fun (t : TypeId) (w : World) => run_sub_dv Try.prog t _ fd w bs.2.1 hp.2.2.2.1 hp.2.2.1
  have f5 := fun (t : TypeId) (w : World) => run_mul_dv Try.prog t _ m w k0.2.1 hm.2.1
  simp only [] at f1 f2 f3 f4 f5
  have z0_0 : (w.alloc (.cells #[.float .f64 nx, .float .f64 ny, .float .f64 fd] 26)).cell? ⟨w.heap.size, 0, none⟩ = some (.float .f64 nx) := by rw [World.cell?_alloc_new]; rfl
  replace z0_0 := up_alloc (o := .cells #[.float .f64 x, .float .f64 y] 24) z0_0
  have z0_1 : (w.alloc (.cells #[.float .f64 nx, .float .f64 ny, .float .f64 fd] 26)).cell? ⟨w.heap.size, 1, none⟩ = some (.float .f64 ny) := by rw [World.cell?_alloc_new]; rfl
  replace z0_1 := up_alloc (o := .cells #[.float .f64 x, .float .f64 y] 24) z0_1
  have z0_2 : (w.alloc (.cells #[.float .f64 nx, .float .f64 ny, .float .f64 fd] 26)).cell? ⟨w.heap.size, 2, none⟩ = some (.float .f64 fd) := by rw [World.cell?_alloc_new]; rfl
  replace z0_2 := up_alloc (o := .cells #[.float .f64 x, .float .f64 y] 24) z0_2
  have z1_0 : ((w.alloc (.cells #[.float .f64 nx, .float .f64 ny, .float .f64 fd] 26)).alloc (.cells #[.float .f64 x, .float .f64 y] 24)).cell? ⟨w.heap.size + 1, 0, none⟩ = some (.float .f64 x) := by rw [← (show (w.alloc (.cells #[.float .f64 nx, .float .f64 ny, .float .f64 fd] 26)).heap.size = w.heap.size + 1 by simp only [World.size_alloc]), World.cell?_alloc_new]; rfl
  have z1_1 : ((w.alloc (.cells #[.float .f64 nx, .float .f64 ny, .float .f64 fd] 26)).alloc (.cells #[.float .f64 x, .float .f64 y] 24)).cell? ⟨w.heap.size + 1, 1, none⟩ = some (.float .f64 y) := by rw [← (show (w.alloc (.cells #[.float .f64 nx, .float .f64 ny, .float .f64 fd] 26)).heap.size = w.heap.size + 1 by simp only [World.size_alloc]), World.cell?_alloc_new]; rfl
  have B0 : Bel w ((w.alloc (.cells #[.float .f64 nx, .float .f64 ny, .float .f64 fd] 26)).alloc (.cells #[.float .f64 x, .float .f64 y] 24)) := bl_alloc (bl_alloc (bl_refl w) _ _) _ _
  clear k0 bx b_y bs hp ha hm
  go_enter Try.func14, Try.ntmps14
  go_wp2
  go_ret
  exact ⟨rfl, B0⟩

theorem gr_none (v : Option Addr) (cap m0 : Nat) (w : World) : Calls Try.prog 11 #[.slice v 0 cap, .float .f64 m0] w fun e w' => e = .returned (.float .f64 m0) ∧ Bel w w' := by
  go_enter Try.func11, Try.ntmps11
  go_wp2
  refine wp_loop_rounds 1 ?_
  rw [rounds_succ]
  go_wp2
  go_ret
  exact ⟨rfl, bl_refl _⟩
set_option maxRecDepth 100000 in
set_option maxHeartbeats 4000000 in
theorem gr_some (b off n cap : Nat) (xs ys : Nat → Nat) (m0 : Nat) (w : World) (hs0 : Sl w b off n xs ys) (ok : Oks xs ys n) (om : okK .f64 m0) (hp : 0 < n) (hn : n ≤ maxLen) (hcap : n ≤ cap) : Calls Try.prog 11 #[.slice (some ⟨b, off, none⟩) n cap, .float .f64 m0] w fun e w' => ∃ m, e = .returned (.float .f64 m) ∧ GrI xs ys n m0 n m ∧ Bel w w' := by
  go_enter Try.func11, Try.ntmps11
  go_wp2
  go_loopw [1, 5] (fun m' i' wr => ∃ m kx : Nat, m' = .float .f64 m ∧ kx ≤ n ∧ i' = .int .i64 kx ∧ GrI xs ys n m0 kx m ∧ Bel w wr) (fun _ i' _ => n - (intOf i').toNat)
  case atStart => exact ⟨m0, 0, rfl, by omega, rfl, ⟨om, fun _ hm => ⟨hm, Rat.le_refl, fun j hj => by omega⟩⟩, bl_refl _⟩
  case round =>
    obtain ⟨m, kx, rfl, hk, rfl, hG, hB⟩ := hrel
    by_cases hlt : kx < n
    · have k1 : (kx : Int) < (n : Int) := by omega
      have wk : IntKind.wrap .i64 ((kx : Int) + 1) = (kx : Int) + 1 := by rw [IntKind.wrap_i64]; unfold maxLen at hn; omega
      have hsr := hs0.bel hB
      obtain ⟨o1, o2⟩ := ok kx hlt
      go_wp2_with fail
      · refine wp_region_multiA 14 (fun i v => match i with | 0 => v = .float .f64 m | 1 => v = .slice (some ⟨b, off, none⟩) n cap | 2 => v = .int .i64 (kx : Int) | 3 => v = .pointer (some ⟨b, off + kx * 2, none⟩) | 4 => v = .pointer (some ⟨b, off + kx * 2, none⟩) | 5 => v = .float .f64 (xs kx) | 6 => v = .float .f64 (rgK .f64 (xs kx)) | 7 => v = .slice (some ⟨b, off, none⟩) n cap | 8 => v = .int .i64 (kx : Int) | 9 => v = .pointer (some ⟨b, off + kx * 2, none⟩) | 10 => v = .pointer (some ⟨b, off + kx * 2 + 1, none⟩) | 11 => v = .float .f64 (ys kx) | 12 => v = .float .f64 (rgK .f64 (ys kx)) | 13 => ∃ m2, v = .float .f64 m2 ∧ GrI xs ys n m0 (kx + 1) m2 | _ => False) (fun i => match i with  | _ => none) ?A_wf (by kernel_rfl) (by kernel_rfl) ?hA_wf ?ha_wf ?hq_wf [14] rfl ?ht_wf
        case hA_wf =>
          intro s
          simp only [putL, dstO, Act.put, List.getElem?_toArray, List.getElem?_cons_zero, List.getElem?_cons_succ, Option.bind_some, List.setIfInBounds_toArray, List.set_cons_zero, List.set_cons_succ, if_true]
          all_goals exact rfl
        case ha_wf =>
          intro i o ob hi ho hal
          rcases (show i = 0 ∨ i = 1 ∨ i = 2 ∨ i = 3 ∨ i = 4 ∨ i = 5 ∨ i = 6 ∨ i = 7 ∨ i = 8 ∨ i = 9 ∨ i = 10 ∨ i = 11 ∨ i = 12 ∨ i = 13 by omega) with rfl | rfl | rfl | rfl | rfl | rfl | rfl | rfl | rfl | rfl | rfl | rfl | rfl | rfl
          · cases hal
          · cases hal
          · cases hal
          · cases hal
          · cases hal
          · cases hal
          · cases hal
          · cases hal
          · cases hal
          · cases hal
          · cases hal
          · cases hal
          · cases hal
          · cases hal
        case hq_wf =>
          intro i o hi ho hal s hs W hb K hK
          obtain ⟨x0, x1⟩ := (hsr.bel hb) kx hlt; have mx := run_max3f Try.prog
          rcases (show i = 0 ∨ i = 1 ∨ i = 2 ∨ i = 3 ∨ i = 4 ∨ i = 5 ∨ i = 6 ∨ i = 7 ∨ i = 8 ∨ i = 9 ∨ i = 10 ∨ i = 11 ∨ i = 12 ∨ i = 13 by omega) with rfl | rfl | rfl | rfl | rfl | rfl | rfl | rfl | rfl | rfl | rfl | rfl | rfl | rfl
          · cases ho
            simp only [Act.put, List.setIfInBounds_toArray, List.set_cons_zero, List.set_cons_succ] at hK
            clear hs
            go_simp
            all_goals (try go_wp2_with (first | (go_at_call 12; refine (abs_any _ _ (by with_reducible assumption)).mono ?_; rintro e w1 ⟨rfl, rfl⟩)))
            all_goals first | (refine hK.out _ _ ⟨_, rfl, gr_step hG hlt o1 o2 _ _⟩ ?_; repeat (first | exact bl_refl _ | apply bl_drewN | apply bl_drew)) | exact hK.out _ _ rfl (bl_refl _) | exact hK.out _ _ rfl (by assumption) | exact hK.out _ _ (by assumption) (by assumption)
          · cases ho
            simp only [Act.put, List.setIfInBounds_toArray, List.set_cons_zero, List.set_cons_succ] at hK
            clear hs
            go_simp
            all_goals (try go_wp2_with (first | (go_at_call 12; refine (abs_any _ _ (by with_reducible assumption)).mono ?_; rintro e w1 ⟨rfl, rfl⟩)))
            all_goals first | (refine hK.out _ _ ⟨_, rfl, gr_step hG hlt o1 o2 _ _⟩ ?_; repeat (first | exact bl_refl _ | apply bl_drewN | apply bl_drew)) | exact hK.out _ _ rfl (bl_refl _) | exact hK.out _ _ rfl (by assumption) | exact hK.out _ _ (by assumption) (by assumption)
          · cases ho
            simp only [Act.put, List.setIfInBounds_toArray, List.set_cons_zero, List.set_cons_succ] at hK
            clear hs
            go_simp
            all_goals (try go_wp2_with (first | (go_at_call 12; refine (abs_any _ _ (by with_reducible assumption)).mono ?_; rintro e w1 ⟨rfl, rfl⟩)))
            all_goals first | (refine hK.out _ _ ⟨_, rfl, gr_step hG hlt o1 o2 _ _⟩ ?_; repeat (first | exact bl_refl _ | apply bl_drewN | apply bl_drew)) | exact hK.out _ _ rfl (bl_refl _) | exact hK.out _ _ rfl (by assumption) | exact hK.out _ _ (by assumption) (by assumption)
          · cases ho
            have e1 : s 1 = _ := hs 1 (by decide) (by kernel_rfl)
            have e2 : s 2 = _ := hs 2 (by decide) (by kernel_rfl)
            simp only [e1, e2] at hK ⊢
            simp only [Act.put, List.setIfInBounds_toArray, List.set_cons_zero, List.set_cons_succ] at hK
            clear hs
            go_simp
            all_goals (try go_wp2_with (first | (go_at_call 12; refine (abs_any _ _ (by with_reducible assumption)).mono ?_; rintro e w1 ⟨rfl, rfl⟩)))
            all_goals first | (refine hK.out _ _ ⟨_, rfl, gr_step hG hlt o1 o2 _ _⟩ ?_; repeat (first | exact bl_refl _ | apply bl_drewN | apply bl_drew)) | exact hK.out _ _ rfl (bl_refl _) | exact hK.out _ _ rfl (by assumption) | exact hK.out _ _ (by assumption) (by assumption)
          · cases ho
            have e3 : s 3 = _ := hs 3 (by decide) (by kernel_rfl)
            simp only [e3] at hK ⊢
            simp only [Act.put, List.setIfInBounds_toArray, List.set_cons_zero, List.set_cons_succ] at hK
            clear hs
            go_simp
            all_goals (try go_wp2_with (first | (go_at_call 12; refine (abs_any _ _ (by with_reducible assumption)).mono ?_; rintro e w1 ⟨rfl, rfl⟩)))
            all_goals first | (refine hK.out _ _ ⟨_, rfl, gr_step hG hlt o1 o2 _ _⟩ ?_; repeat (first | exact bl_refl _ | apply bl_drewN | apply bl_drew)) | exact hK.out _ _ rfl (bl_refl _) | exact hK.out _ _ rfl (by assumption) | exact hK.out _ _ (by assumption) (by assumption)
          · cases ho
            have e4 : s 4 = _ := hs 4 (by decide) (by kernel_rfl)
            simp only [e4] at hK ⊢
            simp only [Act.put, List.setIfInBounds_toArray, List.set_cons_zero, List.set_cons_succ] at hK
            clear hs
            go_simp
            all_goals (try go_wp2_with (first | (go_at_call 12; refine (abs_any _ _ (by with_reducible assumption)).mono ?_; rintro e w1 ⟨rfl, rfl⟩)))
            all_goals first | (refine hK.out _ _ ⟨_, rfl, gr_step hG hlt o1 o2 _ _⟩ ?_; repeat (first | exact bl_refl _ | apply bl_drewN | apply bl_drew)) | exact hK.out _ _ rfl (bl_refl _) | exact hK.out _ _ rfl (by assumption) | exact hK.out _ _ (by assumption) (by assumption)
          · cases ho
            have e5 : s 5 = _ := hs 5 (by decide) (by kernel_rfl)
            simp only [e5] at hK ⊢
            simp only [Act.put, List.setIfInBounds_toArray, List.set_cons_zero, List.set_cons_succ] at hK
            clear hs
            go_simp
            all_goals (try go_wp2_with (first | (go_at_call 12; refine (abs_any _ _ (by with_reducible assumption)).mono ?_; rintro e w1 ⟨rfl, rfl⟩)))
            all_goals first | (refine hK.out _ _ ⟨_, rfl, gr_step hG hlt o1 o2 _ _⟩ ?_; repeat (first | exact bl_refl _ | apply bl_drewN | apply bl_drew)) | exact hK.out _ _ rfl (bl_refl _) | exact hK.out _ _ rfl (by assumption) | exact hK.out _ _ (by assumption) (by assumption)
          · cases ho
            simp only [Act.put, List.setIfInBounds_toArray, List.set_cons_zero, List.set_cons_succ] at hK
            clear hs
            go_simp
            all_goals (try go_wp2_with (first | (go_at_call 12; refine (abs_any _ _ (by with_reducible assumption)).mono ?_; rintro e w1 ⟨rfl, rfl⟩)))
            all_goals first | (refine hK.out _ _ ⟨_, rfl, gr_step hG hlt o1 o2 _ _⟩ ?_; repeat (first | exact bl_refl _ | apply bl_drewN | apply bl_drew)) | exact hK.out _ _ rfl (bl_refl _) | exact hK.out _ _ rfl (by assumption) | exact hK.out _ _ (by assumption) (by assumption)
          · cases ho
            simp only [Act.put, List.setIfInBounds_toArray, List.set_cons_zero, List.set_cons_succ] at hK
            clear hs
            go_simp
            all_goals (try go_wp2_with (first | (go_at_call 12; refine (abs_any _ _ (by with_reducible assumption)).mono ?_; rintro e w1 ⟨rfl, rfl⟩)))
            all_goals first | (refine hK.out _ _ ⟨_, rfl, gr_step hG hlt o1 o2 _ _⟩ ?_; repeat (first | exact bl_refl _ | apply bl_drewN | apply bl_drew)) | exact hK.out _ _ rfl (bl_refl _) | exact hK.out _ _ rfl (by assumption) | exact hK.out _ _ (by assumption) (by assumption)
          · cases ho
            have e7 : s 7 = _ := hs 7 (by decide) (by kernel_rfl)
            have e8 : s 8 = _ := hs 8 (by decide) (by kernel_rfl)
            simp only [e7, e8] at hK ⊢
            simp only [Act.put, List.setIfInBounds_toArray, List.set_cons_zero, List.set_cons_succ] at hK
            clear hs
            go_simp
            all_goals (try go_wp2_with (first | (go_at_call 12; refine (abs_any _ _ (by with_reducible assumption)).mono ?_; rintro e w1 ⟨rfl, rfl⟩)))
            all_goals first | (refine hK.out _ _ ⟨_, rfl, gr_step hG hlt o1 o2 _ _⟩ ?_; repeat (first | exact bl_refl _ | apply bl_drewN | apply bl_drew)) | exact hK.out _ _ rfl (bl_refl _) | exact hK.out _ _ rfl (by assumption) | exact hK.out _ _ (by assumption) (by assumption)
          · cases ho
            have e9 : s 9 = _ := hs 9 (by decide) (by kernel_rfl)
            simp only [e9] at hK ⊢
            simp only [Act.put, List.setIfInBounds_toArray, List.set_cons_zero, List.set_cons_succ] at hK
            clear hs
            go_simp
            all_goals (try go_wp2_with (first | (go_at_call 12; refine (abs_any _ _ (by with_reducible assumption)).mono ?_; rintro e w1 ⟨rfl, rfl⟩)))
            all_goals first | (refine hK.out _ _ ⟨_, rfl, gr_step hG hlt o1 o2 _ _⟩ ?_; repeat (first | exact bl_refl _ | apply bl_drewN | apply bl_drew)) | exact hK.out _ _ rfl (bl_refl _) | exact hK.out _ _ rfl (by assumption) | exact hK.out _ _ (by assumption) (by assumption)
          · cases ho
            have e10 : s 10 = _ := hs 10 (by decide) (by kernel_rfl)
            simp only [e10] at hK ⊢
            simp only [Act.put, List.setIfInBounds_toArray, List.set_cons_zero, List.set_cons_succ] at hK
            clear hs
            go_simp
            all_goals (try go_wp2_with (first | (go_at_call 12; refine (abs_any _ _ (by with_reducible assumption)).mono ?_; rintro e w1 ⟨rfl, rfl⟩)))
            all_goals first | (refine hK.out _ _ ⟨_, rfl, gr_step hG hlt o1 o2 _ _⟩ ?_; repeat (first | exact bl_refl _ | apply bl_drewN | apply bl_drew)) | exact hK.out _ _ rfl (bl_refl _) | exact hK.out _ _ rfl (by assumption) | exact hK.out _ _ (by assumption) (by assumption)
          · cases ho
            have e11 : s 11 = _ := hs 11 (by decide) (by kernel_rfl)
            simp only [e11] at hK ⊢
            simp only [Act.put, List.setIfInBounds_toArray, List.set_cons_zero, List.set_cons_succ] at hK
            clear hs
            go_simp
            all_goals (try go_wp2_with (first | (go_at_call 12; refine (abs_any _ _ (by with_reducible assumption)).mono ?_; rintro e w1 ⟨rfl, rfl⟩)))
            all_goals first | (refine hK.out _ _ ⟨_, rfl, gr_step hG hlt o1 o2 _ _⟩ ?_; repeat (first | exact bl_refl _ | apply bl_drewN | apply bl_drew)) | exact hK.out _ _ rfl (bl_refl _) | exact hK.out _ _ rfl (by assumption) | exact hK.out _ _ (by assumption) (by assumption)
          · cases ho
            have e0 : s 0 = _ := hs 0 (by decide) (by kernel_rfl)
            have e6 : s 6 = _ := hs 6 (by decide) (by kernel_rfl)
            have e12 : s 12 = _ := hs 12 (by decide) (by kernel_rfl)
            simp only [e0, e6, e12] at hK ⊢
            simp only [Act.put, List.setIfInBounds_toArray, List.set_cons_zero, List.set_cons_succ] at hK
            clear hs
            go_simp
            all_goals (try go_wp2_with (first | (go_at_call 12; refine (abs_any _ _ (by with_reducible assumption)).mono ?_; rintro e w1 ⟨rfl, rfl⟩)))
            all_goals first | (refine hK.out _ _ ⟨_, rfl, gr_step hG hlt o1 o2 _ _⟩ ?_; repeat (first | exact bl_refl _ | apply bl_drewN | apply bl_drew)) | exact hK.out _ _ rfl (bl_refl _) | exact hK.out _ _ rfl (by assumption) | exact hK.out _ _ (by assumption) (by assumption)
        case ht_wf =>
          intro s hs W hb hJ
          have e0 : s 0 = _ := hs 0 (by decide)
          have e1 : s 1 = _ := hs 1 (by decide)
          have e2 : s 2 = _ := hs 2 (by decide)
          have e3 : s 3 = _ := hs 3 (by decide)
          have e4 : s 4 = _ := hs 4 (by decide)
          have e5 : s 5 = _ := hs 5 (by decide)
          have e6 : s 6 = _ := hs 6 (by decide)
          have e7 : s 7 = _ := hs 7 (by decide)
          have e8 : s 8 = _ := hs 8 (by decide)
          have e9 : s 9 = _ := hs 9 (by decide)
          have e10 : s 10 = _ := hs 10 (by decide)
          have e11 : s 11 = _ := hs 11 (by decide)
          have e12 : s 12 = _ := hs 12 (by decide)
          obtain ⟨m2, e13, hG2⟩ := hs 13 (by decide)
          simp only [e0, e1, e2, e3, e4, e5, e6, e7, e8, e9, e10, e11, e12, e13]
          clear hs
          refine tail_step rfl (fun K hK => ?_)
          go_simp
          refine hK.out _ _ ?_
          clear hK K
          refine tail_end ?_
          go_wp2
          exact ⟨⟨m2, kx + 1, rfl, by omega, by go_num, hG2, bl_trans hB hb⟩, by simp [intOf]; omega⟩
    · have hkn : kx = n := by omega
      subst hkn
      go_wp2
      go_ret
      exact ⟨m, rfl, hG, hB⟩
theorem gr_any (V : Value) (n : Nat) (xs ys : Nat → Nat) (m0 : Nat) (w : World) (h : AnyS w V n xs ys) (om : okK .f64 m0) : Calls Try.prog 11 #[V, .float .f64 m0] w fun e w' => ∃ m, e = .returned (.float .f64 m) ∧ GrI xs ys n m0 n m ∧ Bel w w' := by
  obtain ⟨a, cap, rfl, h2, h3, h4, h5, h6⟩ := h
  rcases h6 with h0 | ⟨h0, b, off, rfl, hs⟩
  · subst h0
    exact (gr_none a cap m0 w).mono fun e w' ⟨he, hb⟩ => ⟨m0, he, ⟨om, fun _ hm => ⟨hm, Rat.le_refl, fun j hj => by omega⟩⟩, hb⟩
  · exact gr_some b off n cap xs ys m0 w hs h5 om h0 h3 h2

end Go.Proofs.Ytpedpgpgcmhnoaa
