/-
  What each function of package poly answers, and what the reference of its chapter answers: one contract a function, for every float: the answer stands in the relation of its formula to what was given; of the memory that was there nothing has turned.
-/
import Derived.Test.YtfjlonnmhioleaaVec
import Derived.Test.YtfjlonnmhioleaaJd
import Derived.Below
import Derived.WalkKit
import Derived.WalkLawsBesides
import Derived.WalkSpells
import Derived.ProofKit
import Derived.OpenShut
import Derived.Deep.RegionHeld3
namespace Go.Proofs.Ytfjlonnmhioleaa
open Go.ChangeShapes Go.WideShapes Go.ChangeAt Go.RowKit
set_option linter.unusedVariables false
set_option linter.unusedSimpArgs false


theorem lt_not {a c : Nat} (h : nanK .f64 a = false) (g : nanK .f64 c = false) : ltK .f64 a c = !leK .f64 c a := by
  unfold ltK leK
  rw [h, g, Bool.eq_iff_iff]
  simp
theorem wk_nan {a : Nat} (h : wk a = true) : nanK .f64 a = false := by
  unfold wk withinK leK at h
  simp at h
  exact h.1.1.2
theorem rg_nan {a : Nat} (h : nanK .f64 a = false) : nanK .f64 (rgK .f64 a) = false := by
  rw [nanK_eq] at h ⊢
  rw [rg64, rg64] at *
  rw [Nat.mod_mod]
  exact h
set_option maxRecDepth 100000 in
set_option maxHeartbeats 4000000 in
theorem rcheck_j (kq sa ua sb ub : Int) (ax ay bx b_y ux uy rs rt : Nat) (mo : Bool) (sp mt : Nat) (li : Bool) (lo hi p0 p1 p2 : Nat) (w : World) (oax : okK .f64 ax) (oay : okK .f64 ay) (obx : okK .f64 bx) (ob_y : okK .f64 b_y) (oux : okK .f64 ux) (ouy : okK .f64 uy) (ors : okK .f64 rs) (ort : okK .f64 rt) (osp : okK .f64 sp) (omt : okK .f64 mt) (olo : okK .f64 lo) (ohi : okK .f64 hi) (op0 : okK .f64 p0) (op1 : okK .f64 p1) (op2 : okK .f64 p2) : Calls Try.prog 6 #[.agg #[.int .u8 kq, .int .u32 sa, .int .u32 ua, .int .u32 sb, .int .u32 ub, .float .f64 ax, .float .f64 ay, .float .f64 bx, .float .f64 b_y, .float .f64 ux, .float .f64 uy, .float .f64 rs, .float .f64 rt, .bool mo, .float .f64 sp, .float .f64 mt, .bool li, .float .f64 lo, .float .f64 hi, .float .f64 p0, .float .f64 p1, .float .f64 p2]] w fun e w' => e = .returned (.int .i64 (jE kq sa sb ax ay bx b_y ux uy rs rt sp mt lo hi p0 p1 p2 li)) ∧ Bel w w' := by
  have c1 := cmp_lt .f64
  have c2 := cmp_gt .f64
  have c5 := cmp_eq .f64
  have c3 := cmp_le2 .f64
  have c4 := cmp_ge2 .f64
  have B0 := bl_alloc (bl_refl w) #[.int .u8 kq, .int .u32 sa, .int .u32 ua, .int .u32 sb, .int .u32 ub, .float .f64 ax, .float .f64 ay, .float .f64 bx, .float .f64 b_y, .float .f64 ux, .float .f64 uy, .float .f64 rs, .float .f64 rt, .bool mo, .float .f64 sp, .float .f64 mt, .bool li, .float .f64 lo, .float .f64 hi, .float .f64 p0, .float .f64 p1, .float .f64 p2] 30
  by_cases hA : kq < 1
  · have e : (jE kq sa sb ax ay bx b_y ux uy rs rt sp mt lo hi p0 p1 p2 li) = 190 := by unfold jE; rw [if_pos (.inl (.inl hA))]
    go_enter Try.func6, Try.ntmps6
    go_wp2
    go_ret
    exact ⟨by first | rfl | (rw [e]; rfl), by repeat (first | exact bl_refl _ | assumption | apply bl_drewN | apply bl_drew | apply bl_alloc | refine bl_set ?_ (by simp <;> omega) | refine bl_trans ?_ (by assumption))⟩
  by_cases hB : 5 < kq
  · have e : (jE kq sa sb ax ay bx b_y ux uy rs rt sp mt lo hi p0 p1 p2 li) = 190 := by unfold jE; rw [if_pos (.inl (.inr hB))]
    go_enter Try.func6, Try.ntmps6
    go_wp2
    go_ret
    exact ⟨by first | rfl | (rw [e]; rfl), by repeat (first | exact bl_refl _ | assumption | apply bl_drewN | apply bl_drew | apply bl_alloc | refine bl_set ?_ (by simp <;> omega) | refine bl_trans ?_ (by assumption))⟩
  by_cases hs : sa = sb
  · have e : (jE kq sa sb ax ay bx b_y ux uy rs rt sp mt lo hi p0 p1 p2 li) = 190 := by unfold jE; rw [if_pos (.inr hs)]
    have hsb : (sa == sb) = true := by simp [hs]
    clear hs
    go_enter Try.func6, Try.ntmps6
    go_wp2
    go_ret
    exact ⟨by first | rfl | (rw [e]; rfl), by repeat (first | exact bl_refl _ | assumption | apply bl_drewN | apply bl_drew | apply bl_alloc | refine bl_set ?_ (by simp <;> omega) | refine bl_trans ?_ (by assumption))⟩
  have hK : ¬ ((kq < 1 ∨ 5 < kq) ∨ sa = sb) := by omega
  have hsb : (sa == sb) = false := by simp [hs]
  go_enter Try.func6, Try.ntmps6
  repeat (first | go_values | go_skip | go_guarded | go_step | go_upon | go_back | dsimp only)
  refine wp_loop_rounds 16 ?_
  rw [rounds_succ]
  cases g0 : wk ax
  · have e : (jE kq sa sb ax ay bx b_y ux uy rs rt sp mt lo hi p0 p1 p2 li) = 5 := by unfold jE; rw [if_neg hK, if_pos (by simp [jR, g0])]
    repeat (first | (go_at_call 12; refine (real_j _ _ oax).mono ?_; rintro e w' ⟨rfl, rfl⟩; rw [g0]) | go_values | go_skip | go_guarded | go_step | go_upon | go_back | dsimp only)
    go_ret
    refine ⟨by rw [e]; rfl, ?_⟩
    repeat (first | exact bl_refl _ | assumption | apply bl_drewN | apply bl_drew | apply bl_alloc | refine bl_set ?_ (by simp <;> omega) | refine bl_trans ?_ (by assumption))
  repeat (first | (go_at_call 12; refine (real_j _ _ oax).mono ?_; rintro e w' ⟨rfl, rfl⟩; rw [g0]) | go_values | go_skip | go_guarded | go_step | go_upon | go_back | dsimp only)
  rw [rounds_succ]
  cases g1 : wk ay
  · have e : (jE kq sa sb ax ay bx b_y ux uy rs rt sp mt lo hi p0 p1 p2 li) = 5 := by unfold jE; rw [if_neg hK, if_pos (by simp [jR, g1])]
    repeat (first | (go_at_call 12; refine (real_j _ _ oay).mono ?_; rintro e w' ⟨rfl, rfl⟩; rw [g1]) | go_values | go_skip | go_guarded | go_step | go_upon | go_back | dsimp only)
    go_ret
    refine ⟨by rw [e]; rfl, ?_⟩
    repeat (first | exact bl_refl _ | assumption | apply bl_drewN | apply bl_drew | apply bl_alloc | refine bl_set ?_ (by simp <;> omega) | refine bl_trans ?_ (by assumption))
  repeat (first | (go_at_call 12; refine (real_j _ _ oay).mono ?_; rintro e w' ⟨rfl, rfl⟩; rw [g1]) | go_values | go_skip | go_guarded | go_step | go_upon | go_back | dsimp only)
  rw [rounds_succ]
  cases g2 : wk bx
  · have e : (jE kq sa sb ax ay bx b_y ux uy rs rt sp mt lo hi p0 p1 p2 li) = 5 := by unfold jE; rw [if_neg hK, if_pos (by simp [jR, g2])]
    repeat (first | (go_at_call 12; refine (real_j _ _ obx).mono ?_; rintro e w' ⟨rfl, rfl⟩; rw [g2]) | go_values | go_skip | go_guarded | go_step | go_upon | go_back | dsimp only)
    go_ret
    refine ⟨by rw [e]; rfl, ?_⟩
    repeat (first | exact bl_refl _ | assumption | apply bl_drewN | apply bl_drew | apply bl_alloc | refine bl_set ?_ (by simp <;> omega) | refine bl_trans ?_ (by assumption))
  repeat (first | (go_at_call 12; refine (real_j _ _ obx).mono ?_; rintro e w' ⟨rfl, rfl⟩; rw [g2]) | go_values | go_skip | go_guarded | go_step | go_upon | go_back | dsimp only)
  rw [rounds_succ]
  cases g3 : wk b_y
  · have e : (jE kq sa sb ax ay bx b_y ux uy rs rt sp mt lo hi p0 p1 p2 li) = 5 := by unfold jE; rw [if_neg hK, if_pos (by simp [jR, g3])]
    repeat (first | (go_at_call 12; refine (real_j _ _ ob_y).mono ?_; rintro e w' ⟨rfl, rfl⟩; rw [g3]) | go_values | go_skip | go_guarded | go_step | go_upon | go_back | dsimp only)
    go_ret
    refine ⟨by rw [e]; rfl, ?_⟩
    repeat (first | exact bl_refl _ | assumption | apply bl_drewN | apply bl_drew | apply bl_alloc | refine bl_set ?_ (by simp <;> omega) | refine bl_trans ?_ (by assumption))
  repeat (first | (go_at_call 12; refine (real_j _ _ ob_y).mono ?_; rintro e w' ⟨rfl, rfl⟩; rw [g3]) | go_values | go_skip | go_guarded | go_step | go_upon | go_back | dsimp only)
  rw [rounds_succ]
  cases g4 : wk ux
  · have e : (jE kq sa sb ax ay bx b_y ux uy rs rt sp mt lo hi p0 p1 p2 li) = 5 := by unfold jE; rw [if_neg hK, if_pos (by simp [jR, g4])]
    repeat (first | (go_at_call 12; refine (real_j _ _ oux).mono ?_; rintro e w' ⟨rfl, rfl⟩; rw [g4]) | go_values | go_skip | go_guarded | go_step | go_upon | go_back | dsimp only)
    go_ret
    refine ⟨by rw [e]; rfl, ?_⟩
    repeat (first | exact bl_refl _ | assumption | apply bl_drewN | apply bl_drew | apply bl_alloc | refine bl_set ?_ (by simp <;> omega) | refine bl_trans ?_ (by assumption))
  repeat (first | (go_at_call 12; refine (real_j _ _ oux).mono ?_; rintro e w' ⟨rfl, rfl⟩; rw [g4]) | go_values | go_skip | go_guarded | go_step | go_upon | go_back | dsimp only)
  rw [rounds_succ]
  cases g5 : wk uy
  · have e : (jE kq sa sb ax ay bx b_y ux uy rs rt sp mt lo hi p0 p1 p2 li) = 5 := by unfold jE; rw [if_neg hK, if_pos (by simp [jR, g5])]
    repeat (first | (go_at_call 12; refine (real_j _ _ ouy).mono ?_; rintro e w' ⟨rfl, rfl⟩; rw [g5]) | go_values | go_skip | go_guarded | go_step | go_upon | go_back | dsimp only)
    go_ret
    refine ⟨by rw [e]; rfl, ?_⟩
    repeat (first | exact bl_refl _ | assumption | apply bl_drewN | apply bl_drew | apply bl_alloc | refine bl_set ?_ (by simp <;> omega) | refine bl_trans ?_ (by assumption))
  repeat (first | (go_at_call 12; refine (real_j _ _ ouy).mono ?_; rintro e w' ⟨rfl, rfl⟩; rw [g5]) | go_values | go_skip | go_guarded | go_step | go_upon | go_back | dsimp only)
  rw [rounds_succ]
  cases g6 : wk rs
  · have e : (jE kq sa sb ax ay bx b_y ux uy rs rt sp mt lo hi p0 p1 p2 li) = 5 := by unfold jE; rw [if_neg hK, if_pos (by simp [jR, g6])]
    repeat (first | (go_at_call 12; refine (real_j _ _ ors).mono ?_; rintro e w' ⟨rfl, rfl⟩; rw [g6]) | go_values | go_skip | go_guarded | go_step | go_upon | go_back | dsimp only)
    go_ret
    refine ⟨by rw [e]; rfl, ?_⟩
    repeat (first | exact bl_refl _ | assumption | apply bl_drewN | apply bl_drew | apply bl_alloc | refine bl_set ?_ (by simp <;> omega) | refine bl_trans ?_ (by assumption))
  repeat (first | (go_at_call 12; refine (real_j _ _ ors).mono ?_; rintro e w' ⟨rfl, rfl⟩; rw [g6]) | go_values | go_skip | go_guarded | go_step | go_upon | go_back | dsimp only)
  rw [rounds_succ]
  cases g7 : wk rt
  · have e : (jE kq sa sb ax ay bx b_y ux uy rs rt sp mt lo hi p0 p1 p2 li) = 5 := by unfold jE; rw [if_neg hK, if_pos (by simp [jR, g7])]
    repeat (first | (go_at_call 12; refine (real_j _ _ ort).mono ?_; rintro e w' ⟨rfl, rfl⟩; rw [g7]) | go_values | go_skip | go_guarded | go_step | go_upon | go_back | dsimp only)
    go_ret
    refine ⟨by rw [e]; rfl, ?_⟩
    repeat (first | exact bl_refl _ | assumption | apply bl_drewN | apply bl_drew | apply bl_alloc | refine bl_set ?_ (by simp <;> omega) | refine bl_trans ?_ (by assumption))
  repeat (first | (go_at_call 12; refine (real_j _ _ ort).mono ?_; rintro e w' ⟨rfl, rfl⟩; rw [g7]) | go_values | go_skip | go_guarded | go_step | go_upon | go_back | dsimp only)
  rw [rounds_succ]
  cases g8 : wk sp
  · have e : (jE kq sa sb ax ay bx b_y ux uy rs rt sp mt lo hi p0 p1 p2 li) = 5 := by unfold jE; rw [if_neg hK, if_pos (by simp [jR, g8])]
    repeat (first | (go_at_call 12; refine (real_j _ _ osp).mono ?_; rintro e w' ⟨rfl, rfl⟩; rw [g8]) | go_values | go_skip | go_guarded | go_step | go_upon | go_back | dsimp only)
    go_ret
    refine ⟨by rw [e]; rfl, ?_⟩
    repeat (first | exact bl_refl _ | assumption | apply bl_drewN | apply bl_drew | apply bl_alloc | refine bl_set ?_ (by simp <;> omega) | refine bl_trans ?_ (by assumption))
  repeat (first | (go_at_call 12; refine (real_j _ _ osp).mono ?_; rintro e w' ⟨rfl, rfl⟩; rw [g8]) | go_values | go_skip | go_guarded | go_step | go_upon | go_back | dsimp only)
  rw [rounds_succ]
  cases g9 : wk mt
  · have e : (jE kq sa sb ax ay bx b_y ux uy rs rt sp mt lo hi p0 p1 p2 li) = 5 := by unfold jE; rw [if_neg hK, if_pos (by simp [jR, g9])]
    repeat (first | (go_at_call 12; refine (real_j _ _ omt).mono ?_; rintro e w' ⟨rfl, rfl⟩; rw [g9]) | go_values | go_skip | go_guarded | go_step | go_upon | go_back | dsimp only)
    go_ret
    refine ⟨by rw [e]; rfl, ?_⟩
    repeat (first | exact bl_refl _ | assumption | apply bl_drewN | apply bl_drew | apply bl_alloc | refine bl_set ?_ (by simp <;> omega) | refine bl_trans ?_ (by assumption))
  repeat (first | (go_at_call 12; refine (real_j _ _ omt).mono ?_; rintro e w' ⟨rfl, rfl⟩; rw [g9]) | go_values | go_skip | go_guarded | go_step | go_upon | go_back | dsimp only)
  rw [rounds_succ]
  cases g10 : wk lo
  · have e : (jE kq sa sb ax ay bx b_y ux uy rs rt sp mt lo hi p0 p1 p2 li) = 5 := by unfold jE; rw [if_neg hK, if_pos (by simp [jR, g10])]
    repeat (first | (go_at_call 12; refine (real_j _ _ olo).mono ?_; rintro e w' ⟨rfl, rfl⟩; rw [g10]) | go_values | go_skip | go_guarded | go_step | go_upon | go_back | dsimp only)
    go_ret
    refine ⟨by rw [e]; rfl, ?_⟩
    repeat (first | exact bl_refl _ | assumption | apply bl_drewN | apply bl_drew | apply bl_alloc | refine bl_set ?_ (by simp <;> omega) | refine bl_trans ?_ (by assumption))
  repeat (first | (go_at_call 12; refine (real_j _ _ olo).mono ?_; rintro e w' ⟨rfl, rfl⟩; rw [g10]) | go_values | go_skip | go_guarded | go_step | go_upon | go_back | dsimp only)
  rw [rounds_succ]
  cases g11 : wk hi
  · have e : (jE kq sa sb ax ay bx b_y ux uy rs rt sp mt lo hi p0 p1 p2 li) = 5 := by unfold jE; rw [if_neg hK, if_pos (by simp [jR, g11])]
    repeat (first | (go_at_call 12; refine (real_j _ _ ohi).mono ?_; rintro e w' ⟨rfl, rfl⟩; rw [g11]) | go_values | go_skip | go_guarded | go_step | go_upon | go_back | dsimp only)
    go_ret
    refine ⟨by rw [e]; rfl, ?_⟩
    repeat (first | exact bl_refl _ | assumption | apply bl_drewN | apply bl_drew | apply bl_alloc | refine bl_set ?_ (by simp <;> omega) | refine bl_trans ?_ (by assumption))
  repeat (first | (go_at_call 12; refine (real_j _ _ ohi).mono ?_; rintro e w' ⟨rfl, rfl⟩; rw [g11]) | go_values | go_skip | go_guarded | go_step | go_upon | go_back | dsimp only)
  rw [rounds_succ]
  cases g12 : wk p0
  · have e : (jE kq sa sb ax ay bx b_y ux uy rs rt sp mt lo hi p0 p1 p2 li) = 5 := by unfold jE; rw [if_neg hK, if_pos (by simp [jR, g12])]
    repeat (first | (go_at_call 12; refine (real_j _ _ op0).mono ?_; rintro e w' ⟨rfl, rfl⟩; rw [g12]) | go_values | go_skip | go_guarded | go_step | go_upon | go_back | dsimp only)
    go_ret
    refine ⟨by rw [e]; rfl, ?_⟩
    repeat (first | exact bl_refl _ | assumption | apply bl_drewN | apply bl_drew | apply bl_alloc | refine bl_set ?_ (by simp <;> omega) | refine bl_trans ?_ (by assumption))
  repeat (first | (go_at_call 12; refine (real_j _ _ op0).mono ?_; rintro e w' ⟨rfl, rfl⟩; rw [g12]) | go_values | go_skip | go_guarded | go_step | go_upon | go_back | dsimp only)
  rw [rounds_succ]
  cases g13 : wk p1
  · have e : (jE kq sa sb ax ay bx b_y ux uy rs rt sp mt lo hi p0 p1 p2 li) = 5 := by unfold jE; rw [if_neg hK, if_pos (by simp [jR, g13])]
    repeat (first | (go_at_call 12; refine (real_j _ _ op1).mono ?_; rintro e w' ⟨rfl, rfl⟩; rw [g13]) | go_values | go_skip | go_guarded | go_step | go_upon | go_back | dsimp only)
    go_ret
    refine ⟨by rw [e]; rfl, ?_⟩
    repeat (first | exact bl_refl _ | assumption | apply bl_drewN | apply bl_drew | apply bl_alloc | refine bl_set ?_ (by simp <;> omega) | refine bl_trans ?_ (by assumption))
  repeat (first | (go_at_call 12; refine (real_j _ _ op1).mono ?_; rintro e w' ⟨rfl, rfl⟩; rw [g13]) | go_values | go_skip | go_guarded | go_step | go_upon | go_back | dsimp only)
  rw [rounds_succ]
  cases g14 : wk p2
  · have e : (jE kq sa sb ax ay bx b_y ux uy rs rt sp mt lo hi p0 p1 p2 li) = 5 := by unfold jE; rw [if_neg hK, if_pos (by simp [jR, g14])]
    repeat (first | (go_at_call 12; refine (real_j _ _ op2).mono ?_; rintro e w' ⟨rfl, rfl⟩; rw [g14]) | go_values | go_skip | go_guarded | go_step | go_upon | go_back | dsimp only)
    go_ret
    refine ⟨by rw [e]; rfl, ?_⟩
    repeat (first | exact bl_refl _ | assumption | apply bl_drewN | apply bl_drew | apply bl_alloc | refine bl_set ?_ (by simp <;> omega) | refine bl_trans ?_ (by assumption))
  repeat (first | (go_at_call 12; refine (real_j _ _ op2).mono ?_; rintro e w' ⟨rfl, rfl⟩; rw [g14]) | go_values | go_skip | go_guarded | go_step | go_upon | go_back | dsimp only)
  rw [rounds_succ]
  have hJ : (jR ax ay bx b_y ux uy rs rt sp mt lo hi p0 p1 p2) = true := by simp [jR, g0, g1, g2, g3, g4, g5, g6, g7, g8, g9, g10, g11, g12, g13, g14]
  clear g0 g1 g2 g3 g4 g5 g6 g8 g9 g10 g11 g12 g13 g14
  have hn := rg_nan (wk_nan g7)
  clear g7
  have hR : ((w.alloc (.cells #[.int .u8 kq, .int .u32 sa, .int .u32 ua, .int .u32 sb, .int .u32 ub, .float .f64 ax, .float .f64 ay, .float .f64 bx, .float .f64 b_y, .float .f64 ux, .float .f64 uy, .float .f64 rs, .float .f64 rt, .bool mo, .float .f64 sp, .float .f64 mt, .bool li, .float .f64 lo, .float .f64 hi, .float .f64 p0, .float .f64 p1, .float .f64 p2] 30)).alloc (.cells #[.float .f64 ax, .float .f64 ay, .float .f64 bx, .float .f64 b_y, .float .f64 ux, .float .f64 uy, .float .f64 rs, .float .f64 rt, .float .f64 sp, .float .f64 mt, .float .f64 lo, .float .f64 hi, .float .f64 p0, .float .f64 p1, .float .f64 p2] 25)).rangeAt w.heap.size 0 [.int .u8 kq, .int .u32 sa, .int .u32 ua, .int .u32 sb, .int .u32 ub, .float .f64 ax, .float .f64 ay, .float .f64 bx, .float .f64 b_y, .float .f64 ux, .float .f64 uy, .float .f64 rs, .float .f64 rt, .bool mo, .float .f64 sp, .float .f64 mt, .bool li, .float .f64 lo, .float .f64 hi, .float .f64 p0, .float .f64 p1, .float .f64 p2] := rng_bel (rng_new w [.int .u8 kq, .int .u32 sa, .int .u32 ua, .int .u32 sb, .int .u32 ub, .float .f64 ax, .float .f64 ay, .float .f64 bx, .float .f64 b_y, .float .f64 ux, .float .f64 uy, .float .f64 rs, .float .f64 rt, .bool mo, .float .f64 sp, .float .f64 mt, .bool li, .float .f64 lo, .float .f64 hi, .float .f64 p0, .float .f64 p1, .float .f64 p2] 30) (bl_alloc (bl_refl _) _ _)
  rcases (show kq = 1 ∨ kq = 2 ∨ kq = 3 ∨ kq = 4 ∨ kq = 5 by omega) with rfl | rfl | rfl | rfl | rfl
  · cases hmt : ltK .f64 mt 0
    · cases li
      · have e : (jE 1 sa sb ax ay bx b_y ux uy rs rt sp mt lo hi p0 p1 p2 false) = 0 := by unfold jE sndB; simp [hs, hJ, hmt]
        repeat (first | (go_at_call 13; refine (dot_j _ _ _ _ _).mono ?_; rintro e w' ⟨t, hD, rfl, hb⟩; have hR1 := rng_bel hR hb; have B := hb; have k0 : w'.cell? ⟨w.heap.size, 0, none⟩ = some (.int .u8 1) := hR1 0 _ rfl; have k11 : w'.cell? ⟨w.heap.size, 11, none⟩ = some (.float .f64 rs) := hR1 11 _ rfl; have k12 : w'.cell? ⟨w.heap.size, 12, none⟩ = some (.float .f64 rt) := hR1 12 _ rfl; have k15 : w'.cell? ⟨w.heap.size, 15, none⟩ = some (.float .f64 mt) := hR1 15 _ rfl; have k16 : w'.cell? ⟨w.heap.size, 16, none⟩ = some (.bool false) := hR1 16 _ rfl; have k17 : w'.cell? ⟨w.heap.size, 17, none⟩ = some (.float .f64 lo) := hR1 17 _ rfl; have k18 : w'.cell? ⟨w.heap.size, 18, none⟩ = some (.float .f64 hi) := hR1 18 _ rfl; clear hR hR1) | (go_at_call 14; refine (abs_any _ _ ort).mono ?_; rintro e w' ⟨rfl, rfl⟩) | go_values | go_skip | go_guarded | go_step | go_upon | go_back | dsimp only)
        go_ret
        exact ⟨by first | rfl | (rw [e]; rfl), by repeat (first | exact bl_refl _ | assumption | apply bl_drewN | apply bl_drew | apply bl_alloc | refine bl_set ?_ (by simp <;> omega) | refine bl_trans ?_ (by assumption))⟩
      · cases hlh : ltK .f64 hi lo
        · have e : (jE 1 sa sb ax ay bx b_y ux uy rs rt sp mt lo hi p0 p1 p2 true) = 0 := by unfold jE sndB; simp [hs, hJ, hmt, hlh]
          repeat (first | (go_at_call 13; refine (dot_j _ _ _ _ _).mono ?_; rintro e w' ⟨t, hD, rfl, hb⟩; have hR1 := rng_bel hR hb; have B := hb; have k0 : w'.cell? ⟨w.heap.size, 0, none⟩ = some (.int .u8 1) := hR1 0 _ rfl; have k11 : w'.cell? ⟨w.heap.size, 11, none⟩ = some (.float .f64 rs) := hR1 11 _ rfl; have k12 : w'.cell? ⟨w.heap.size, 12, none⟩ = some (.float .f64 rt) := hR1 12 _ rfl; have k15 : w'.cell? ⟨w.heap.size, 15, none⟩ = some (.float .f64 mt) := hR1 15 _ rfl; have k16 : w'.cell? ⟨w.heap.size, 16, none⟩ = some (.bool true) := hR1 16 _ rfl; have k17 : w'.cell? ⟨w.heap.size, 17, none⟩ = some (.float .f64 lo) := hR1 17 _ rfl; have k18 : w'.cell? ⟨w.heap.size, 18, none⟩ = some (.float .f64 hi) := hR1 18 _ rfl; clear hR hR1) | (go_at_call 14; refine (abs_any _ _ ort).mono ?_; rintro e w' ⟨rfl, rfl⟩) | go_values | go_skip | go_guarded | go_step | go_upon | go_back | dsimp only)
          go_ret
          exact ⟨by first | rfl | (rw [e]; rfl), by repeat (first | exact bl_refl _ | assumption | apply bl_drewN | apply bl_drew | apply bl_alloc | refine bl_set ?_ (by simp <;> omega) | refine bl_trans ?_ (by assumption))⟩
        · have e : (jE 1 sa sb ax ay bx b_y ux uy rs rt sp mt lo hi p0 p1 p2 true) = 190 := by unfold jE sndB; simp [hs, hJ, hmt, hlh]
          repeat (first | (go_at_call 13; refine (dot_j _ _ _ _ _).mono ?_; rintro e w' ⟨t, hD, rfl, hb⟩; have hR1 := rng_bel hR hb; have B := hb; have k0 : w'.cell? ⟨w.heap.size, 0, none⟩ = some (.int .u8 1) := hR1 0 _ rfl; have k11 : w'.cell? ⟨w.heap.size, 11, none⟩ = some (.float .f64 rs) := hR1 11 _ rfl; have k12 : w'.cell? ⟨w.heap.size, 12, none⟩ = some (.float .f64 rt) := hR1 12 _ rfl; have k15 : w'.cell? ⟨w.heap.size, 15, none⟩ = some (.float .f64 mt) := hR1 15 _ rfl; have k16 : w'.cell? ⟨w.heap.size, 16, none⟩ = some (.bool true) := hR1 16 _ rfl; have k17 : w'.cell? ⟨w.heap.size, 17, none⟩ = some (.float .f64 lo) := hR1 17 _ rfl; have k18 : w'.cell? ⟨w.heap.size, 18, none⟩ = some (.float .f64 hi) := hR1 18 _ rfl; clear hR hR1) | (go_at_call 14; refine (abs_any _ _ ort).mono ?_; rintro e w' ⟨rfl, rfl⟩) | go_values | go_skip | go_guarded | go_step | go_upon | go_back | dsimp only)
          go_ret
          exact ⟨by first | rfl | (rw [e]; rfl), by repeat (first | exact bl_refl _ | assumption | apply bl_drewN | apply bl_drew | apply bl_alloc | refine bl_set ?_ (by simp <;> omega) | refine bl_trans ?_ (by assumption))⟩
    · have e : (jE 1 sa sb ax ay bx b_y ux uy rs rt sp mt lo hi p0 p1 p2 li) = 190 := by unfold jE sndB; simp [hs, hJ, hmt]
      repeat (first | (go_at_call 13; refine (dot_j _ _ _ _ _).mono ?_; rintro e w' ⟨t, hD, rfl, hb⟩; have hR1 := rng_bel hR hb; have B := hb; have k0 : w'.cell? ⟨w.heap.size, 0, none⟩ = some (.int .u8 1) := hR1 0 _ rfl; have k11 : w'.cell? ⟨w.heap.size, 11, none⟩ = some (.float .f64 rs) := hR1 11 _ rfl; have k12 : w'.cell? ⟨w.heap.size, 12, none⟩ = some (.float .f64 rt) := hR1 12 _ rfl; have k15 : w'.cell? ⟨w.heap.size, 15, none⟩ = some (.float .f64 mt) := hR1 15 _ rfl; have k16 : w'.cell? ⟨w.heap.size, 16, none⟩ = some (.bool li) := hR1 16 _ rfl; have k17 : w'.cell? ⟨w.heap.size, 17, none⟩ = some (.float .f64 lo) := hR1 17 _ rfl; have k18 : w'.cell? ⟨w.heap.size, 18, none⟩ = some (.float .f64 hi) := hR1 18 _ rfl; clear hR hR1) | (go_at_call 14; refine (abs_any _ _ ort).mono ?_; rintro e w' ⟨rfl, rfl⟩) | go_values | go_skip | go_guarded | go_step | go_upon | go_back | dsimp only)
      go_ret
      exact ⟨by first | rfl | (rw [e]; rfl), by repeat (first | exact bl_refl _ | assumption | apply bl_drewN | apply bl_drew | apply bl_alloc | refine bl_set ?_ (by simp <;> omega) | refine bl_trans ?_ (by assumption))⟩
  · cases hmt : ltK .f64 mt 0
    · cases li
      · cases h5 : ltK .f64 rs 0
        · have e : (jE 2 sa sb ax ay bx b_y ux uy rs rt sp mt lo hi p0 p1 p2 false) = 0 := by unfold jE sndB; simp [hs, hJ, hmt, h5]
          repeat (first | (go_at_call 13; refine (dot_j _ _ _ _ _).mono ?_; rintro e w' ⟨t, hD, rfl, hb⟩; have hR1 := rng_bel hR hb; have B := hb; have k0 : w'.cell? ⟨w.heap.size, 0, none⟩ = some (.int .u8 2) := hR1 0 _ rfl; have k11 : w'.cell? ⟨w.heap.size, 11, none⟩ = some (.float .f64 rs) := hR1 11 _ rfl; have k12 : w'.cell? ⟨w.heap.size, 12, none⟩ = some (.float .f64 rt) := hR1 12 _ rfl; have k15 : w'.cell? ⟨w.heap.size, 15, none⟩ = some (.float .f64 mt) := hR1 15 _ rfl; have k16 : w'.cell? ⟨w.heap.size, 16, none⟩ = some (.bool false) := hR1 16 _ rfl; have k17 : w'.cell? ⟨w.heap.size, 17, none⟩ = some (.float .f64 lo) := hR1 17 _ rfl; have k18 : w'.cell? ⟨w.heap.size, 18, none⟩ = some (.float .f64 hi) := hR1 18 _ rfl; clear hR hR1) | (go_at_call 14; refine (abs_any _ _ ort).mono ?_; rintro e w' ⟨rfl, rfl⟩) | go_values | go_skip | go_guarded | go_step | go_upon | go_back | dsimp only)
          go_ret
          exact ⟨by first | rfl | (rw [e]; rfl), by repeat (first | exact bl_refl _ | assumption | apply bl_drewN | apply bl_drew | apply bl_alloc | refine bl_set ?_ (by simp <;> omega) | refine bl_trans ?_ (by assumption))⟩
        · have e : (jE 2 sa sb ax ay bx b_y ux uy rs rt sp mt lo hi p0 p1 p2 false) = 190 := by unfold jE sndB; simp [hs, hJ, hmt, h5]
          repeat (first | (go_at_call 13; refine (dot_j _ _ _ _ _).mono ?_; rintro e w' ⟨t, hD, rfl, hb⟩; have hR1 := rng_bel hR hb; have B := hb; have k0 : w'.cell? ⟨w.heap.size, 0, none⟩ = some (.int .u8 2) := hR1 0 _ rfl; have k11 : w'.cell? ⟨w.heap.size, 11, none⟩ = some (.float .f64 rs) := hR1 11 _ rfl; have k12 : w'.cell? ⟨w.heap.size, 12, none⟩ = some (.float .f64 rt) := hR1 12 _ rfl; have k15 : w'.cell? ⟨w.heap.size, 15, none⟩ = some (.float .f64 mt) := hR1 15 _ rfl; have k16 : w'.cell? ⟨w.heap.size, 16, none⟩ = some (.bool false) := hR1 16 _ rfl; have k17 : w'.cell? ⟨w.heap.size, 17, none⟩ = some (.float .f64 lo) := hR1 17 _ rfl; have k18 : w'.cell? ⟨w.heap.size, 18, none⟩ = some (.float .f64 hi) := hR1 18 _ rfl; clear hR hR1) | (go_at_call 14; refine (abs_any _ _ ort).mono ?_; rintro e w' ⟨rfl, rfl⟩) | go_values | go_skip | go_guarded | go_step | go_upon | go_back | dsimp only)
          go_ret
          exact ⟨by first | rfl | (rw [e]; rfl), by repeat (first | exact bl_refl _ | assumption | apply bl_drewN | apply bl_drew | apply bl_alloc | refine bl_set ?_ (by simp <;> omega) | refine bl_trans ?_ (by assumption))⟩
      · cases hlh : ltK .f64 hi lo
        · cases h5 : ltK .f64 rs 0
          · cases h6 : ltK .f64 lo 0
            · have e : (jE 2 sa sb ax ay bx b_y ux uy rs rt sp mt lo hi p0 p1 p2 true) = 0 := by unfold jE sndB; simp [hs, hJ, hmt, hlh, h5, h6]
              repeat (first | (go_at_call 13; refine (dot_j _ _ _ _ _).mono ?_; rintro e w' ⟨t, hD, rfl, hb⟩; have hR1 := rng_bel hR hb; have B := hb; have k0 : w'.cell? ⟨w.heap.size, 0, none⟩ = some (.int .u8 2) := hR1 0 _ rfl; have k11 : w'.cell? ⟨w.heap.size, 11, none⟩ = some (.float .f64 rs) := hR1 11 _ rfl; have k12 : w'.cell? ⟨w.heap.size, 12, none⟩ = some (.float .f64 rt) := hR1 12 _ rfl; have k15 : w'.cell? ⟨w.heap.size, 15, none⟩ = some (.float .f64 mt) := hR1 15 _ rfl; have k16 : w'.cell? ⟨w.heap.size, 16, none⟩ = some (.bool true) := hR1 16 _ rfl; have k17 : w'.cell? ⟨w.heap.size, 17, none⟩ = some (.float .f64 lo) := hR1 17 _ rfl; have k18 : w'.cell? ⟨w.heap.size, 18, none⟩ = some (.float .f64 hi) := hR1 18 _ rfl; clear hR hR1) | (go_at_call 14; refine (abs_any _ _ ort).mono ?_; rintro e w' ⟨rfl, rfl⟩) | go_values | go_skip | go_guarded | go_step | go_upon | go_back | dsimp only)
              go_ret
              exact ⟨by first | rfl | (rw [e]; rfl), by repeat (first | exact bl_refl _ | assumption | apply bl_drewN | apply bl_drew | apply bl_alloc | refine bl_set ?_ (by simp <;> omega) | refine bl_trans ?_ (by assumption))⟩
            · have e : (jE 2 sa sb ax ay bx b_y ux uy rs rt sp mt lo hi p0 p1 p2 true) = 190 := by unfold jE sndB; simp [hs, hJ, hmt, hlh, h5, h6]
              repeat (first | (go_at_call 13; refine (dot_j _ _ _ _ _).mono ?_; rintro e w' ⟨t, hD, rfl, hb⟩; have hR1 := rng_bel hR hb; have B := hb; have k0 : w'.cell? ⟨w.heap.size, 0, none⟩ = some (.int .u8 2) := hR1 0 _ rfl; have k11 : w'.cell? ⟨w.heap.size, 11, none⟩ = some (.float .f64 rs) := hR1 11 _ rfl; have k12 : w'.cell? ⟨w.heap.size, 12, none⟩ = some (.float .f64 rt) := hR1 12 _ rfl; have k15 : w'.cell? ⟨w.heap.size, 15, none⟩ = some (.float .f64 mt) := hR1 15 _ rfl; have k16 : w'.cell? ⟨w.heap.size, 16, none⟩ = some (.bool true) := hR1 16 _ rfl; have k17 : w'.cell? ⟨w.heap.size, 17, none⟩ = some (.float .f64 lo) := hR1 17 _ rfl; have k18 : w'.cell? ⟨w.heap.size, 18, none⟩ = some (.float .f64 hi) := hR1 18 _ rfl; clear hR hR1) | (go_at_call 14; refine (abs_any _ _ ort).mono ?_; rintro e w' ⟨rfl, rfl⟩) | go_values | go_skip | go_guarded | go_step | go_upon | go_back | dsimp only)
              go_ret
              exact ⟨by first | rfl | (rw [e]; rfl), by repeat (first | exact bl_refl _ | assumption | apply bl_drewN | apply bl_drew | apply bl_alloc | refine bl_set ?_ (by simp <;> omega) | refine bl_trans ?_ (by assumption))⟩
          · have e : (jE 2 sa sb ax ay bx b_y ux uy rs rt sp mt lo hi p0 p1 p2 true) = 190 := by unfold jE sndB; simp [hs, hJ, hmt, hlh, h5]
            repeat (first | (go_at_call 13; refine (dot_j _ _ _ _ _).mono ?_; rintro e w' ⟨t, hD, rfl, hb⟩; have hR1 := rng_bel hR hb; have B := hb; have k0 : w'.cell? ⟨w.heap.size, 0, none⟩ = some (.int .u8 2) := hR1 0 _ rfl; have k11 : w'.cell? ⟨w.heap.size, 11, none⟩ = some (.float .f64 rs) := hR1 11 _ rfl; have k12 : w'.cell? ⟨w.heap.size, 12, none⟩ = some (.float .f64 rt) := hR1 12 _ rfl; have k15 : w'.cell? ⟨w.heap.size, 15, none⟩ = some (.float .f64 mt) := hR1 15 _ rfl; have k16 : w'.cell? ⟨w.heap.size, 16, none⟩ = some (.bool true) := hR1 16 _ rfl; have k17 : w'.cell? ⟨w.heap.size, 17, none⟩ = some (.float .f64 lo) := hR1 17 _ rfl; have k18 : w'.cell? ⟨w.heap.size, 18, none⟩ = some (.float .f64 hi) := hR1 18 _ rfl; clear hR hR1) | (go_at_call 14; refine (abs_any _ _ ort).mono ?_; rintro e w' ⟨rfl, rfl⟩) | go_values | go_skip | go_guarded | go_step | go_upon | go_back | dsimp only)
            go_ret
            exact ⟨by first | rfl | (rw [e]; rfl), by repeat (first | exact bl_refl _ | assumption | apply bl_drewN | apply bl_drew | apply bl_alloc | refine bl_set ?_ (by simp <;> omega) | refine bl_trans ?_ (by assumption))⟩
        · have e : (jE 2 sa sb ax ay bx b_y ux uy rs rt sp mt lo hi p0 p1 p2 true) = 190 := by unfold jE sndB; simp [hs, hJ, hmt, hlh]
          repeat (first | (go_at_call 13; refine (dot_j _ _ _ _ _).mono ?_; rintro e w' ⟨t, hD, rfl, hb⟩; have hR1 := rng_bel hR hb; have B := hb; have k0 : w'.cell? ⟨w.heap.size, 0, none⟩ = some (.int .u8 2) := hR1 0 _ rfl; have k11 : w'.cell? ⟨w.heap.size, 11, none⟩ = some (.float .f64 rs) := hR1 11 _ rfl; have k12 : w'.cell? ⟨w.heap.size, 12, none⟩ = some (.float .f64 rt) := hR1 12 _ rfl; have k15 : w'.cell? ⟨w.heap.size, 15, none⟩ = some (.float .f64 mt) := hR1 15 _ rfl; have k16 : w'.cell? ⟨w.heap.size, 16, none⟩ = some (.bool true) := hR1 16 _ rfl; have k17 : w'.cell? ⟨w.heap.size, 17, none⟩ = some (.float .f64 lo) := hR1 17 _ rfl; have k18 : w'.cell? ⟨w.heap.size, 18, none⟩ = some (.float .f64 hi) := hR1 18 _ rfl; clear hR hR1) | (go_at_call 14; refine (abs_any _ _ ort).mono ?_; rintro e w' ⟨rfl, rfl⟩) | go_values | go_skip | go_guarded | go_step | go_upon | go_back | dsimp only)
          go_ret
          exact ⟨by first | rfl | (rw [e]; rfl), by repeat (first | exact bl_refl _ | assumption | apply bl_drewN | apply bl_drew | apply bl_alloc | refine bl_set ?_ (by simp <;> omega) | refine bl_trans ?_ (by assumption))⟩
    · have e : (jE 2 sa sb ax ay bx b_y ux uy rs rt sp mt lo hi p0 p1 p2 li) = 190 := by unfold jE sndB; simp [hs, hJ, hmt]
      repeat (first | (go_at_call 13; refine (dot_j _ _ _ _ _).mono ?_; rintro e w' ⟨t, hD, rfl, hb⟩; have hR1 := rng_bel hR hb; have B := hb; have k0 : w'.cell? ⟨w.heap.size, 0, none⟩ = some (.int .u8 2) := hR1 0 _ rfl; have k11 : w'.cell? ⟨w.heap.size, 11, none⟩ = some (.float .f64 rs) := hR1 11 _ rfl; have k12 : w'.cell? ⟨w.heap.size, 12, none⟩ = some (.float .f64 rt) := hR1 12 _ rfl; have k15 : w'.cell? ⟨w.heap.size, 15, none⟩ = some (.float .f64 mt) := hR1 15 _ rfl; have k16 : w'.cell? ⟨w.heap.size, 16, none⟩ = some (.bool li) := hR1 16 _ rfl; have k17 : w'.cell? ⟨w.heap.size, 17, none⟩ = some (.float .f64 lo) := hR1 17 _ rfl; have k18 : w'.cell? ⟨w.heap.size, 18, none⟩ = some (.float .f64 hi) := hR1 18 _ rfl; clear hR hR1) | (go_at_call 14; refine (abs_any _ _ ort).mono ?_; rintro e w' ⟨rfl, rfl⟩) | go_values | go_skip | go_guarded | go_step | go_upon | go_back | dsimp only)
      go_ret
      exact ⟨by first | rfl | (rw [e]; rfl), by repeat (first | exact bl_refl _ | assumption | apply bl_drewN | apply bl_drew | apply bl_alloc | refine bl_set ?_ (by simp <;> omega) | refine bl_trans ?_ (by assumption))⟩
  · cases hmt : ltK .f64 mt 0
    · cases li
      · repeat (first | go_values | go_skip | go_guarded | go_step | go_upon | go_back | dsimp only)
        refine (dot_j _ _ _ _ _).mono ?_
        rintro e w' ⟨t, hD, rfl, hb⟩
        have hR1 := rng_bel hR hb
        have B := hb
        have k0 : w'.cell? ⟨w.heap.size, 0, none⟩ = some (.int .u8 3) := hR1 0 _ rfl
        have k11 : w'.cell? ⟨w.heap.size, 11, none⟩ = some (.float .f64 rs) := hR1 11 _ rfl
        have k12 : w'.cell? ⟨w.heap.size, 12, none⟩ = some (.float .f64 rt) := hR1 12 _ rfl
        have k15 : w'.cell? ⟨w.heap.size, 15, none⟩ = some (.float .f64 mt) := hR1 15 _ rfl
        have k16 : w'.cell? ⟨w.heap.size, 16, none⟩ = some (.bool false) := hR1 16 _ rfl
        have k17 : w'.cell? ⟨w.heap.size, 17, none⟩ = some (.float .f64 lo) := hR1 17 _ rfl
        have k18 : w'.cell? ⟨w.heap.size, 18, none⟩ = some (.float .f64 hi) := hR1 18 _ rfl
        clear hR hR1
        have hrl := rl_is hD
        clear hD
        cases hq1 : leK .f64 4607182418800009216 t
        · rw [hq1, Bool.false_and] at hrl
          have e : (jE 3 sa sb ax ay bx b_y ux uy rs rt sp mt lo hi p0 p1 p2 false) = 190 := by unfold jE sndB; simp [hrl, hs, hJ, hmt]
          repeat (first | go_values | go_skip | go_guarded | go_step | go_upon | go_back | dsimp only)
          go_ret
          exact ⟨by first | rfl | (rw [e]; rfl), by repeat (first | exact bl_refl _ | assumption | apply bl_drewN | apply bl_drew | apply bl_alloc | refine bl_set ?_ (by simp <;> omega) | refine bl_trans ?_ (by assumption))⟩
        · rw [hq1, Bool.true_and] at hrl
          cases hq2 : leK .f64 t 4607182418800021504
          · rw [hq2] at hrl
            have e : (jE 3 sa sb ax ay bx b_y ux uy rs rt sp mt lo hi p0 p1 p2 false) = 190 := by unfold jE sndB; simp [hrl, hs, hJ, hmt]
            repeat (first | go_values | go_skip | go_guarded | go_step | go_upon | go_back | dsimp only)
            go_ret
            exact ⟨by first | rfl | (rw [e]; rfl), by repeat (first | exact bl_refl _ | assumption | apply bl_drewN | apply bl_drew | apply bl_alloc | refine bl_set ?_ (by simp <;> omega) | refine bl_trans ?_ (by assumption))⟩
          · rw [hq2] at hrl
            have e : (jE 3 sa sb ax ay bx b_y ux uy rs rt sp mt lo hi p0 p1 p2 false) = 0 := by unfold jE sndB; simp [hrl, hs, hJ, hmt]
            repeat (first | go_values | go_skip | go_guarded | go_step | go_upon | go_back | dsimp only)
            go_ret
            exact ⟨by first | rfl | (rw [e]; rfl), by repeat (first | exact bl_refl _ | assumption | apply bl_drewN | apply bl_drew | apply bl_alloc | refine bl_set ?_ (by simp <;> omega) | refine bl_trans ?_ (by assumption))⟩
      · cases hlh : ltK .f64 hi lo
        · repeat (first | go_values | go_skip | go_guarded | go_step | go_upon | go_back | dsimp only)
          refine (dot_j _ _ _ _ _).mono ?_
          rintro e w' ⟨t, hD, rfl, hb⟩
          have hR1 := rng_bel hR hb
          have B := hb
          have k0 : w'.cell? ⟨w.heap.size, 0, none⟩ = some (.int .u8 3) := hR1 0 _ rfl
          have k11 : w'.cell? ⟨w.heap.size, 11, none⟩ = some (.float .f64 rs) := hR1 11 _ rfl
          have k12 : w'.cell? ⟨w.heap.size, 12, none⟩ = some (.float .f64 rt) := hR1 12 _ rfl
          have k15 : w'.cell? ⟨w.heap.size, 15, none⟩ = some (.float .f64 mt) := hR1 15 _ rfl
          have k16 : w'.cell? ⟨w.heap.size, 16, none⟩ = some (.bool true) := hR1 16 _ rfl
          have k17 : w'.cell? ⟨w.heap.size, 17, none⟩ = some (.float .f64 lo) := hR1 17 _ rfl
          have k18 : w'.cell? ⟨w.heap.size, 18, none⟩ = some (.float .f64 hi) := hR1 18 _ rfl
          clear hR hR1
          have hrl := rl_is hD
          clear hD
          cases hq1 : leK .f64 4607182418800009216 t
          · rw [hq1, Bool.false_and] at hrl
            have e : (jE 3 sa sb ax ay bx b_y ux uy rs rt sp mt lo hi p0 p1 p2 true) = 190 := by unfold jE sndB; simp [hrl, hs, hJ, hmt, hlh]
            repeat (first | go_values | go_skip | go_guarded | go_step | go_upon | go_back | dsimp only)
            go_ret
            exact ⟨by first | rfl | (rw [e]; rfl), by repeat (first | exact bl_refl _ | assumption | apply bl_drewN | apply bl_drew | apply bl_alloc | refine bl_set ?_ (by simp <;> omega) | refine bl_trans ?_ (by assumption))⟩
          · rw [hq1, Bool.true_and] at hrl
            cases hq2 : leK .f64 t 4607182418800021504
            · rw [hq2] at hrl
              have e : (jE 3 sa sb ax ay bx b_y ux uy rs rt sp mt lo hi p0 p1 p2 true) = 190 := by unfold jE sndB; simp [hrl, hs, hJ, hmt, hlh]
              repeat (first | go_values | go_skip | go_guarded | go_step | go_upon | go_back | dsimp only)
              go_ret
              exact ⟨by first | rfl | (rw [e]; rfl), by repeat (first | exact bl_refl _ | assumption | apply bl_drewN | apply bl_drew | apply bl_alloc | refine bl_set ?_ (by simp <;> omega) | refine bl_trans ?_ (by assumption))⟩
            · rw [hq2] at hrl
              have e : (jE 3 sa sb ax ay bx b_y ux uy rs rt sp mt lo hi p0 p1 p2 true) = 0 := by unfold jE sndB; simp [hrl, hs, hJ, hmt, hlh]
              repeat (first | go_values | go_skip | go_guarded | go_step | go_upon | go_back | dsimp only)
              go_ret
              exact ⟨by first | rfl | (rw [e]; rfl), by repeat (first | exact bl_refl _ | assumption | apply bl_drewN | apply bl_drew | apply bl_alloc | refine bl_set ?_ (by simp <;> omega) | refine bl_trans ?_ (by assumption))⟩
        · have e : (jE 3 sa sb ax ay bx b_y ux uy rs rt sp mt lo hi p0 p1 p2 true) = 190 := by unfold jE sndB; simp [hs, hJ, hmt, hlh]
          repeat (first | (go_at_call 13; refine (dot_j _ _ _ _ _).mono ?_; rintro e w' ⟨t, hD, rfl, hb⟩; have hR1 := rng_bel hR hb; have B := hb; have k0 : w'.cell? ⟨w.heap.size, 0, none⟩ = some (.int .u8 3) := hR1 0 _ rfl; have k11 : w'.cell? ⟨w.heap.size, 11, none⟩ = some (.float .f64 rs) := hR1 11 _ rfl; have k12 : w'.cell? ⟨w.heap.size, 12, none⟩ = some (.float .f64 rt) := hR1 12 _ rfl; have k15 : w'.cell? ⟨w.heap.size, 15, none⟩ = some (.float .f64 mt) := hR1 15 _ rfl; have k16 : w'.cell? ⟨w.heap.size, 16, none⟩ = some (.bool true) := hR1 16 _ rfl; have k17 : w'.cell? ⟨w.heap.size, 17, none⟩ = some (.float .f64 lo) := hR1 17 _ rfl; have k18 : w'.cell? ⟨w.heap.size, 18, none⟩ = some (.float .f64 hi) := hR1 18 _ rfl; clear hR hR1) | (go_at_call 14; refine (abs_any _ _ ort).mono ?_; rintro e w' ⟨rfl, rfl⟩) | go_values | go_skip | go_guarded | go_step | go_upon | go_back | dsimp only)
          go_ret
          exact ⟨by first | rfl | (rw [e]; rfl), by repeat (first | exact bl_refl _ | assumption | apply bl_drewN | apply bl_drew | apply bl_alloc | refine bl_set ?_ (by simp <;> omega) | refine bl_trans ?_ (by assumption))⟩
    · have e : (jE 3 sa sb ax ay bx b_y ux uy rs rt sp mt lo hi p0 p1 p2 li) = 190 := by unfold jE sndB; simp [hs, hJ, hmt]
      repeat (first | (go_at_call 13; refine (dot_j _ _ _ _ _).mono ?_; rintro e w' ⟨t, hD, rfl, hb⟩; have hR1 := rng_bel hR hb; have B := hb; have k0 : w'.cell? ⟨w.heap.size, 0, none⟩ = some (.int .u8 3) := hR1 0 _ rfl; have k11 : w'.cell? ⟨w.heap.size, 11, none⟩ = some (.float .f64 rs) := hR1 11 _ rfl; have k12 : w'.cell? ⟨w.heap.size, 12, none⟩ = some (.float .f64 rt) := hR1 12 _ rfl; have k15 : w'.cell? ⟨w.heap.size, 15, none⟩ = some (.float .f64 mt) := hR1 15 _ rfl; have k16 : w'.cell? ⟨w.heap.size, 16, none⟩ = some (.bool li) := hR1 16 _ rfl; have k17 : w'.cell? ⟨w.heap.size, 17, none⟩ = some (.float .f64 lo) := hR1 17 _ rfl; have k18 : w'.cell? ⟨w.heap.size, 18, none⟩ = some (.float .f64 hi) := hR1 18 _ rfl; clear hR hR1) | (go_at_call 14; refine (abs_any _ _ ort).mono ?_; rintro e w' ⟨rfl, rfl⟩) | go_values | go_skip | go_guarded | go_step | go_upon | go_back | dsimp only)
      go_ret
      exact ⟨by first | rfl | (rw [e]; rfl), by repeat (first | exact bl_refl _ | assumption | apply bl_drewN | apply bl_drew | apply bl_alloc | refine bl_set ?_ (by simp <;> omega) | refine bl_trans ?_ (by assumption))⟩
  · cases hmt : ltK .f64 mt 0
    · cases li
      · have e : (jE 4 sa sb ax ay bx b_y ux uy rs rt sp mt lo hi p0 p1 p2 false) = 0 := by unfold jE sndB; simp [hs, hJ, hmt]
        repeat (first | (go_at_call 13; refine (dot_j _ _ _ _ _).mono ?_; rintro e w' ⟨t, hD, rfl, hb⟩; have hR1 := rng_bel hR hb; have B := hb; have k0 : w'.cell? ⟨w.heap.size, 0, none⟩ = some (.int .u8 4) := hR1 0 _ rfl; have k11 : w'.cell? ⟨w.heap.size, 11, none⟩ = some (.float .f64 rs) := hR1 11 _ rfl; have k12 : w'.cell? ⟨w.heap.size, 12, none⟩ = some (.float .f64 rt) := hR1 12 _ rfl; have k15 : w'.cell? ⟨w.heap.size, 15, none⟩ = some (.float .f64 mt) := hR1 15 _ rfl; have k16 : w'.cell? ⟨w.heap.size, 16, none⟩ = some (.bool false) := hR1 16 _ rfl; have k17 : w'.cell? ⟨w.heap.size, 17, none⟩ = some (.float .f64 lo) := hR1 17 _ rfl; have k18 : w'.cell? ⟨w.heap.size, 18, none⟩ = some (.float .f64 hi) := hR1 18 _ rfl; clear hR hR1) | (go_at_call 14; refine (abs_any _ _ ort).mono ?_; rintro e w' ⟨rfl, rfl⟩) | go_values | go_skip | go_guarded | go_step | go_upon | go_back | dsimp only)
        go_ret
        exact ⟨by first | rfl | (rw [e]; rfl), by repeat (first | exact bl_refl _ | assumption | apply bl_drewN | apply bl_drew | apply bl_alloc | refine bl_set ?_ (by simp <;> omega) | refine bl_trans ?_ (by assumption))⟩
      · cases hlh : ltK .f64 hi lo
        · have e : (jE 4 sa sb ax ay bx b_y ux uy rs rt sp mt lo hi p0 p1 p2 true) = 0 := by unfold jE sndB; simp [hs, hJ, hmt, hlh]
          repeat (first | (go_at_call 13; refine (dot_j _ _ _ _ _).mono ?_; rintro e w' ⟨t, hD, rfl, hb⟩; have hR1 := rng_bel hR hb; have B := hb; have k0 : w'.cell? ⟨w.heap.size, 0, none⟩ = some (.int .u8 4) := hR1 0 _ rfl; have k11 : w'.cell? ⟨w.heap.size, 11, none⟩ = some (.float .f64 rs) := hR1 11 _ rfl; have k12 : w'.cell? ⟨w.heap.size, 12, none⟩ = some (.float .f64 rt) := hR1 12 _ rfl; have k15 : w'.cell? ⟨w.heap.size, 15, none⟩ = some (.float .f64 mt) := hR1 15 _ rfl; have k16 : w'.cell? ⟨w.heap.size, 16, none⟩ = some (.bool true) := hR1 16 _ rfl; have k17 : w'.cell? ⟨w.heap.size, 17, none⟩ = some (.float .f64 lo) := hR1 17 _ rfl; have k18 : w'.cell? ⟨w.heap.size, 18, none⟩ = some (.float .f64 hi) := hR1 18 _ rfl; clear hR hR1) | (go_at_call 14; refine (abs_any _ _ ort).mono ?_; rintro e w' ⟨rfl, rfl⟩) | go_values | go_skip | go_guarded | go_step | go_upon | go_back | dsimp only)
          go_ret
          exact ⟨by first | rfl | (rw [e]; rfl), by repeat (first | exact bl_refl _ | assumption | apply bl_drewN | apply bl_drew | apply bl_alloc | refine bl_set ?_ (by simp <;> omega) | refine bl_trans ?_ (by assumption))⟩
        · have e : (jE 4 sa sb ax ay bx b_y ux uy rs rt sp mt lo hi p0 p1 p2 true) = 190 := by unfold jE sndB; simp [hs, hJ, hmt, hlh]
          repeat (first | (go_at_call 13; refine (dot_j _ _ _ _ _).mono ?_; rintro e w' ⟨t, hD, rfl, hb⟩; have hR1 := rng_bel hR hb; have B := hb; have k0 : w'.cell? ⟨w.heap.size, 0, none⟩ = some (.int .u8 4) := hR1 0 _ rfl; have k11 : w'.cell? ⟨w.heap.size, 11, none⟩ = some (.float .f64 rs) := hR1 11 _ rfl; have k12 : w'.cell? ⟨w.heap.size, 12, none⟩ = some (.float .f64 rt) := hR1 12 _ rfl; have k15 : w'.cell? ⟨w.heap.size, 15, none⟩ = some (.float .f64 mt) := hR1 15 _ rfl; have k16 : w'.cell? ⟨w.heap.size, 16, none⟩ = some (.bool true) := hR1 16 _ rfl; have k17 : w'.cell? ⟨w.heap.size, 17, none⟩ = some (.float .f64 lo) := hR1 17 _ rfl; have k18 : w'.cell? ⟨w.heap.size, 18, none⟩ = some (.float .f64 hi) := hR1 18 _ rfl; clear hR hR1) | (go_at_call 14; refine (abs_any _ _ ort).mono ?_; rintro e w' ⟨rfl, rfl⟩) | go_values | go_skip | go_guarded | go_step | go_upon | go_back | dsimp only)
          go_ret
          exact ⟨by first | rfl | (rw [e]; rfl), by repeat (first | exact bl_refl _ | assumption | apply bl_drewN | apply bl_drew | apply bl_alloc | refine bl_set ?_ (by simp <;> omega) | refine bl_trans ?_ (by assumption))⟩
    · have e : (jE 4 sa sb ax ay bx b_y ux uy rs rt sp mt lo hi p0 p1 p2 li) = 190 := by unfold jE sndB; simp [hs, hJ, hmt]
      repeat (first | (go_at_call 13; refine (dot_j _ _ _ _ _).mono ?_; rintro e w' ⟨t, hD, rfl, hb⟩; have hR1 := rng_bel hR hb; have B := hb; have k0 : w'.cell? ⟨w.heap.size, 0, none⟩ = some (.int .u8 4) := hR1 0 _ rfl; have k11 : w'.cell? ⟨w.heap.size, 11, none⟩ = some (.float .f64 rs) := hR1 11 _ rfl; have k12 : w'.cell? ⟨w.heap.size, 12, none⟩ = some (.float .f64 rt) := hR1 12 _ rfl; have k15 : w'.cell? ⟨w.heap.size, 15, none⟩ = some (.float .f64 mt) := hR1 15 _ rfl; have k16 : w'.cell? ⟨w.heap.size, 16, none⟩ = some (.bool li) := hR1 16 _ rfl; have k17 : w'.cell? ⟨w.heap.size, 17, none⟩ = some (.float .f64 lo) := hR1 17 _ rfl; have k18 : w'.cell? ⟨w.heap.size, 18, none⟩ = some (.float .f64 hi) := hR1 18 _ rfl; clear hR hR1) | (go_at_call 14; refine (abs_any _ _ ort).mono ?_; rintro e w' ⟨rfl, rfl⟩) | go_values | go_skip | go_guarded | go_step | go_upon | go_back | dsimp only)
      go_ret
      exact ⟨by first | rfl | (rw [e]; rfl), by repeat (first | exact bl_refl _ | assumption | apply bl_drewN | apply bl_drew | apply bl_alloc | refine bl_set ?_ (by simp <;> omega) | refine bl_trans ?_ (by assumption))⟩
  · cases hmt : ltK .f64 mt 0
    · cases li
      · have hl := lt_not (c := 4472074429978902528) hn (by decide +kernel)
        cases h7 : leK .f64 4472074429978902528 (rgK .f64 rt)
        · rw [h7] at hl
          have e : (jE 5 sa sb ax ay bx b_y ux uy rs rt sp mt lo hi p0 p1 p2 false) = 190 := by unfold jE sndB; simp [hs, hJ, hmt, h7]
          repeat (first | (go_at_call 13; refine (dot_j _ _ _ _ _).mono ?_; rintro e w' ⟨t, hD, rfl, hb⟩; have hR1 := rng_bel hR hb; have B := hb; have k0 : w'.cell? ⟨w.heap.size, 0, none⟩ = some (.int .u8 5) := hR1 0 _ rfl; have k11 : w'.cell? ⟨w.heap.size, 11, none⟩ = some (.float .f64 rs) := hR1 11 _ rfl; have k12 : w'.cell? ⟨w.heap.size, 12, none⟩ = some (.float .f64 rt) := hR1 12 _ rfl; have k15 : w'.cell? ⟨w.heap.size, 15, none⟩ = some (.float .f64 mt) := hR1 15 _ rfl; have k16 : w'.cell? ⟨w.heap.size, 16, none⟩ = some (.bool false) := hR1 16 _ rfl; have k17 : w'.cell? ⟨w.heap.size, 17, none⟩ = some (.float .f64 lo) := hR1 17 _ rfl; have k18 : w'.cell? ⟨w.heap.size, 18, none⟩ = some (.float .f64 hi) := hR1 18 _ rfl; clear hR hR1) | (go_at_call 14; refine (abs_any _ _ ort).mono ?_; rintro e w' ⟨rfl, rfl⟩) | go_values | go_skip | go_guarded | go_step | go_upon | go_back | dsimp only)
          go_ret
          exact ⟨by first | rfl | (rw [e]; rfl), by repeat (first | exact bl_refl _ | assumption | apply bl_drewN | apply bl_drew | apply bl_alloc | refine bl_set ?_ (by simp <;> omega) | refine bl_trans ?_ (by assumption))⟩
        · rw [h7] at hl
          have e : (jE 5 sa sb ax ay bx b_y ux uy rs rt sp mt lo hi p0 p1 p2 false) = 0 := by unfold jE sndB; simp [hs, hJ, hmt, h7]
          repeat (first | (go_at_call 13; refine (dot_j _ _ _ _ _).mono ?_; rintro e w' ⟨t, hD, rfl, hb⟩; have hR1 := rng_bel hR hb; have B := hb; have k0 : w'.cell? ⟨w.heap.size, 0, none⟩ = some (.int .u8 5) := hR1 0 _ rfl; have k11 : w'.cell? ⟨w.heap.size, 11, none⟩ = some (.float .f64 rs) := hR1 11 _ rfl; have k12 : w'.cell? ⟨w.heap.size, 12, none⟩ = some (.float .f64 rt) := hR1 12 _ rfl; have k15 : w'.cell? ⟨w.heap.size, 15, none⟩ = some (.float .f64 mt) := hR1 15 _ rfl; have k16 : w'.cell? ⟨w.heap.size, 16, none⟩ = some (.bool false) := hR1 16 _ rfl; have k17 : w'.cell? ⟨w.heap.size, 17, none⟩ = some (.float .f64 lo) := hR1 17 _ rfl; have k18 : w'.cell? ⟨w.heap.size, 18, none⟩ = some (.float .f64 hi) := hR1 18 _ rfl; clear hR hR1) | (go_at_call 14; refine (abs_any _ _ ort).mono ?_; rintro e w' ⟨rfl, rfl⟩) | go_values | go_skip | go_guarded | go_step | go_upon | go_back | dsimp only)
          go_ret
          exact ⟨by first | rfl | (rw [e]; rfl), by repeat (first | exact bl_refl _ | assumption | apply bl_drewN | apply bl_drew | apply bl_alloc | refine bl_set ?_ (by simp <;> omega) | refine bl_trans ?_ (by assumption))⟩
      · cases hlh : ltK .f64 hi lo
        · have hl := lt_not (c := 4472074429978902528) hn (by decide +kernel)
          cases h7 : leK .f64 4472074429978902528 (rgK .f64 rt)
          · rw [h7] at hl
            have e : (jE 5 sa sb ax ay bx b_y ux uy rs rt sp mt lo hi p0 p1 p2 true) = 190 := by unfold jE sndB; simp [hs, hJ, hmt, hlh, h7]
            repeat (first | (go_at_call 13; refine (dot_j _ _ _ _ _).mono ?_; rintro e w' ⟨t, hD, rfl, hb⟩; have hR1 := rng_bel hR hb; have B := hb; have k0 : w'.cell? ⟨w.heap.size, 0, none⟩ = some (.int .u8 5) := hR1 0 _ rfl; have k11 : w'.cell? ⟨w.heap.size, 11, none⟩ = some (.float .f64 rs) := hR1 11 _ rfl; have k12 : w'.cell? ⟨w.heap.size, 12, none⟩ = some (.float .f64 rt) := hR1 12 _ rfl; have k15 : w'.cell? ⟨w.heap.size, 15, none⟩ = some (.float .f64 mt) := hR1 15 _ rfl; have k16 : w'.cell? ⟨w.heap.size, 16, none⟩ = some (.bool true) := hR1 16 _ rfl; have k17 : w'.cell? ⟨w.heap.size, 17, none⟩ = some (.float .f64 lo) := hR1 17 _ rfl; have k18 : w'.cell? ⟨w.heap.size, 18, none⟩ = some (.float .f64 hi) := hR1 18 _ rfl; clear hR hR1) | (go_at_call 14; refine (abs_any _ _ ort).mono ?_; rintro e w' ⟨rfl, rfl⟩) | go_values | go_skip | go_guarded | go_step | go_upon | go_back | dsimp only)
            go_ret
            exact ⟨by first | rfl | (rw [e]; rfl), by repeat (first | exact bl_refl _ | assumption | apply bl_drewN | apply bl_drew | apply bl_alloc | refine bl_set ?_ (by simp <;> omega) | refine bl_trans ?_ (by assumption))⟩
          · rw [h7] at hl
            have e : (jE 5 sa sb ax ay bx b_y ux uy rs rt sp mt lo hi p0 p1 p2 true) = 0 := by unfold jE sndB; simp [hs, hJ, hmt, hlh, h7]
            repeat (first | (go_at_call 13; refine (dot_j _ _ _ _ _).mono ?_; rintro e w' ⟨t, hD, rfl, hb⟩; have hR1 := rng_bel hR hb; have B := hb; have k0 : w'.cell? ⟨w.heap.size, 0, none⟩ = some (.int .u8 5) := hR1 0 _ rfl; have k11 : w'.cell? ⟨w.heap.size, 11, none⟩ = some (.float .f64 rs) := hR1 11 _ rfl; have k12 : w'.cell? ⟨w.heap.size, 12, none⟩ = some (.float .f64 rt) := hR1 12 _ rfl; have k15 : w'.cell? ⟨w.heap.size, 15, none⟩ = some (.float .f64 mt) := hR1 15 _ rfl; have k16 : w'.cell? ⟨w.heap.size, 16, none⟩ = some (.bool true) := hR1 16 _ rfl; have k17 : w'.cell? ⟨w.heap.size, 17, none⟩ = some (.float .f64 lo) := hR1 17 _ rfl; have k18 : w'.cell? ⟨w.heap.size, 18, none⟩ = some (.float .f64 hi) := hR1 18 _ rfl; clear hR hR1) | (go_at_call 14; refine (abs_any _ _ ort).mono ?_; rintro e w' ⟨rfl, rfl⟩) | go_values | go_skip | go_guarded | go_step | go_upon | go_back | dsimp only)
            go_ret
            exact ⟨by first | rfl | (rw [e]; rfl), by repeat (first | exact bl_refl _ | assumption | apply bl_drewN | apply bl_drew | apply bl_alloc | refine bl_set ?_ (by simp <;> omega) | refine bl_trans ?_ (by assumption))⟩
        · have e : (jE 5 sa sb ax ay bx b_y ux uy rs rt sp mt lo hi p0 p1 p2 true) = 190 := by unfold jE sndB; simp [hs, hJ, hmt, hlh]
          repeat (first | (go_at_call 13; refine (dot_j _ _ _ _ _).mono ?_; rintro e w' ⟨t, hD, rfl, hb⟩; have hR1 := rng_bel hR hb; have B := hb; have k0 : w'.cell? ⟨w.heap.size, 0, none⟩ = some (.int .u8 5) := hR1 0 _ rfl; have k11 : w'.cell? ⟨w.heap.size, 11, none⟩ = some (.float .f64 rs) := hR1 11 _ rfl; have k12 : w'.cell? ⟨w.heap.size, 12, none⟩ = some (.float .f64 rt) := hR1 12 _ rfl; have k15 : w'.cell? ⟨w.heap.size, 15, none⟩ = some (.float .f64 mt) := hR1 15 _ rfl; have k16 : w'.cell? ⟨w.heap.size, 16, none⟩ = some (.bool true) := hR1 16 _ rfl; have k17 : w'.cell? ⟨w.heap.size, 17, none⟩ = some (.float .f64 lo) := hR1 17 _ rfl; have k18 : w'.cell? ⟨w.heap.size, 18, none⟩ = some (.float .f64 hi) := hR1 18 _ rfl; clear hR hR1) | (go_at_call 14; refine (abs_any _ _ ort).mono ?_; rintro e w' ⟨rfl, rfl⟩) | go_values | go_skip | go_guarded | go_step | go_upon | go_back | dsimp only)
          go_ret
          exact ⟨by first | rfl | (rw [e]; rfl), by repeat (first | exact bl_refl _ | assumption | apply bl_drewN | apply bl_drew | apply bl_alloc | refine bl_set ?_ (by simp <;> omega) | refine bl_trans ?_ (by assumption))⟩
    · have e : (jE 5 sa sb ax ay bx b_y ux uy rs rt sp mt lo hi p0 p1 p2 li) = 190 := by unfold jE sndB; simp [hs, hJ, hmt]
      repeat (first | (go_at_call 13; refine (dot_j _ _ _ _ _).mono ?_; rintro e w' ⟨t, hD, rfl, hb⟩; have hR1 := rng_bel hR hb; have B := hb; have k0 : w'.cell? ⟨w.heap.size, 0, none⟩ = some (.int .u8 5) := hR1 0 _ rfl; have k11 : w'.cell? ⟨w.heap.size, 11, none⟩ = some (.float .f64 rs) := hR1 11 _ rfl; have k12 : w'.cell? ⟨w.heap.size, 12, none⟩ = some (.float .f64 rt) := hR1 12 _ rfl; have k15 : w'.cell? ⟨w.heap.size, 15, none⟩ = some (.float .f64 mt) := hR1 15 _ rfl; have k16 : w'.cell? ⟨w.heap.size, 16, none⟩ = some (.bool li) := hR1 16 _ rfl; have k17 : w'.cell? ⟨w.heap.size, 17, none⟩ = some (.float .f64 lo) := hR1 17 _ rfl; have k18 : w'.cell? ⟨w.heap.size, 18, none⟩ = some (.float .f64 hi) := hR1 18 _ rfl; clear hR hR1) | (go_at_call 14; refine (abs_any _ _ ort).mono ?_; rintro e w' ⟨rfl, rfl⟩) | go_values | go_skip | go_guarded | go_step | go_upon | go_back | dsimp only)
      go_ret
      exact ⟨by first | rfl | (rw [e]; rfl), by repeat (first | exact bl_refl _ | assumption | apply bl_drewN | apply bl_drew | apply bl_alloc | refine bl_set ?_ (by simp <;> omega) | refine bl_trans ?_ (by assumption))⟩

end Go.Proofs.Ytfjlonnmhioleaa
