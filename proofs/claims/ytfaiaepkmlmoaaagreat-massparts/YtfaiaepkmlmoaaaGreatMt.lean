/-
  What each function of package poly answers, and what the reference of its chapter answers: one contract a function, for every float: the answer stands in the relation of its formula to what was given; of the memory that was there nothing has turned.
-/
import Derived.Test.YtfaiaepkmlmoaaaGreatVec
import Derived.Test.YtfaiaepkmlmoaaaGreatMs
import Derived.Below
import Derived.WalkKit
import Derived.WalkLawsBesides
import Derived.WalkSpells
import Derived.ProofKit
import Derived.OpenShut
import Derived.Deep.RegionHeld3
namespace Go.Proofs.YtfaiaepkmlmoaaaGreat
open Go.ChangeShapes Go.WideShapes Go.ChangeAt Go.RowKit
set_option linter.unusedVariables false
set_option linter.unusedSimpArgs false


theorem okDv2 (op : BinOp) (x y : Nat) : okK .f64 (Dv op x y) := by
  cases h : (floatBits op .f64 x y).isSome
  · have hn : floatBits op .f64 x y = none := by simpa using h
    unfold Dv
    rw [hn, okK64]
    decide
  · exact okDv op h
theorem cen_ok (xs ys : Nat → Nat) (n : Nat) : okK .f64 (cenX xs ys n) ∧ okK .f64 (cenY xs ys n) := by
  unfold cenX cenY
  split
  · exact ⟨okDv2 _ _ _, okDv2 _ _ _⟩
  · constructor <;> (rw [okK64]; decide)
theorem caps_ok {fx fy tx ty r d m j x y : Nat} (h : CapsR fx fy tx ty r d m j x y) : okK .f64 x ∧ okK .f64 y := by
  obtain ⟨u, v, n, _, _, _, p, q, _, _, h1, h2⟩ := h
  exact ⟨h1.1, h2.1⟩
set_option maxRecDepth 100000 in
set_option maxHeartbeats 2000000 in
theorem rof_1 (V : Value) (xs ys : Nat → Nat) (r d : Nat) (w : World) (h : AnyS w V 1 xs ys) (hs0 : shE 1 r xs ys 1 = 0) (hd : densB d = true) : Calls Tryz.prog 16 #[.agg #[.int .u8 1, .float .f64 r, V], .float .f64 d] w fun e w' => ∃ m j x y f, OfA 1 r xs ys 1 d m j x y f ∧ e = .returned (.tuple #[.agg #[.float .f64 m, .float .f64 j, .float .f64 x, .float .f64 y], .int .i64 f]) ∧ Bel w w' := by
  have c1 := cmp_ge .f64
  have c2 := cmp_le .f64
  obtain ⟨a, cap, rfl, a2, a3, a4, a5, a6⟩ := id h
  have hA0 := h
  have d1 : leK .f64 0 d = true := by unfold densB at hd; simp only [Bool.and_eq_true] at hd; exact hd.1
  have d2 : leK .f64 d 4787326403894837248 = true := by unfold densB at hd; simp only [Bool.and_eq_true] at hd; exact hd.2
  obtain ⟨o1, o2⟩ := a5 0 (by decide)
  go_enter Tryz.func16, Tryz.ntmps16
  go_wp2_with (first | (go_at_call 35; refine (rchk7 _ 1 xs ys 1 r _ (hA0.bel (bl_alloc (bl_alloc (bl_refl w) _ _) _ _))).mono ?_; rintro e w' ⟨rfl, hb⟩; rw [hs0]; have hx := hA0.bel (bl_trans (bl_alloc (bl_alloc (bl_refl w) _ _) _ _) hb); (first | have B := bl_trans B hb | have B := bl_trans (by repeat (first | exact B | apply bl_drewN)) hb | have B := bl_trans (by repeat (first | exact B | apply bl_drewN | apply bl_drew | apply bl_alloc | refine bl_set ?_ (by simp <;> omega))) hb | have B := hb); (try clear hc hf hz); obtain ⟨hc, hf⟩ := bcell B; have hz := B.size; (try simp at hz)) | (go_at_call 37; refine (rcircle_any _ xs ys r d 1 _ hx).mono ?_; rintro e w' ⟨m1, j1, hC, rfl, hb⟩; (first | have B := bl_trans B hb | have B := bl_trans (by repeat (first | exact B | apply bl_drewN)) hb | have B := bl_trans (by repeat (first | exact B | apply bl_drewN | apply bl_drew | apply bl_alloc | refine bl_set ?_ (by simp <;> omega))) hb | have B := hb); (try clear hc hf hz); obtain ⟨hc, hf⟩ := bcell B; have hz := B.size; (try simp at hz)) | (go_at_call 36; refine (rtold_any _ _ _ _ o1 o2 _).mono ?_; rintro e w' ⟨m, j, x, y, f, hTo, rfl, hb⟩; (first | have B := bl_trans B hb | have B := bl_trans (by repeat (first | exact B | apply bl_drewN)) hb | have B := bl_trans (by repeat (first | exact B | apply bl_drewN | apply bl_drew | apply bl_alloc | refine bl_set ?_ (by simp <;> omega))) hb | have B := hb); (try clear hc hf hz); obtain ⟨hc, hf⟩ := bcell B; have hz := B.size; (try simp at hz)))
  refine bodyPost_ret (v := .tuple #[.agg #[.float .f64 m, .float .f64 j, .float .f64 x, .float .f64 y], .int .i64 f]) (by simp [hc, results, Tryz.results16, go_sem] <;> (first | exact ⟨⟨rfl, rfl, rfl, rfl⟩, rfl⟩ | exact ⟨rfl, rfl, rfl, rfl, rfl⟩ | exact ⟨rfl, rfl⟩ | rfl)) rfl ⟨_, _, _, _, _, by unfold OfA; rw [if_pos hs0, if_pos hd, if_pos rfl]; exact ⟨_, _, hC, hTo⟩, rfl, ?_⟩
  repeat (first | exact bl_refl _ | assumption | apply bl_drewN | apply bl_drew | apply bl_alloc | refine bl_set ?_ (by simp <;> omega) | refine bl_trans ?_ (by assumption))
set_option maxRecDepth 100000 in
set_option maxHeartbeats 2000000 in
theorem rof_2 (V : Value) (xs ys : Nat → Nat) (r d : Nat) (w : World) (h : AnyS w V 2 xs ys) (hs0 : shE 2 r xs ys 2 = 0) (hd : densB d = true) : Calls Tryz.prog 16 #[.agg #[.int .u8 2, .float .f64 r, V], .float .f64 d] w fun e w' => ∃ m j x y f, OfA 2 r xs ys 2 d m j x y f ∧ e = .returned (.tuple #[.agg #[.float .f64 m, .float .f64 j, .float .f64 x, .float .f64 y], .int .i64 f]) ∧ Bel w w' := by
  have c1 := cmp_ge .f64
  have c2 := cmp_le .f64
  obtain ⟨a, cap, rfl, a2, a3, a4, a5, a6⟩ := id h
  have hA0 := h
  have d1 : leK .f64 0 d = true := by unfold densB at hd; simp only [Bool.and_eq_true] at hd; exact hd.1
  have d2 : leK .f64 d 4787326403894837248 = true := by unfold densB at hd; simp only [Bool.and_eq_true] at hd; exact hd.2
  go_enter Tryz.func16, Tryz.ntmps16
  go_wp2_with (first | (go_at_call 35; refine (rchk7 _ 2 xs ys 2 r _ (hA0.bel (bl_alloc (bl_alloc (bl_refl w) _ _) _ _))).mono ?_; rintro e w' ⟨rfl, hb⟩; rw [hs0]; have hx := hA0.bel (bl_trans (bl_alloc (bl_alloc (bl_refl w) _ _) _ _) hb); (first | have B := bl_trans B hb | have B := bl_trans (by repeat (first | exact B | apply bl_drewN)) hb | have B := bl_trans (by repeat (first | exact B | apply bl_drewN | apply bl_drew | apply bl_alloc | refine bl_set ?_ (by simp <;> omega))) hb | have B := hb); (try clear hc hf hz); obtain ⟨hc, hf⟩ := bcell B; have hz := B.size; (try simp at hz)) | (go_at_call 38; refine (rcapsule_any _ xs ys r d 2 _ hx).mono ?_; rintro e w' ⟨m1, j1, x1, y1, hC, rfl, hb⟩; obtain ⟨o1, o2⟩ := caps_ok hC; (first | have B := bl_trans B hb | have B := bl_trans (by repeat (first | exact B | apply bl_drewN)) hb | have B := bl_trans (by repeat (first | exact B | apply bl_drewN | apply bl_drew | apply bl_alloc | refine bl_set ?_ (by simp <;> omega))) hb | have B := hb); (try clear hc hf hz); obtain ⟨hc, hf⟩ := bcell B; have hz := B.size; (try simp at hz)) | (go_at_call 36; refine (rtold_any _ _ _ _ o1 o2 _).mono ?_; rintro e w' ⟨m, j, x, y, f, hTo, rfl, hb⟩; (first | have B := bl_trans B hb | have B := bl_trans (by repeat (first | exact B | apply bl_drewN)) hb | have B := bl_trans (by repeat (first | exact B | apply bl_drewN | apply bl_drew | apply bl_alloc | refine bl_set ?_ (by simp <;> omega))) hb | have B := hb); (try clear hc hf hz); obtain ⟨hc, hf⟩ := bcell B; have hz := B.size; (try simp at hz)))
  refine bodyPost_ret (v := .tuple #[.agg #[.float .f64 m, .float .f64 j, .float .f64 x, .float .f64 y], .int .i64 f]) (by simp [hc, results, Tryz.results16, go_sem] <;> (first | exact ⟨⟨rfl, rfl, rfl, rfl⟩, rfl⟩ | exact ⟨rfl, rfl, rfl, rfl, rfl⟩ | exact ⟨rfl, rfl⟩ | rfl)) rfl ⟨_, _, _, _, _, by unfold OfA; rw [if_pos hs0, if_pos hd, if_neg (by decide), if_pos rfl]; exact ⟨_, _, _, _, hC, hTo⟩, rfl, ?_⟩
  repeat (first | exact bl_refl _ | assumption | apply bl_drewN | apply bl_drew | apply bl_alloc | refine bl_set ?_ (by simp <;> omega) | refine bl_trans ?_ (by assumption))
theorem rpolygon_ok (V : Value) (n : Nat) (xs ys : Nat → Nat) (r d : Nat) (w : World) (h : AnyS w V n xs ys) (hv : fanE xs ys n = 0) : Calls Tryz.prog 39 #[.agg #[.int .u8 3, .float .f64 r, V], .float .f64 d] w fun e w' => ∃ m j, 0 < n ∧ resK .mul .f64 d (areaE xs ys n) m ∧ TurnR xs ys n (cenX xs ys n) (cenY xs ys n) d j ∧ e = .returned (.tuple #[.agg #[.float .f64 m, .float .f64 j, .float .f64 (cenX xs ys n), .float .f64 (cenY xs ys n)], .int .i64 0]) ∧ Bel w w' := by
  refine (rpolygon_any V n xs ys r d w h).mono ?_
  rintro e w' ⟨m, j, x, y, f, hP, rfl, hb⟩
  rcases hP with ⟨h, _⟩ | ⟨_, hn, hm, hT, rfl, rfl, rfl⟩
  · exact absurd hv h
  · exact ⟨_, _, hn, hm, hT, rfl, hb⟩
theorem rpolygon_bad (V : Value) (n : Nat) (xs ys : Nat → Nat) (r d : Nat) (v : Int) (w : World) (h : AnyS w V n xs ys) (hv : fanE xs ys n = v) (h0 : ¬ v = 0) : Calls Tryz.prog 39 #[.agg #[.int .u8 3, .float .f64 r, V], .float .f64 d] w fun e w' => e = .returned (.tuple #[.agg #[.float .f64 0, .float .f64 0, .float .f64 0, .float .f64 0], .int .i64 v]) ∧ Bel w w' := by
  refine (rpolygon_any V n xs ys r d w h).mono ?_
  rintro e w' ⟨m, j, x, y, f, hP, rfl, hb⟩
  rcases hP with ⟨_, rfl, rfl, rfl, rfl, rfl⟩ | ⟨h, _⟩
  · exact ⟨by rw [hv], hb⟩
  · exact absurd (hv.symm.trans h) h0
set_option maxRecDepth 100000 in
set_option maxHeartbeats 2000000 in
theorem rof_3 (n : Nat) (V : Value) (xs ys : Nat → Nat) (r d : Nat) (w : World) (h : AnyS w V n xs ys) (hs0 : shE 3 r xs ys n = 0) (hd : densB d = true) : Calls Tryz.prog 16 #[.agg #[.int .u8 3, .float .f64 r, V], .float .f64 d] w fun e w' => ∃ m j x y f, OfA 3 r xs ys n d m j x y f ∧ e = .returned (.tuple #[.agg #[.float .f64 m, .float .f64 j, .float .f64 x, .float .f64 y], .int .i64 f]) ∧ Bel w w' := by
  have c1 := cmp_ge .f64
  have c2 := cmp_le .f64
  obtain ⟨a, cap, rfl, a2, a3, a4, a5, a6⟩ := id h
  have hA0 := h
  have d1 : leK .f64 0 d = true := by unfold densB at hd; simp only [Bool.and_eq_true] at hd; exact hd.1
  have d2 : leK .f64 d 4787326403894837248 = true := by unfold densB at hd; simp only [Bool.and_eq_true] at hd; exact hd.2
  obtain ⟨v, hv⟩ : ∃ v, fanE xs ys n = v := ⟨_, rfl⟩
  by_cases h0 : v = 0
  · subst h0
    obtain ⟨o1, o2⟩ := cen_ok xs ys n
    go_enter Tryz.func16, Tryz.ntmps16
    go_wp2_with (first | (go_at_call 35; refine (rchk7 _ n xs ys 3 r _ (hA0.bel (bl_alloc (bl_alloc (bl_refl w) _ _) _ _))).mono ?_; rintro e w' ⟨rfl, hb⟩; rw [hs0]; have hx := hA0.bel (bl_trans (bl_alloc (bl_alloc (bl_refl w) _ _) _ _) hb); (first | have B := bl_trans B hb | have B := bl_trans (by repeat (first | exact B | apply bl_drewN)) hb | have B := bl_trans (by repeat (first | exact B | apply bl_drewN | apply bl_drew | apply bl_alloc | refine bl_set ?_ (by simp <;> omega))) hb | have B := hb); (try clear hc hf hz); obtain ⟨hc, hf⟩ := bcell B; have hz := B.size; (try simp at hz)) | (go_at_call 39; refine (rpolygon_ok _ n xs ys r d _ hx hv).mono ?_; rintro e w_2 ⟨m1, j1, hn, hm, hT, rfl, hb⟩; (first | have B := bl_trans B hb | have B := bl_trans (by repeat (first | exact B | apply bl_drewN)) hb | have B := bl_trans (by repeat (first | exact B | apply bl_drewN | apply bl_drew | apply bl_alloc | refine bl_set ?_ (by simp <;> omega))) hb | have B := hb); (try clear hc hf hz); obtain ⟨hc, hf⟩ := bcell B; have hz := B.size; (try simp at hz)) | (go_at_call 36; refine (rtold_any _ _ _ _ o1 o2 _).mono ?_; rintro e w' ⟨m, j, x, y, f, hTo, rfl, hb⟩; (first | have B := bl_trans B hb | have B := bl_trans (by repeat (first | exact B | apply bl_drewN)) hb | have B := bl_trans (by repeat (first | exact B | apply bl_drewN | apply bl_drew | apply bl_alloc | refine bl_set ?_ (by simp <;> omega))) hb | have B := hb); (try clear hc hf hz); obtain ⟨hc, hf⟩ := bcell B; have hz := B.size; (try simp at hz)))
    refine bodyPost_ret (v := .tuple #[.agg #[.float .f64 m, .float .f64 j, .float .f64 x, .float .f64 y], .int .i64 f]) (by simp [hc, results, Tryz.results16, go_sem] <;> (first | exact ⟨⟨rfl, rfl, rfl, rfl⟩, rfl⟩ | exact ⟨rfl, rfl, rfl, rfl, rfl⟩ | exact ⟨rfl, rfl⟩ | rfl)) rfl ⟨_, _, _, _, _, by unfold OfA; rw [if_pos hs0, if_pos hd, if_neg (by decide), if_neg (by decide)]; exact .inr ⟨hv, hn, _, _, hm, hT, hTo⟩, rfl, ?_⟩
    repeat (first | exact bl_refl _ | assumption | apply bl_drewN | apply bl_drew | apply bl_alloc | refine bl_set ?_ (by simp <;> omega) | refine bl_trans ?_ (by assumption))
  · skip
    have z0_0 : (w.alloc (.cells #[.int .u8 3, .float .f64 r, .slice a n cap] 27)).cell? ⟨w.heap.size, 0, none⟩ = some (.int .u8 3) := by rw [World.cell?_alloc_new]; rfl
    replace z0_0 := up_alloc (o := .cells #[.float .f64 0, .float .f64 0, .float .f64 0, .float .f64 0] 34) z0_0
    have z0_1 : (w.alloc (.cells #[.int .u8 3, .float .f64 r, .slice a n cap] 27)).cell? ⟨w.heap.size, 1, none⟩ = some (.float .f64 r) := by rw [World.cell?_alloc_new]; rfl
    replace z0_1 := up_alloc (o := .cells #[.float .f64 0, .float .f64 0, .float .f64 0, .float .f64 0] 34) z0_1
    have z0_2 : (w.alloc (.cells #[.int .u8 3, .float .f64 r, .slice a n cap] 27)).cell? ⟨w.heap.size, 2, none⟩ = some (.slice a n cap) := by rw [World.cell?_alloc_new]; rfl
    replace z0_2 := up_alloc (o := .cells #[.float .f64 0, .float .f64 0, .float .f64 0, .float .f64 0] 34) z0_2
    have z1_0 : ((w.alloc (.cells #[.int .u8 3, .float .f64 r, .slice a n cap] 27)).alloc (.cells #[.float .f64 0, .float .f64 0, .float .f64 0, .float .f64 0] 34)).cell? ⟨w.heap.size + 1, 0, none⟩ = some (.float .f64 0) := by rw [← (show (w.alloc (.cells #[.int .u8 3, .float .f64 r, .slice a n cap] 27)).heap.size = w.heap.size + 1 by simp only [World.size_alloc]), World.cell?_alloc_new]; rfl
    have z1_1 : ((w.alloc (.cells #[.int .u8 3, .float .f64 r, .slice a n cap] 27)).alloc (.cells #[.float .f64 0, .float .f64 0, .float .f64 0, .float .f64 0] 34)).cell? ⟨w.heap.size + 1, 1, none⟩ = some (.float .f64 0) := by rw [← (show (w.alloc (.cells #[.int .u8 3, .float .f64 r, .slice a n cap] 27)).heap.size = w.heap.size + 1 by simp only [World.size_alloc]), World.cell?_alloc_new]; rfl
    have z1_2 : ((w.alloc (.cells #[.int .u8 3, .float .f64 r, .slice a n cap] 27)).alloc (.cells #[.float .f64 0, .float .f64 0, .float .f64 0, .float .f64 0] 34)).cell? ⟨w.heap.size + 1, 2, none⟩ = some (.float .f64 0) := by rw [← (show (w.alloc (.cells #[.int .u8 3, .float .f64 r, .slice a n cap] 27)).heap.size = w.heap.size + 1 by simp only [World.size_alloc]), World.cell?_alloc_new]; rfl
    have z1_3 : ((w.alloc (.cells #[.int .u8 3, .float .f64 r, .slice a n cap] 27)).alloc (.cells #[.float .f64 0, .float .f64 0, .float .f64 0, .float .f64 0] 34)).cell? ⟨w.heap.size + 1, 3, none⟩ = some (.float .f64 0) := by rw [← (show (w.alloc (.cells #[.int .u8 3, .float .f64 r, .slice a n cap] 27)).heap.size = w.heap.size + 1 by simp only [World.size_alloc]), World.cell?_alloc_new]; rfl
    have B0 : Bel w ((w.alloc (.cells #[.int .u8 3, .float .f64 r, .slice a n cap] 27)).alloc (.cells #[.float .f64 0, .float .f64 0, .float .f64 0, .float .f64 0] 34)) := bl_alloc (bl_alloc (bl_refl w) _ _) _ _
    go_enter Tryz.func16, Tryz.ntmps16
    go_wp2_with (first | (go_at_call 35; refine (rchk7 _ n xs ys 3 r _ (hA0.bel (bl_alloc (bl_alloc (bl_refl w) _ _) _ _))).mono ?_; rintro e w' ⟨rfl, hb⟩; rw [hs0]; have hx := hA0.bel (bl_trans (bl_alloc (bl_alloc (bl_refl w) _ _) _ _) hb); (first | have B := bl_trans B hb | have B := bl_trans (by repeat (first | exact B | apply bl_drewN)) hb | have B := bl_trans (by repeat (first | exact B | apply bl_drewN | apply bl_drew | apply bl_alloc | refine bl_set ?_ (by simp <;> omega))) hb | have B := hb); (try clear hc hf hz); obtain ⟨hc, hf⟩ := bcell B; have hz := B.size; (try simp at hz)) | (go_at_call 39; refine (rpolygon_bad _ n xs ys r d v _ hx hv h0).mono ?_; rintro e w_2 ⟨rfl, hb⟩; (first | have B := bl_trans B hb | have B := bl_trans (by repeat (first | exact B | apply bl_drewN)) hb | have B := bl_trans (by repeat (first | exact B | apply bl_drewN | apply bl_drew | apply bl_alloc | refine bl_set ?_ (by simp <;> omega))) hb | have B := hb); (try clear hc hf hz); obtain ⟨hc, hf⟩ := bcell B; have hz := B.size; (try simp at hz); have rr0 := up_alloc (o := .cells #[.float .f64 0, .float .f64 0, .float .f64 0, .float .f64 0] 34) (keep B z1_0); have rr1 := up_alloc (o := .cells #[.float .f64 0, .float .f64 0, .float .f64 0, .float .f64 0] 34) (keep B z1_1); have rr2 := up_alloc (o := .cells #[.float .f64 0, .float .f64 0, .float .f64 0, .float .f64 0] 34) (keep B z1_2); have rr3 := up_alloc (o := .cells #[.float .f64 0, .float .f64 0, .float .f64 0, .float .f64 0] 34) (keep B z1_3); have FF : ∀ o, w_2.frozen? ⟨w.heap.size + 1, o, none⟩ = false := fun o => ((bl_trans B0 B).2 _).trans (fresh_frozen (by omega)); have lw2 := World.block_lt_of_cell? _ _ (keep B z1_0); simp only at lw2))
    all_goals
      obtain ⟨R0, R1, R2, R3⟩ := set4_at (p := .float .f64 0) (q := .float .f64 0) (r := .float .f64 0) (s := .float .f64 0) (keep B z1_0) (keep B z1_1) (keep B z1_2) (keep B z1_3)
      replace R0 := up_alloc (o := .cells #[.float .f64 0, .float .f64 0, .float .f64 0, .float .f64 0] 34) R0
      replace R1 := up_alloc (o := .cells #[.float .f64 0, .float .f64 0, .float .f64 0, .float .f64 0] 34) R1
      replace R2 := up_alloc (o := .cells #[.float .f64 0, .float .f64 0, .float .f64 0, .float .f64 0] 34) R2
      replace R3 := up_alloc (o := .cells #[.float .f64 0, .float .f64 0, .float .f64 0, .float .f64 0] 34) R3
      refine bodyPost_ret (v := .tuple #[.agg #[.float .f64 0, .float .f64 0, .float .f64 0, .float .f64 0], .int .i64 v]) (by simp [R0, R1, R2, R3, results, Tryz.results16, go_sem] <;> (first | exact ⟨⟨rfl, rfl, rfl, rfl⟩, rfl⟩ | exact ⟨rfl, rfl, rfl, rfl, rfl⟩ | exact ⟨rfl, rfl⟩ | rfl)) rfl ⟨_, _, _, _, _, by unfold OfA; rw [if_pos hs0, if_pos hd, if_neg (by decide), if_neg (by decide)]; exact .inl ⟨by rw [hv]; exact h0, rfl, rfl, rfl, rfl, hv.symm⟩, rfl, ?_⟩
      repeat (first | exact bl_refl _ | assumption | apply bl_drewN | apply bl_drew | apply bl_alloc | refine bl_set ?_ (by simp <;> omega) | refine bl_trans ?_ (by assumption))
set_option maxRecDepth 100000 in
set_option maxHeartbeats 2000000 in
theorem rof_any (V : Value) (n : Nat) (xs ys : Nat → Nat) (k : Int) (r : Nat) (d : Nat) (w : World) (h : AnyS w V n xs ys) (hr : okK .f64 r) : Calls Tryz.prog 16 #[.agg #[.int .u8 k, .float .f64 r, V], .float .f64 d] w fun e w' => ∃ m j x y f, OfA k r xs ys n d m j x y f ∧ e = .returned (.tuple #[.agg #[.float .f64 m, .float .f64 j, .float .f64 x, .float .f64 y], .int .i64 f]) ∧ Bel w w' := by
  have c1 := cmp_ge .f64
  have c2 := cmp_le .f64
  obtain ⟨a, cap, rfl, a2, a3, a4, a5, a6⟩ := id h
  have hA0 := h
  obtain ⟨v, hs0⟩ : ∃ v, shE k r xs ys n = v := ⟨_, rfl⟩
  by_cases hv : v = 0
  · subst hv
    rcases (show (leK .f64 0 d = false) ∨ (leK .f64 0 d = true ∧ leK .f64 d 4787326403894837248 = false) ∨ (leK .f64 0 d = true ∧ leK .f64 d 4787326403894837248 = true) by cases leK .f64 0 d <;> cases leK .f64 d 4787326403894837248 <;> simp) with d1 | ⟨d1, d2⟩ | ⟨d1, d2⟩
    · have hd : ¬ densB d = true := by unfold densB; rw [d1]; simp
      go_enter Tryz.func16, Tryz.ntmps16
      go_wp2_with (first | (go_at_call 35; refine (rchk7 _ n xs ys k r _ (hA0.bel (bl_alloc (bl_alloc (bl_refl w) _ _) _ _))).mono ?_; rintro e w' ⟨rfl, hb⟩; rw [hs0]; have hx := hA0.bel (bl_trans (bl_alloc (bl_alloc (bl_refl w) _ _) _ _) hb); (first | have B := bl_trans B hb | have B := bl_trans (by repeat (first | exact B | apply bl_drewN)) hb | have B := bl_trans (by repeat (first | exact B | apply bl_drewN | apply bl_drew | apply bl_alloc | refine bl_set ?_ (by simp <;> omega))) hb | have B := hb); (try clear hc hf hz); obtain ⟨hc, hf⟩ := bcell B; have hz := B.size; (try simp at hz)))
      refine bodyPost_ret (v := .tuple #[.agg #[.float .f64 0, .float .f64 0, .float .f64 0, .float .f64 0], .int .i64 5]) (by simp [hc, results, Tryz.results16, go_sem] <;> (first | exact ⟨⟨rfl, rfl, rfl, rfl⟩, rfl⟩ | exact ⟨rfl, rfl, rfl, rfl, rfl⟩ | exact ⟨rfl, rfl⟩ | rfl)) rfl ⟨_, _, _, _, _, by unfold OfA; rw [if_pos hs0, if_neg hd]; exact ⟨⟨rfl, rfl, rfl, rfl⟩, rfl⟩, rfl, ?_⟩
      repeat (first | exact bl_refl _ | assumption | apply bl_drewN | apply bl_drew | apply bl_alloc | refine bl_set ?_ (by simp <;> omega) | refine bl_trans ?_ (by assumption))
    · have hd : ¬ densB d = true := by unfold densB; rw [d1, d2]; simp
      go_enter Tryz.func16, Tryz.ntmps16
      go_wp2_with (first | (go_at_call 35; refine (rchk7 _ n xs ys k r _ (hA0.bel (bl_alloc (bl_alloc (bl_refl w) _ _) _ _))).mono ?_; rintro e w' ⟨rfl, hb⟩; rw [hs0]; have hx := hA0.bel (bl_trans (bl_alloc (bl_alloc (bl_refl w) _ _) _ _) hb); (first | have B := bl_trans B hb | have B := bl_trans (by repeat (first | exact B | apply bl_drewN)) hb | have B := bl_trans (by repeat (first | exact B | apply bl_drewN | apply bl_drew | apply bl_alloc | refine bl_set ?_ (by simp <;> omega))) hb | have B := hb); (try clear hc hf hz); obtain ⟨hc, hf⟩ := bcell B; have hz := B.size; (try simp at hz)))
      refine bodyPost_ret (v := .tuple #[.agg #[.float .f64 0, .float .f64 0, .float .f64 0, .float .f64 0], .int .i64 5]) (by simp [hc, results, Tryz.results16, go_sem] <;> (first | exact ⟨⟨rfl, rfl, rfl, rfl⟩, rfl⟩ | exact ⟨rfl, rfl, rfl, rfl, rfl⟩ | exact ⟨rfl, rfl⟩ | rfl)) rfl ⟨_, _, _, _, _, by unfold OfA; rw [if_pos hs0, if_neg hd]; exact ⟨⟨rfl, rfl, rfl, rfl⟩, rfl⟩, rfl, ?_⟩
      repeat (first | exact bl_refl _ | assumption | apply bl_drewN | apply bl_drew | apply bl_alloc | refine bl_set ?_ (by simp <;> omega) | refine bl_trans ?_ (by assumption))
    have hd : densB d = true := by unfold densB; rw [d1, d2]; rfl
    rcases sh_some a5 hr hs0 with ⟨rfl, rfl, _⟩ | ⟨rfl, rfl, _⟩ | ⟨rfl, h3, _⟩
    · exact rof_1 _ xs ys r d w h hs0 hd
    · exact rof_2 _ xs ys r d w h hs0 hd
    · exact rof_3 n _ xs ys r d w h hs0 hd
  · go_enter Tryz.func16, Tryz.ntmps16
    go_wp2_with (first | (go_at_call 35; refine (rchk7 _ n xs ys k r _ (hA0.bel (bl_alloc (bl_alloc (bl_refl w) _ _) _ _))).mono ?_; rintro e w' ⟨rfl, hb⟩; rw [hs0]; have hx := hA0.bel (bl_trans (bl_alloc (bl_alloc (bl_refl w) _ _) _ _) hb); (first | have B := bl_trans B hb | have B := bl_trans (by repeat (first | exact B | apply bl_drewN)) hb | have B := bl_trans (by repeat (first | exact B | apply bl_drewN | apply bl_drew | apply bl_alloc | refine bl_set ?_ (by simp <;> omega))) hb | have B := hb); (try clear hc hf hz); obtain ⟨hc, hf⟩ := bcell B; have hz := B.size; (try simp at hz)))
    all_goals
      refine bodyPost_ret (v := .tuple #[.agg #[.float .f64 0, .float .f64 0, .float .f64 0, .float .f64 0], .int .i64 v]) (by simp [hc, results, Tryz.results16, go_sem] <;> (first | exact ⟨⟨rfl, rfl, rfl, rfl⟩, rfl⟩ | exact ⟨rfl, rfl, rfl, rfl, rfl⟩ | exact ⟨rfl, rfl⟩ | rfl)) rfl ⟨_, _, _, _, _, by unfold OfA; rw [if_neg (by rw [hs0]; exact hv)]; exact ⟨⟨rfl, rfl, rfl, rfl⟩, hs0.symm⟩, rfl, ?_⟩
      repeat (first | exact bl_refl _ | assumption | apply bl_drewN | apply bl_drew | apply bl_alloc | refine bl_set ?_ (by simp <;> omega) | refine bl_trans ?_ (by assumption))

end Go.Proofs.YtfaiaepkmlmoaaaGreat
