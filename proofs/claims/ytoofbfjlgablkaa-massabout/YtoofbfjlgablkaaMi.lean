/-
  What each function of package poly answers, and what the reference of its chapter answers: one contract a function, for every float: the answer stands in the relation of its formula to what was given; of the memory that was there nothing has turned.
-/
import Derived.Test.YtoofbfjlgablkaaVec
import Derived.Test.YtoofbfjlgablkaaMh
import Derived.Laws.StructEq
import Derived.Below
import Derived.WalkKit
import Derived.WalkLawsBesides
import Derived.WalkSpells
import Derived.ProofKit
import Derived.OpenShut
import Derived.Deep.RegionHeld3
namespace Go.Proofs.Ytoofbfjlgablkaa
open Go.ChangeShapes Go.WideShapes Go.ChangeAt Go.RowKit
set_option linter.unusedVariables false
set_option linter.unusedSimpArgs false


theorem mInf_any (w : World) : Calls Try.prog 18 #[.int .i64 1] w fun e w' => e = .returned (.float .f64 9218868437227405312) ∧ w' = w := by
  have q := from_int
  go_enter Try.func18, Try.ntmps18
  go_wp2
  go_ret
  exact ⟨rfl, rfl⟩
theorem any_row8 {w : World} {b n : Nat} {xs ys : Nat → Nat} (hn : 0 < n) (h8 : n ≤ 8) (o : Oks xs ys n) (h : Sl w b 0 n xs ys) : AnyS w (.slice (some ⟨b, 0, none⟩) n n) n xs ys :=
  ⟨_, _, rfl, Nat.le_refl _, Nat.le_trans h8 (by unfold maxLen; decide), by omega, o, .inr ⟨hn, b, 0, rfl, h⟩⟩
theorem tri_laid (W : World) : Sl (W.alloc (.cells #[.float .f64 0, .float .f64 0, .float .f64 4613937818241073152, .float .f64 0, .float .f64 0, .float .f64 4613937818241073152] 26)) W.heap.size 0 3 triX triY := by
  intro i hi
  rcases (show i = 0 ∨ i = 1 ∨ i = 2 by omega) with rfl | rfl | rfl
  all_goals constructor <;> (rw [World.cell?_alloc_new]; rfl)
theorem tri_oks : Oks triX triY 3 := by
  intro i hi
  rcases (show i = 0 ∨ i = 1 ∨ i = 2 by omega) with rfl | rfl | rfl
  all_goals (constructor <;> (rw [okK64]; decide))
theorem nil_oks : Oks nX0 nX0 1 := by
  intro i hi
  constructor <;> (rw [okK64]; unfold nX0; decide)
theorem two_laid (W : World) : Ml (W.alloc (.cells #[.float .f64 4611686018427387904, .float .f64 4607182418800017408, .float .f64 0, .float .f64 0, .float .f64 4618441417868443648, .float .f64 4611686018427387904, .float .f64 4616189618054758400, .float .f64 0] 28)) W.heap.size 0 2 jM jI jX nX0 := by
  intro i hi
  rcases (show i = 0 ∨ i = 1 by omega) with rfl | rfl
  all_goals refine ⟨?_, ?_, ?_, ?_⟩ <;> (rw [World.cell?_alloc_new]; rfl)
set_option maxRecDepth 100000 in
set_option maxHeartbeats 1000000 in
theorem lpoly_any (a : Option Addr) (n cap : Nat) (w : World) : Calls Try.prog 15 #[.slice a n cap] w fun e w' => e = .returned (.agg #[.int .u8 3, .float .f64 0, .slice a n cap]) ∧ Bel w w' := by
  go_enter Try.func15, Try.ntmps15
  go_wp2
  refine bodyPost_ret (v := .agg #[.int .u8 3, .float .f64 0, .slice a n cap]) (by simp [results, Try.results15, go_sem] <;> (first | exact ⟨rfl, rfl, rfl⟩ | rfl)) rfl ⟨rfl, ?_⟩
  repeat (first | exact bl_refl _ | assumption | apply bl_drewN | apply bl_drew | apply bl_alloc | refine bl_set ?_ (by simp <;> omega) | refine bl_trans ?_ (by assumption))
theorem nil_laid (W : World) : Sl (W.alloc (.cells #[.float .f64 0, .float .f64 0] 26)) W.heap.size 0 1 nX0 nX0 := by
  intro i hi
  rcases (show i = 0 by omega) with rfl
  constructor <;> (rw [World.cell?_alloc_new]; rfl)
set_option maxRecDepth 100000 in
set_option maxHeartbeats 1000000 in
theorem lcirc_any (r : Nat) (w : World) : Calls Try.prog 16 #[.float .f64 r] w fun e w' => ∃ g, e = .returned (.agg #[.int .u8 1, .float .f64 r, .slice (some ⟨g, 0, none⟩) 1 1]) ∧ Bel w w' ∧ AnyS w' (.slice (some ⟨g, 0, none⟩) 1 1) 1 nX0 nX0 := by
  go_enter Try.func16, Try.ntmps16
  go_wp2
  refine bodyPost_ret (v := .agg #[.int .u8 1, .float .f64 r, .slice (some ⟨w.heap.size + 1, 0, none⟩) 1 1]) (by simp [results, Try.results16, go_sem] <;> (first | exact ⟨rfl, rfl, rfl⟩ | rfl)) rfl ⟨_, rfl, ?_, ?_⟩
  · repeat (first | exact bl_refl _ | assumption | apply bl_drewN | apply bl_drew | apply bl_alloc | refine bl_set ?_ (by simp <;> omega) | refine bl_trans ?_ (by assumption))
  · refine any_row8 (by decide) (by decide) nil_oks ?_
    intro i hi
    rcases (show i = 0 by omega) with rfl
    constructor <;> simp [nX0]
set_option maxRecDepth 100000 in
set_option maxHeartbeats 1000000 in
theorem of_tri (V : Value) (w : World) (h : AnyS w V 3 triX triY) : Calls Try.prog 14 #[.agg #[.int .u8 3, .float .f64 0, V], .float .f64 4611686018427387904] w fun e w' => e = .returned (.tuple #[.agg #[.float .f64 4621256167635550208, .float .f64 4621256167635550208, .float .f64 4607182418800017408, .float .f64 4607182418800017408], .int .i64 0]) ∧ Bel w w' := by
  refine (of_any V 3 triX triY 3 0 _ w h (by rw [okK64]; decide)).mono ?_
  rintro e w' ⟨m, j, x, y, f, hO, rfl, hb⟩
  obtain ⟨rfl, rfl, rfl, rfl, rfl⟩ := tri_ev hO
  exact ⟨rfl, hb⟩
set_option maxRecDepth 100000 in
set_option maxHeartbeats 1000000 in
theorem of_cir (V : Value) (w : World) (h : AnyS w V 1 nX0 nX0) : Calls Try.prog 14 #[.agg #[.int .u8 1, .float .f64 4611686018427387904, V], .float .f64 4602678819172646912] w fun e w' => e = .returned (.tuple #[.agg #[.float .f64 4618760256179416344, .float .f64 4623263855806786840, .float .f64 0, .float .f64 0], .int .i64 0]) ∧ Bel w w' := by
  refine (of_any V 1 nX0 nX0 1 _ _ w h (by rw [okK64]; decide)).mono ?_
  rintro e w' ⟨m, j, x, y, f, hO, rfl, hb⟩
  obtain ⟨rfl, rfl, rfl, rfl, rfl⟩ := cir_ev hO
  exact ⟨rfl, hb⟩
set_option maxRecDepth 100000 in
set_option maxHeartbeats 1000000 in
theorem join_two (b : Nat) (w : World) (h : Ml w b 0 2 jM jI jX nX0) : Calls Try.prog 6 #[.slice (some ⟨b, 0, none⟩) 2 2] w fun e w' => e = .returned (.tuple #[.agg #[.float .f64 4620693217682128896, .float .f64 4628293042053316608, .float .f64 4613937818241073152, .float .f64 0], .int .i64 0]) ∧ Bel w w' := by
  refine (join_some b 0 2 2 jM jI jX nX0 w h (by decide) (by decide) (by decide)).mono ?_
  rintro e w' ⟨m, j, x, y, f, hO, rfl, hb⟩
  obtain ⟨rfl, rfl, rfl, rfl, rfl⟩ := two_ev hO
  exact ⟨rfl, hb⟩
set_option maxRecDepth 100000 in
set_option maxHeartbeats 1000000 in
theorem about_al (w : World) : Calls Try.prog 11 #[.agg #[.float .f64 4611686018427387904, .float .f64 4607182418800017408, .float .f64 0, .float .f64 0], .agg #[.float .f64 4613937818241073152, .float .f64 4616189618054758400]] w fun e w' => e = .returned (.tuple #[.float .f64 4632374429215621120, .int .i64 0]) ∧ Bel w w' := by
  refine (mAbout_any _ _ _ _ _ _ w).mono ?_
  rintro e w' ⟨r, k, h, rfl, hb⟩
  obtain ⟨rfl, rfl⟩ := about_ev h
  exact ⟨rfl, hb⟩
set_option maxRecDepth 100000 in
set_option maxHeartbeats 1000000 in
theorem still_al (w : World) : Calls Try.prog 17 #[.agg #[.float .f64 4611686018427387904, .float .f64 4602678819172646912, .float .f64 0, .float .f64 0]] w fun e w' => e = .returned (.tuple #[.float .f64 4602678819172646912, .float .f64 4611686018427387904, .int .i64 0]) ∧ Bel w w' := by
  refine (mStill_any _ _ _ _ w).mono ?_
  rintro e w' ⟨a, b, k, h, rfl, hb⟩
  obtain ⟨rfl, rfl, rfl⟩ := still_ev h
  exact ⟨rfl, hb⟩
theorem al_eqs : eqK .f64 4621256167635550208 4621256167635550208 = true ∧ eqK .f64 4607182418800017408 4607182418800017408 = true ∧ eqK .f64 4618760256179416344 4618760256179416344 = true ∧ eqK .f64 4620693217682128896 4620693217682128896 = true ∧ eqK .f64 4628293042053316608 4628293042053316608 = true ∧ eqK .f64 4613937818241073152 4613937818241073152 = true ∧ eqK .f64 4632374429215621120 4632374429215621120 = true ∧ eqK .f64 4602678819172646912 4602678819172646912 = true ∧ eqK .f64 4611686018427387904 4611686018427387904 = true := by decide +kernel
theorem al_chk : mE 4607182418800017408 0 0 0 = 0 ∧ mE 9218868437227405312 0 0 0 = 80 ∧ mE 4607182418800017408 9218868437227405312 0 0 = 80 := by decide +kernel

set_option maxRecDepth 100000 in
set_option maxHeartbeats 4000000 in
theorem alive8 (w : World) : Calls Try.prog 5 #[] w fun e w' => e = .returned (.bool true) ∧ Bel w w' := by
  have c1 := cmp_eq .f64
  have q1 := fun (x y : Nat) (w : World) => run_equalIn_float Try.prog w 24 .f64 x y Try.underlying24
  have q3 := fun (d x y : Nat) (w : World) => run_equalIn_fl Try.prog w d 24 .f64 x y Try.underlying24
  have q4 := fun (x y : Nat) (w : World) => run_equalIn_fl Try.prog w 9997 24 .f64 x y Try.underlying24
  obtain ⟨e1, e2, e3, e4, e5, e6, e7, e8, e9⟩ := al_eqs
  obtain ⟨k1, k2, k3⟩ := al_chk
  go_enter Try.func5, Try.ntmps5
  go_wp2_with (first | (go_at_call 15; refine (lpoly_any _ _ _ _).mono ?_; rintro e w_1 ⟨rfl, hb⟩; have B := bl_trans (bl_alloc (bl_refl w) _ _) hb; have hA := any_row8 (by decide) (by decide) tri_oks ((tri_laid w).bel hb)) | (go_at_call 14; with_reducible refine (of_tri _ _ hA).mono ?_; rintro e w_2 ⟨rfl, hb⟩; (first | have B := bl_trans B hb | have B := bl_trans (by repeat (first | exact B | apply bl_drewN | apply bl_drew | apply bl_alloc | refine bl_set ?_ (by simp <;> omega))) hb | have B := bl_trans (bl_alloc (bl_refl w) _ _) hb)) | (go_at_call 16; refine (lcirc_any _ _).mono ?_; rintro e w_3 ⟨g, rfl, hb, hC⟩; have a0 := keep hb (a := ⟨w_2.heap.size, 0, none⟩) (by rw [World.cell?_alloc_new]; rfl); have a1 := keep hb (a := ⟨w_2.heap.size, 1, none⟩) (by rw [World.cell?_alloc_new]; rfl); have a2 := keep hb (a := ⟨w_2.heap.size, 2, none⟩) (by rw [World.cell?_alloc_new]; rfl); have a3 := keep hb (a := ⟨w_2.heap.size, 3, none⟩) (by rw [World.cell?_alloc_new]; rfl); (first | have B := bl_trans B hb | have B := bl_trans (by repeat (first | exact B | apply bl_drewN | apply bl_drew | apply bl_alloc | refine bl_set ?_ (by simp <;> omega))) hb | have B := bl_trans (bl_alloc (bl_refl w) _ _) hb)) | (go_at_call 14; with_reducible refine (of_cir _ _ hC).mono ?_; rintro e w_4 ⟨rfl, hb⟩; replace a0 := keep hb a0; replace a1 := keep hb a1; replace a2 := keep hb a2; replace a3 := keep hb a3; (first | have B := bl_trans B hb | have B := bl_trans (by repeat (first | exact B | apply bl_drewN | apply bl_drew | apply bl_alloc | refine bl_set ?_ (by simp <;> omega))) hb | have B := bl_trans (bl_alloc (bl_refl w) _ _) hb); have hJ := two_laid (w_4.alloc (.cells #[.float .f64 4618760256179416344, .float .f64 4623263855806786840, .float .f64 0, .float .f64 0] 28)); rw [World.size_alloc] at hJ) | (go_at_call 6; refine (join_two _ _ hJ).mono ?_; rintro e w_5 ⟨rfl, hb⟩; have b0 := keep hb (up_alloc (a := ⟨w_4.heap.size, 0, none⟩) (by rw [World.cell?_alloc_new]; rfl)); have b1 := keep hb (up_alloc (a := ⟨w_4.heap.size, 1, none⟩) (by rw [World.cell?_alloc_new]; rfl)); have b2 := keep hb (up_alloc (a := ⟨w_4.heap.size, 2, none⟩) (by rw [World.cell?_alloc_new]; rfl)); have b3 := keep hb (up_alloc (a := ⟨w_4.heap.size, 3, none⟩) (by rw [World.cell?_alloc_new]; rfl)); replace a0 := keep hb (up_alloc (up_alloc a0)); replace a1 := keep hb (up_alloc (up_alloc a1)); replace a2 := keep hb (up_alloc (up_alloc a2)); replace a3 := keep hb (up_alloc (up_alloc a3)); (first | have B := bl_trans B hb | have B := bl_trans (by repeat (first | exact B | apply bl_drewN | apply bl_drew | apply bl_alloc | refine bl_set ?_ (by simp <;> omega))) hb | have B := bl_trans (bl_alloc (bl_refl w) _ _) hb)) | (go_at_call 11; refine (about_al _).mono ?_; rintro e w_6 ⟨rfl, hb⟩; have c0 := keep hb (a := ⟨w_5.heap.size, 0, none⟩) (by rw [World.cell?_alloc_new]; rfl); have c1 := keep hb (a := ⟨w_5.heap.size, 1, none⟩) (by rw [World.cell?_alloc_new]; rfl); have c2 := keep hb (a := ⟨w_5.heap.size, 2, none⟩) (by rw [World.cell?_alloc_new]; rfl); have c3 := keep hb (a := ⟨w_5.heap.size, 3, none⟩) (by rw [World.cell?_alloc_new]; rfl); replace a0 := keep hb (up_alloc a0); replace a1 := keep hb (up_alloc a1); replace a2 := keep hb (up_alloc a2); replace a3 := keep hb (up_alloc a3); replace b0 := keep hb (up_alloc b0); replace b1 := keep hb (up_alloc b1); replace b2 := keep hb (up_alloc b2); replace b3 := keep hb (up_alloc b3); (first | have B := bl_trans B hb | have B := bl_trans (by repeat (first | exact B | apply bl_drewN | apply bl_drew | apply bl_alloc | refine bl_set ?_ (by simp <;> omega))) hb | have B := bl_trans (bl_alloc (bl_refl w) _ _) hb)) | (go_at_call 17; refine (still_al _).mono ?_; rintro e w_7 ⟨rfl, hb⟩; replace a0 := keep hb a0; replace a1 := keep hb a1; replace a2 := keep hb a2; replace a3 := keep hb a3; replace b0 := keep hb b0; replace b1 := keep hb b1; replace b2 := keep hb b2; replace b3 := keep hb b3; replace c0 := keep hb c0; replace c1 := keep hb c1; replace c2 := keep hb c2; replace c3 := keep hb c3; (first | have B := bl_trans B hb | have B := bl_trans (by repeat (first | exact B | apply bl_drewN | apply bl_drew | apply bl_alloc | refine bl_set ?_ (by simp <;> omega))) hb | have B := bl_trans (bl_alloc (bl_refl w) _ _) hb)) | (go_at_call 10; refine (mChk_any _ _ _ _ _).mono ?_; rintro e w_8 ⟨rfl, hb⟩; (first | rw [k1] | rw [k2] | rw [k3]); replace a0 := keep hb a0; replace a1 := keep hb a1; replace a2 := keep hb a2; replace a3 := keep hb a3; replace b0 := keep hb b0; replace b1 := keep hb b1; replace b2 := keep hb b2; replace b3 := keep hb b3; replace c0 := keep hb c0; replace c1 := keep hb c1; replace c2 := keep hb c2; replace c3 := keep hb c3; (first | have B := bl_trans B hb | have B := bl_trans (by repeat (first | exact B | apply bl_drewN | apply bl_drew | apply bl_alloc | refine bl_set ?_ (by simp <;> omega))) hb | have B := bl_trans (bl_alloc (bl_refl w) _ _) hb)) | (go_at_call 18; refine (mInf_any _).mono ?_; rintro e w' ⟨rfl, rfl⟩))
  go_ret
  refine ⟨rfl, ?_⟩
  repeat (first | exact bl_refl _ | assumption | apply bl_drewN | apply bl_drew | apply bl_alloc | refine bl_set ?_ (by simp <;> omega) | refine bl_trans ?_ (by assumption))

end Go.Proofs.Ytoofbfjlgablkaa
