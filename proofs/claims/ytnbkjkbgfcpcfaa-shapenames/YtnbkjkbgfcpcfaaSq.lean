/-
  What each function of package poly answers, and what the reference of its chapter answers: one contract a function, for every float: the answer stands in the relation of its formula to what was given; of the memory that was there nothing has turned.
-/
import Derived.Test.YtnbkjkbgfcpcfaaVec
import Derived.Test.YtnbkjkbgfcpcfaaSp
import Derived.Test.YtnbkjkbgfcpcfaaPh
import Derived.Below
import Derived.WalkKit
import Derived.WalkLawsBesides
import Derived.WalkSpells
import Derived.ProofKit
import Derived.OpenShut
import Derived.Deep.RegionHeld3
namespace Go.Proofs.Ytnbkjkbgfcpcfaa
open Go.ChangeShapes Go.WideShapes Go.ChangeAt Go.RowKit
set_option linter.unusedVariables false
set_option linter.unusedSimpArgs false


theorem v_any (x y : Nat) (w : World) : Calls Try.prog 15 #[.float .f64 x, .float .f64 y] w fun e w' => e = .returned (.agg #[.float .f64 x, .float .f64 y]) ∧ Bel w w' := by
  go_enter Try.func15, Try.ntmps15
  go_wp2
  refine bodyPost_ret (v := .agg #[.float .f64 _, .float .f64 _]) (by simp [results, Try.results15, go_sem] <;> (first | exact ⟨rfl, rfl⟩ | rfl)) rfl ⟨rfl, ?_⟩
  repeat (first | exact bl_refl _ | assumption | apply bl_drewN | apply bl_drew | apply bl_alloc | refine bl_set ?_ (by simp <;> omega) | refine bl_trans ?_ (by assumption))
theorem any_row {w : World} {b n : Nat} {xs ys : Nat → Nat} (hn : 0 < n) (h8 : n ≤ 8) (o : Oks xs ys n) (h : Sl w b 0 n xs ys) : AnyS w (.slice (some ⟨b, 0, none⟩) n n) n xs ys :=
  ⟨_, _, rfl, Nat.le_refl _, Nat.le_trans h8 (by unfold maxLen; decide), by omega, o, .inr ⟨hn, b, 0, rfl, h⟩⟩

def circleL : List Pt := [(4607182418800017408, 4611686018427387904)]
theorem circle_laid (W : World) : Sl (W.alloc (.cells #[.float .f64 4607182418800017408, .float .f64 4611686018427387904] 36)) W.heap.size 0 1 (px circleL) (py circleL) := by
  intro i hi
  rcases (show i = 0 by omega) with rfl
  all_goals constructor <;> (rw [World.cell?_alloc_new]; rfl)
theorem circle_oks : Oks (px circleL) (py circleL) 1 := by
  intro i hi
  rcases (show i = 0 by omega) with rfl
  all_goals (constructor <;> (rw [okK64]; decide))
theorem circle_b (w : World) : Calls Try.prog 14 #[] w fun e w' => ∃ b, e = .returned (.agg #[.int .u8 1, .float .f64 4613937818241073152, .slice (some ⟨b, 0, none⟩) 1 1]) ∧ AnyS w' (.slice (some ⟨b, 0, none⟩) 1 1) 1 (px circleL) (py circleL) ∧ Bel w w' := by
  have z0_0 : (w.alloc (.cells #[.int .u8 0, .float .f64 0, .slice none 0 0] 33)).cell? ⟨w.heap.size, 0, none⟩ = some (.int .u8 0) := by rw [World.cell?_alloc_new]; rfl
  have z0_1 : (w.alloc (.cells #[.int .u8 0, .float .f64 0, .slice none 0 0] 33)).cell? ⟨w.heap.size, 1, none⟩ = some (.float .f64 0) := by rw [World.cell?_alloc_new]; rfl
  have z0_2 : (w.alloc (.cells #[.int .u8 0, .float .f64 0, .slice none 0 0] 33)).cell? ⟨w.heap.size, 2, none⟩ = some (.slice none 0 0) := by rw [World.cell?_alloc_new]; rfl
  have B0 : Bel w (w.alloc (.cells #[.int .u8 0, .float .f64 0, .slice none 0 0] 33)) := bl_alloc (bl_refl w) _ _
  go_enter Try.func14, Try.ntmps14
  go_wp2_with (first | (go_at_call 15; refine (v_any _ _ _).mono ?_; rintro e w0 ⟨rfl, hb⟩; have mm0 := True.intro; have Bc := hb; have R0 := keep hb z0_0; have R1 := keep hb z0_1; have R2 := keep hb z0_2; have LL := circle_laid w0; replace R0 := up_alloc (o := .cells #[.float .f64 4607182418800017408, .float .f64 4611686018427387904] 36) R0; replace R1 := up_alloc (o := .cells #[.float .f64 4607182418800017408, .float .f64 4611686018427387904] 36) R1; replace R2 := up_alloc (o := .cells #[.float .f64 4607182418800017408, .float .f64 4611686018427387904] 36) R2; have Bsz := Bc.size; simp only [World.size_alloc] at Bsz; replace Bc := bl_alloc (bl_trans B0 Bc) #[.float .f64 4607182418800017408, .float .f64 4611686018427387904] 36; have Z := fun o => (Bc.2 ⟨w.heap.size, o, none⟩).trans (fresh_frozen (Nat.le_refl _))))
  obtain ⟨F0, F1, F2⟩ := set3 (p := .int .u8 1) (q := .float .f64 4613937818241073152) (r := .slice (some ⟨w0.heap.size, 0, none⟩) 1 1) R0 R1 R2
  have ng : w.heap.size ≠ w0.heap.size := by have hq := Bsz; omega
  refine bodyPost_ret (v := .agg #[.int .u8 1, .float .f64 4613937818241073152, .slice (some ⟨w0.heap.size, 0, none⟩) 1 1]) (by simp [F0, F1, F2, results, Try.results14, go_sem] <;> (first | exact ⟨rfl, rfl, rfl⟩ | rfl)) rfl ⟨_, rfl, any_row (by decide) (by decide) circle_oks (((LL.far ng).far ng).far ng), bl_set (bl_set (bl_set Bc (Nat.le_refl _)) (Nat.le_refl _)) (Nat.le_refl _)⟩

def capsuleL : List Pt := [(0, 0), (4616189618054758400, 0)]
theorem capsule_laid (W : World) : Sl (W.alloc (.cells #[.float .f64 0, .float .f64 0, .float .f64 4616189618054758400, .float .f64 0] 36)) W.heap.size 0 2 (px capsuleL) (py capsuleL) := by
  intro i hi
  rcases (show i = 0 ∨ i = 1 by omega) with rfl | rfl
  all_goals constructor <;> (rw [World.cell?_alloc_new]; rfl)
theorem capsule_oks : Oks (px capsuleL) (py capsuleL) 2 := by
  intro i hi
  rcases (show i = 0 ∨ i = 1 by omega) with rfl | rfl
  all_goals (constructor <;> (rw [okK64]; decide))
theorem capsule_b (w : World) : Calls Try.prog 17 #[] w fun e w' => ∃ b, e = .returned (.agg #[.int .u8 2, .float .f64 4607182418800017408, .slice (some ⟨b, 0, none⟩) 2 2]) ∧ AnyS w' (.slice (some ⟨b, 0, none⟩) 2 2) 2 (px capsuleL) (py capsuleL) ∧ Bel w w' := by
  have z0_0 : (w.alloc (.cells #[.int .u8 0, .float .f64 0, .slice none 0 0] 33)).cell? ⟨w.heap.size, 0, none⟩ = some (.int .u8 0) := by rw [World.cell?_alloc_new]; rfl
  have z0_1 : (w.alloc (.cells #[.int .u8 0, .float .f64 0, .slice none 0 0] 33)).cell? ⟨w.heap.size, 1, none⟩ = some (.float .f64 0) := by rw [World.cell?_alloc_new]; rfl
  have z0_2 : (w.alloc (.cells #[.int .u8 0, .float .f64 0, .slice none 0 0] 33)).cell? ⟨w.heap.size, 2, none⟩ = some (.slice none 0 0) := by rw [World.cell?_alloc_new]; rfl
  have B0 : Bel w (w.alloc (.cells #[.int .u8 0, .float .f64 0, .slice none 0 0] 33)) := bl_alloc (bl_refl w) _ _
  go_enter Try.func17, Try.ntmps17
  go_wp2_with (first | (have zn := mm0; clear zn; go_at_call 15; refine (v_any _ _ _).mono ?_; rintro e w1 ⟨rfl, hb⟩; have mm1 := True.intro; replace Bc := bl_trans Bc hb; replace R0 := keep hb R0; replace R1 := keep hb R1; replace R2 := keep hb R2; have LL := capsule_laid w1; replace R0 := up_alloc (o := .cells #[.float .f64 0, .float .f64 0, .float .f64 4616189618054758400, .float .f64 0] 36) R0; replace R1 := up_alloc (o := .cells #[.float .f64 0, .float .f64 0, .float .f64 4616189618054758400, .float .f64 0] 36) R1; replace R2 := up_alloc (o := .cells #[.float .f64 0, .float .f64 0, .float .f64 4616189618054758400, .float .f64 0] 36) R2; have Bsz := Bc.size; simp only [World.size_alloc] at Bsz; replace Bc := bl_alloc (bl_trans B0 Bc) #[.float .f64 0, .float .f64 0, .float .f64 4616189618054758400, .float .f64 0] 36; have Z := fun o => (Bc.2 ⟨w.heap.size, o, none⟩).trans (fresh_frozen (Nat.le_refl _))) | (go_at_call 15; refine (v_any _ _ _).mono ?_; rintro e w0 ⟨rfl, hb⟩; have mm0 := True.intro; have Bc := hb; have R0 := keep hb z0_0; have R1 := keep hb z0_1; have R2 := keep hb z0_2))
  obtain ⟨F0, F1, F2⟩ := set3 (p := .int .u8 2) (q := .float .f64 4607182418800017408) (r := .slice (some ⟨w1.heap.size, 0, none⟩) 2 2) R0 R1 R2
  have ng : w.heap.size ≠ w1.heap.size := by have hq := Bsz; omega
  refine bodyPost_ret (v := .agg #[.int .u8 2, .float .f64 4607182418800017408, .slice (some ⟨w1.heap.size, 0, none⟩) 2 2]) (by simp [F0, F1, F2, results, Try.results17, go_sem] <;> (first | exact ⟨rfl, rfl, rfl⟩ | rfl)) rfl ⟨_, rfl, any_row (by decide) (by decide) capsule_oks (((LL.far ng).far ng).far ng), bl_set (bl_set (bl_set Bc (Nat.le_refl _)) (Nat.le_refl _)) (Nat.le_refl _)⟩

def squareL : List Pt := [(0, 0), (4611686018427387904, 0), (4611686018427387904, 4611686018427387904), (0, 4611686018427387904)]
theorem square_laid (W : World) : Sl (W.alloc (.cells #[.float .f64 0, .float .f64 0, .float .f64 4611686018427387904, .float .f64 0, .float .f64 4611686018427387904, .float .f64 4611686018427387904, .float .f64 0, .float .f64 4611686018427387904] 36)) W.heap.size 0 4 (px squareL) (py squareL) := by
  intro i hi
  rcases (show i = 0 ∨ i = 1 ∨ i = 2 ∨ i = 3 by omega) with rfl | rfl | rfl | rfl
  all_goals constructor <;> (rw [World.cell?_alloc_new]; rfl)
theorem square_oks : Oks (px squareL) (py squareL) 4 := by
  intro i hi
  rcases (show i = 0 ∨ i = 1 ∨ i = 2 ∨ i = 3 by omega) with rfl | rfl | rfl | rfl
  all_goals (constructor <;> (rw [okK64]; decide))
theorem square_b (w : World) : Calls Try.prog 13 #[] w fun e w' => ∃ b, e = .returned (.agg #[.int .u8 3, .float .f64 0, .slice (some ⟨b, 0, none⟩) 4 4]) ∧ AnyS w' (.slice (some ⟨b, 0, none⟩) 4 4) 4 (px squareL) (py squareL) ∧ Bel w w' := by
  have z0_0 : (w.alloc (.cells #[.int .u8 0, .float .f64 0, .slice none 0 0] 33)).cell? ⟨w.heap.size, 0, none⟩ = some (.int .u8 0) := by rw [World.cell?_alloc_new]; rfl
  have z0_1 : (w.alloc (.cells #[.int .u8 0, .float .f64 0, .slice none 0 0] 33)).cell? ⟨w.heap.size, 1, none⟩ = some (.float .f64 0) := by rw [World.cell?_alloc_new]; rfl
  have z0_2 : (w.alloc (.cells #[.int .u8 0, .float .f64 0, .slice none 0 0] 33)).cell? ⟨w.heap.size, 2, none⟩ = some (.slice none 0 0) := by rw [World.cell?_alloc_new]; rfl
  have B0 : Bel w (w.alloc (.cells #[.int .u8 0, .float .f64 0, .slice none 0 0] 33)) := bl_alloc (bl_refl w) _ _
  go_enter Try.func13, Try.ntmps13
  go_wp2_with (first | (have zn := mm2; clear zn; go_at_call 15; refine (v_any _ _ _).mono ?_; rintro e w3 ⟨rfl, hb⟩; have mm3 := True.intro; replace Bc := bl_trans Bc hb; replace R0 := keep hb R0; replace R1 := keep hb R1; replace R2 := keep hb R2; have LL := square_laid w3; replace R0 := up_alloc (o := .cells #[.float .f64 0, .float .f64 0, .float .f64 4611686018427387904, .float .f64 0, .float .f64 4611686018427387904, .float .f64 4611686018427387904, .float .f64 0, .float .f64 4611686018427387904] 36) R0; replace R1 := up_alloc (o := .cells #[.float .f64 0, .float .f64 0, .float .f64 4611686018427387904, .float .f64 0, .float .f64 4611686018427387904, .float .f64 4611686018427387904, .float .f64 0, .float .f64 4611686018427387904] 36) R1; replace R2 := up_alloc (o := .cells #[.float .f64 0, .float .f64 0, .float .f64 4611686018427387904, .float .f64 0, .float .f64 4611686018427387904, .float .f64 4611686018427387904, .float .f64 0, .float .f64 4611686018427387904] 36) R2; have Bsz := Bc.size; simp only [World.size_alloc] at Bsz; replace Bc := bl_alloc (bl_trans B0 Bc) #[.float .f64 0, .float .f64 0, .float .f64 4611686018427387904, .float .f64 0, .float .f64 4611686018427387904, .float .f64 4611686018427387904, .float .f64 0, .float .f64 4611686018427387904] 36; have Z := fun o => (Bc.2 ⟨w.heap.size, o, none⟩).trans (fresh_frozen (Nat.le_refl _))) | (have zn := mm1; clear zn; go_at_call 15; refine (v_any _ _ _).mono ?_; rintro e w2 ⟨rfl, hb⟩; have mm2 := True.intro; replace Bc := bl_trans Bc hb; replace R0 := keep hb R0; replace R1 := keep hb R1; replace R2 := keep hb R2) | (have zn := mm0; clear zn; go_at_call 15; refine (v_any _ _ _).mono ?_; rintro e w1 ⟨rfl, hb⟩; have mm1 := True.intro; replace Bc := bl_trans Bc hb; replace R0 := keep hb R0; replace R1 := keep hb R1; replace R2 := keep hb R2) | (go_at_call 15; refine (v_any _ _ _).mono ?_; rintro e w0 ⟨rfl, hb⟩; have mm0 := True.intro; have Bc := hb; have R0 := keep hb z0_0; have R1 := keep hb z0_1; have R2 := keep hb z0_2))
  obtain ⟨F0, F1, F2⟩ := set3 (p := .int .u8 3) (q := .float .f64 0) (r := .slice (some ⟨w3.heap.size, 0, none⟩) 4 4) R0 R1 R2
  have ng : w.heap.size ≠ w3.heap.size := by have hq := Bsz; omega
  refine bodyPost_ret (v := .agg #[.int .u8 3, .float .f64 0, .slice (some ⟨w3.heap.size, 0, none⟩) 4 4]) (by simp [F0, F1, F2, results, Try.results13, go_sem] <;> (first | exact ⟨rfl, rfl, rfl⟩ | rfl)) rfl ⟨_, rfl, any_row (by decide) (by decide) square_oks (((LL.far ng).far ng).far ng), bl_set (bl_set (bl_set Bc (Nat.le_refl _)) (Nat.le_refl _)) (Nat.le_refl _)⟩

end Go.Proofs.Ytnbkjkbgfcpcfaa
