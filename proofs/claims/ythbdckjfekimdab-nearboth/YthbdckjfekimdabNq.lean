/-
  What each function of package poly answers, and what the reference of its chapter answers: one contract a function, for every float: the answer stands in the relation of its formula to what was given; of the memory that was there nothing has turned.
-/
import Derived.Test.YthbdckjfekimdabVec
import Derived.Test.YthbdckjfekimdabNp
import Derived.Test.YthbdckjfekimdabNi
import Derived.Below
import Derived.WalkKit
import Derived.WalkLawsBesides
import Derived.WalkSpells
import Derived.ProofKit
import Derived.OpenShut
import Derived.Deep.RegionHeld3
namespace Go.Proofs.Ythbdckjfekimdab
open Go.ChangeShapes Go.WideShapes Go.ChangeAt Go.RowKit
set_option linter.unusedVariables false
set_option linter.unusedSimpArgs false


theorem isF_c {r q : Nat} (h : isF r q) (hn : nanK .f64 q = false) : r = q := by
  have e := h.2
  unfold bitsK at e
  split at e
  · rw [← e] at hn
    exact absurd hn (by decide +kernel)
  · exact e
theorem isP_c {x y : Nat} {p : Vp} (h : isP x y p) (h1 : nanK .f64 p.1 = false) (h2 : nanK .f64 p.2 = false) : x = p.1 ∧ y = p.2 := by
  obtain ⟨a, b, c⟩ := h
  exact ⟨isF_c ⟨a, by rw [← c]; rfl⟩ h1, isF_c ⟨b, by rw [← c]; rfl⟩ h2⟩
theorem isN_eq {f x y u v : Nat} {N M : Nr} (h : isN f x y u v N) (e : N = M) : isN f x y u v M := e ▸ h
theorem v10 (x y : Nat) (w : World) : Calls Try.prog 20 #[.float .f64 x, .float .f64 y] w fun e w' => e = .returned (.agg #[.float .f64 x, .float .f64 y]) ∧ Bel w w' := by
  go_enter Try.func20, Try.ntmps20
  go_wp2
  refine bodyPost_ret (v := .agg #[.float .f64 _, .float .f64 _]) (by simp [results, Try.results20, go_sem] <;> (first | exact ⟨rfl, rfl⟩ | rfl)) rfl ⟨rfl, ?_⟩
  repeat (first | exact bl_refl _ | assumption | apply bl_drewN | apply bl_drew | apply bl_alloc | refine bl_set ?_ (by simp <;> omega) | refine bl_trans ?_ (by assumption))
theorem of10 (k : Int) (r : Nat) (a : Option Addr) (n c : Nat) (w : World) : Calls Try.prog 44 #[.int .u8 k, .float .f64 r, .slice a n c] w fun e w' => e = .returned (.agg #[.int .u8 k, .float .f64 r, .slice a n c]) ∧ Bel w w' := by
  go_enter Try.func44, Try.ntmps44
  go_wp2
  refine bodyPost_ret (v := .agg #[.int .u8 k, .float .f64 r, .slice a n c]) (by simp [results, Try.results44, go_sem] <;> (first | exact ⟨rfl, rfl, rfl⟩ | rfl)) rfl ⟨rfl, ?_⟩
  repeat (first | exact bl_refl _ | assumption | apply bl_drewN | apply bl_drew | apply bl_alloc | refine bl_set ?_ (by simp <;> omega) | refine bl_trans ?_ (by assumption))
theorem nan10 (w : World) : Calls Try.prog 60 #[] w fun e w' => e = .returned (.float .f64 9221120237041090561) ∧ w' = w := by
  have q := from_int
  go_enter Try.func60, Try.ntmps60
  go_wp2
  go_ret
  exact ⟨rfl, rfl⟩
theorem any_row10 {w : World} {b n : Nat} {xs ys : Nat → Nat} (hn : 0 < n) (h8 : n ≤ 8) (o : Oks xs ys n) (h : Sl w b 0 n xs ys) : AnyS w (.slice (some ⟨b, 0, none⟩) n n) n xs ys :=
  ⟨_, _, rfl, Nat.le_refl _, Nat.le_trans h8 (by unfold maxLen; decide), by omega, o, .inr ⟨hn, b, 0, rfl, h⟩⟩
theorem new2' (W : World) (t : TypeId) (x y : Value) : (W.alloc (.cells #[x, y] t)).cell? ⟨W.heap.size, 0, none⟩ = some x ∧ (W.alloc (.cells #[x, y] t)).cell? ⟨W.heap.size, 1, none⟩ = some y :=
  ⟨by rw [World.cell?_alloc_new]; rfl, by rw [World.cell?_alloc_new]; rfl⟩
theorem new5' (W : World) (t : TypeId) (x y z u v : Value) : (W.alloc (.cells #[x, y, z, u, v] t)).cell? ⟨W.heap.size, 0, none⟩ = some x ∧ (W.alloc (.cells #[x, y, z, u, v] t)).cell? ⟨W.heap.size, 1, none⟩ = some y ∧ (W.alloc (.cells #[x, y, z, u, v] t)).cell? ⟨W.heap.size, 2, none⟩ = some z ∧ (W.alloc (.cells #[x, y, z, u, v] t)).cell? ⟨W.heap.size, 3, none⟩ = some u ∧ (W.alloc (.cells #[x, y, z, u, v] t)).cell? ⟨W.heap.size, 4, none⟩ = some v :=
  ⟨by rw [World.cell?_alloc_new]; rfl, by rw [World.cell?_alloc_new]; rfl, by rw [World.cell?_alloc_new]; rfl, by rw [World.cell?_alloc_new]; rfl, by rw [World.cell?_alloc_new]; rfl⟩

def cL10 : List Pt := [(0, 0)]
theorem c_laid10 (W : World) : Sl (W.alloc (.cells #[.float .f64 0, .float .f64 0] 28)) W.heap.size 0 1 (px cL10) (py cL10) := by
  intro i hi
  rcases (show i = 0 by omega) with rfl
  all_goals constructor <;> (rw [World.cell?_alloc_new]; rfl)
theorem c_oks10 : Oks (px cL10) (py cL10) 1 := by
  intro i hi
  rcases (show i = 0 by omega) with rfl
  all_goals (constructor <;> (rw [okK64]; decide))

theorem c_b10 (w : World) : Calls Try.prog 21 #[] w fun e w' => ∃ b, e = .returned (.agg #[.int .u8 1, .float .f64 4607182418800017408, .slice (some ⟨b, 0, none⟩) 1 1]) ∧ AnyS w' (.slice (some ⟨b, 0, none⟩) 1 1) 1 (px cL10) (py cL10) ∧ Bel w w' := by
  have z0_0 : (w.alloc (.cells #[.int .u8 0, .float .f64 0, .slice none 0 0] 25)).cell? ⟨w.heap.size, 0, none⟩ = some (.int .u8 0) := by rw [World.cell?_alloc_new]; rfl
  have z0_1 : (w.alloc (.cells #[.int .u8 0, .float .f64 0, .slice none 0 0] 25)).cell? ⟨w.heap.size, 1, none⟩ = some (.float .f64 0) := by rw [World.cell?_alloc_new]; rfl
  have z0_2 : (w.alloc (.cells #[.int .u8 0, .float .f64 0, .slice none 0 0] 25)).cell? ⟨w.heap.size, 2, none⟩ = some (.slice none 0 0) := by rw [World.cell?_alloc_new]; rfl
  have B0 : Bel w (w.alloc (.cells #[.int .u8 0, .float .f64 0, .slice none 0 0] 25)) := bl_alloc (bl_refl w) _ _
  go_enter Try.func21, Try.ntmps21
  go_wp2_with (first | (go_at_call 20; refine (v10 _ _ _).mono ?_; rintro e w0 ⟨rfl, hb⟩; have mm0 := True.intro; have Bc := hb; have R0 := keep hb z0_0; have R1 := keep hb z0_1; have R2 := keep hb z0_2; have LL := c_laid10 w0; replace R0 := up_alloc (o := .cells #[.float .f64 0, .float .f64 0] 28) R0; replace R1 := up_alloc (o := .cells #[.float .f64 0, .float .f64 0] 28) R1; replace R2 := up_alloc (o := .cells #[.float .f64 0, .float .f64 0] 28) R2; have Bsz := Bc.size; simp only [World.size_alloc] at Bsz; replace Bc := bl_alloc (bl_trans B0 Bc) #[.float .f64 0, .float .f64 0] 28) | (go_at_call 44; refine (of10 _ _ _ _ _ _).mono ?_; rintro e wo ⟨rfl, hbo⟩; replace R0 := keep hbo R0; replace R1 := keep hbo R1; replace R2 := keep hbo R2; replace LL := LL.bel hbo; replace Bc := bl_trans Bc hbo; have Z := fun o => (Bc.2 ⟨w.heap.size, o, none⟩).trans (fresh_frozen (Nat.le_refl _))))
  obtain ⟨F0, F1, F2⟩ := set3 (p := .int .u8 1) (q := .float .f64 4607182418800017408) (r := .slice (some ⟨w0.heap.size, 0, none⟩) 1 1) R0 R1 R2
  have ng : w.heap.size ≠ w0.heap.size := by omega
  refine bodyPost_ret (v := .agg #[.int .u8 1, .float .f64 4607182418800017408, .slice (some ⟨w0.heap.size, 0, none⟩) 1 1]) (by simp [F0, F1, F2, results, Try.results21, go_sem] <;> (first | exact ⟨rfl, rfl, rfl⟩ | rfl)) rfl ⟨_, rfl, any_row10 (by decide) (by decide) c_oks10 (((LL.far ng).far ng).far ng), bl_set (bl_set (bl_set Bc (Nat.le_refl _)) (Nat.le_refl _)) (Nat.le_refl _)⟩

def sL10 : List Pt := [(0, 4616189618054758400), (4620693217682128896, 4616189618054758400)]
theorem s_laid10 (W : World) : Sl (W.alloc (.cells #[.float .f64 0, .float .f64 4616189618054758400, .float .f64 4620693217682128896, .float .f64 4616189618054758400] 28)) W.heap.size 0 2 (px sL10) (py sL10) := by
  intro i hi
  rcases (show i = 0 ∨ i = 1 by omega) with rfl | rfl
  all_goals constructor <;> (rw [World.cell?_alloc_new]; rfl)
theorem s_oks10 : Oks (px sL10) (py sL10) 2 := by
  intro i hi
  rcases (show i = 0 ∨ i = 1 by omega) with rfl | rfl
  all_goals (constructor <;> (rw [okK64]; decide))

theorem s_b10 (w : World) : Calls Try.prog 22 #[] w fun e w' => ∃ b, e = .returned (.agg #[.int .u8 2, .float .f64 4607182418800017408, .slice (some ⟨b, 0, none⟩) 2 2]) ∧ AnyS w' (.slice (some ⟨b, 0, none⟩) 2 2) 2 (px sL10) (py sL10) ∧ Bel w w' := by
  have z0_0 : (w.alloc (.cells #[.int .u8 0, .float .f64 0, .slice none 0 0] 25)).cell? ⟨w.heap.size, 0, none⟩ = some (.int .u8 0) := by rw [World.cell?_alloc_new]; rfl
  have z0_1 : (w.alloc (.cells #[.int .u8 0, .float .f64 0, .slice none 0 0] 25)).cell? ⟨w.heap.size, 1, none⟩ = some (.float .f64 0) := by rw [World.cell?_alloc_new]; rfl
  have z0_2 : (w.alloc (.cells #[.int .u8 0, .float .f64 0, .slice none 0 0] 25)).cell? ⟨w.heap.size, 2, none⟩ = some (.slice none 0 0) := by rw [World.cell?_alloc_new]; rfl
  have B0 : Bel w (w.alloc (.cells #[.int .u8 0, .float .f64 0, .slice none 0 0] 25)) := bl_alloc (bl_refl w) _ _
  go_enter Try.func22, Try.ntmps22
  go_wp2_with (first | (have zn := mm0; clear zn; go_at_call 20; refine (v10 _ _ _).mono ?_; rintro e w1 ⟨rfl, hb⟩; have mm1 := True.intro; replace Bc := bl_trans Bc hb; replace R0 := keep hb R0; replace R1 := keep hb R1; replace R2 := keep hb R2; have LL := s_laid10 w1; replace R0 := up_alloc (o := .cells #[.float .f64 0, .float .f64 4616189618054758400, .float .f64 4620693217682128896, .float .f64 4616189618054758400] 28) R0; replace R1 := up_alloc (o := .cells #[.float .f64 0, .float .f64 4616189618054758400, .float .f64 4620693217682128896, .float .f64 4616189618054758400] 28) R1; replace R2 := up_alloc (o := .cells #[.float .f64 0, .float .f64 4616189618054758400, .float .f64 4620693217682128896, .float .f64 4616189618054758400] 28) R2; have Bsz := Bc.size; simp only [World.size_alloc] at Bsz; replace Bc := bl_alloc (bl_trans B0 Bc) #[.float .f64 0, .float .f64 4616189618054758400, .float .f64 4620693217682128896, .float .f64 4616189618054758400] 28) | (go_at_call 20; refine (v10 _ _ _).mono ?_; rintro e w0 ⟨rfl, hb⟩; have mm0 := True.intro; have Bc := hb; have R0 := keep hb z0_0; have R1 := keep hb z0_1; have R2 := keep hb z0_2) | (go_at_call 44; refine (of10 _ _ _ _ _ _).mono ?_; rintro e wo ⟨rfl, hbo⟩; replace R0 := keep hbo R0; replace R1 := keep hbo R1; replace R2 := keep hbo R2; replace LL := LL.bel hbo; replace Bc := bl_trans Bc hbo; have Z := fun o => (Bc.2 ⟨w.heap.size, o, none⟩).trans (fresh_frozen (Nat.le_refl _))))
  obtain ⟨F0, F1, F2⟩ := set3 (p := .int .u8 2) (q := .float .f64 4607182418800017408) (r := .slice (some ⟨w1.heap.size, 0, none⟩) 2 2) R0 R1 R2
  have ng : w.heap.size ≠ w1.heap.size := by omega
  refine bodyPost_ret (v := .agg #[.int .u8 2, .float .f64 4607182418800017408, .slice (some ⟨w1.heap.size, 0, none⟩) 2 2]) (by simp [F0, F1, F2, results, Try.results22, go_sem] <;> (first | exact ⟨rfl, rfl, rfl⟩ | rfl)) rfl ⟨_, rfl, any_row10 (by decide) (by decide) s_oks10 (((LL.far ng).far ng).far ng), bl_set (bl_set (bl_set Bc (Nat.le_refl _)) (Nat.le_refl _)) (Nat.le_refl _)⟩

def qL10 : List Pt := [(4613937818241073152, 13830554455654793216), (4617315517961601024, 13830554455654793216), (4617315517961601024, 4607182418800017408), (4613937818241073152, 4607182418800017408)]
theorem q_laid10 (W : World) : Sl (W.alloc (.cells #[.float .f64 4613937818241073152, .float .f64 13830554455654793216, .float .f64 4617315517961601024, .float .f64 13830554455654793216, .float .f64 4617315517961601024, .float .f64 4607182418800017408, .float .f64 4613937818241073152, .float .f64 4607182418800017408] 28)) W.heap.size 0 4 (px qL10) (py qL10) := by
  intro i hi
  rcases (show i = 0 ∨ i = 1 ∨ i = 2 ∨ i = 3 by omega) with rfl | rfl | rfl | rfl
  all_goals constructor <;> (rw [World.cell?_alloc_new]; rfl)
theorem q_oks10 : Oks (px qL10) (py qL10) 4 := by
  intro i hi
  rcases (show i = 0 ∨ i = 1 ∨ i = 2 ∨ i = 3 by omega) with rfl | rfl | rfl | rfl
  all_goals (constructor <;> (rw [okK64]; decide))

theorem q_b10 (w : World) : Calls Try.prog 23 #[] w fun e w' => ∃ b, e = .returned (.agg #[.int .u8 3, .float .f64 0, .slice (some ⟨b, 0, none⟩) 4 4]) ∧ AnyS w' (.slice (some ⟨b, 0, none⟩) 4 4) 4 (px qL10) (py qL10) ∧ Bel w w' := by
  have z0_0 : (w.alloc (.cells #[.int .u8 0, .float .f64 0, .slice none 0 0] 25)).cell? ⟨w.heap.size, 0, none⟩ = some (.int .u8 0) := by rw [World.cell?_alloc_new]; rfl
  have z0_1 : (w.alloc (.cells #[.int .u8 0, .float .f64 0, .slice none 0 0] 25)).cell? ⟨w.heap.size, 1, none⟩ = some (.float .f64 0) := by rw [World.cell?_alloc_new]; rfl
  have z0_2 : (w.alloc (.cells #[.int .u8 0, .float .f64 0, .slice none 0 0] 25)).cell? ⟨w.heap.size, 2, none⟩ = some (.slice none 0 0) := by rw [World.cell?_alloc_new]; rfl
  have B0 : Bel w (w.alloc (.cells #[.int .u8 0, .float .f64 0, .slice none 0 0] 25)) := bl_alloc (bl_refl w) _ _
  go_enter Try.func23, Try.ntmps23
  go_wp2_with (first | (have zn := mm2; clear zn; go_at_call 20; refine (v10 _ _ _).mono ?_; rintro e w3 ⟨rfl, hb⟩; have mm3 := True.intro; replace Bc := bl_trans Bc hb; replace R0 := keep hb R0; replace R1 := keep hb R1; replace R2 := keep hb R2; have LL := q_laid10 w3; replace R0 := up_alloc (o := .cells #[.float .f64 4613937818241073152, .float .f64 13830554455654793216, .float .f64 4617315517961601024, .float .f64 13830554455654793216, .float .f64 4617315517961601024, .float .f64 4607182418800017408, .float .f64 4613937818241073152, .float .f64 4607182418800017408] 28) R0; replace R1 := up_alloc (o := .cells #[.float .f64 4613937818241073152, .float .f64 13830554455654793216, .float .f64 4617315517961601024, .float .f64 13830554455654793216, .float .f64 4617315517961601024, .float .f64 4607182418800017408, .float .f64 4613937818241073152, .float .f64 4607182418800017408] 28) R1; replace R2 := up_alloc (o := .cells #[.float .f64 4613937818241073152, .float .f64 13830554455654793216, .float .f64 4617315517961601024, .float .f64 13830554455654793216, .float .f64 4617315517961601024, .float .f64 4607182418800017408, .float .f64 4613937818241073152, .float .f64 4607182418800017408] 28) R2; have Bsz := Bc.size; simp only [World.size_alloc] at Bsz; replace Bc := bl_alloc (bl_trans B0 Bc) #[.float .f64 4613937818241073152, .float .f64 13830554455654793216, .float .f64 4617315517961601024, .float .f64 13830554455654793216, .float .f64 4617315517961601024, .float .f64 4607182418800017408, .float .f64 4613937818241073152, .float .f64 4607182418800017408] 28) | (have zn := mm1; clear zn; go_at_call 20; refine (v10 _ _ _).mono ?_; rintro e w2 ⟨rfl, hb⟩; have mm2 := True.intro; replace Bc := bl_trans Bc hb; replace R0 := keep hb R0; replace R1 := keep hb R1; replace R2 := keep hb R2) | (have zn := mm0; clear zn; go_at_call 20; refine (v10 _ _ _).mono ?_; rintro e w1 ⟨rfl, hb⟩; have mm1 := True.intro; replace Bc := bl_trans Bc hb; replace R0 := keep hb R0; replace R1 := keep hb R1; replace R2 := keep hb R2) | (go_at_call 20; refine (v10 _ _ _).mono ?_; rintro e w0 ⟨rfl, hb⟩; have mm0 := True.intro; have Bc := hb; have R0 := keep hb z0_0; have R1 := keep hb z0_1; have R2 := keep hb z0_2) | (go_at_call 44; refine (of10 _ _ _ _ _ _).mono ?_; rintro e wo ⟨rfl, hbo⟩; replace R0 := keep hbo R0; replace R1 := keep hbo R1; replace R2 := keep hbo R2; replace LL := LL.bel hbo; replace Bc := bl_trans Bc hbo; have Z := fun o => (Bc.2 ⟨w.heap.size, o, none⟩).trans (fresh_frozen (Nat.le_refl _))))
  obtain ⟨F0, F1, F2⟩ := set3 (p := .int .u8 3) (q := .float .f64 0) (r := .slice (some ⟨w3.heap.size, 0, none⟩) 4 4) R0 R1 R2
  have ng : w.heap.size ≠ w3.heap.size := by omega
  refine bodyPost_ret (v := .agg #[.int .u8 3, .float .f64 0, .slice (some ⟨w3.heap.size, 0, none⟩) 4 4]) (by simp [F0, F1, F2, results, Try.results23, go_sem] <;> (first | exact ⟨rfl, rfl, rfl⟩ | rfl)) rfl ⟨_, rfl, any_row10 (by decide) (by decide) q_oks10 (((LL.far ng).far ng).far ng), bl_set (bl_set (bl_set Bc (Nat.le_refl _)) (Nat.le_refl _)) (Nat.le_refl _)⟩

def dL10 : List Pt := [(4607182418800017408, 0)]
theorem d_laid10 (W : World) : Sl (W.alloc (.cells #[.float .f64 4607182418800017408, .float .f64 0] 28)) W.heap.size 0 1 (px dL10) (py dL10) := by
  intro i hi
  rcases (show i = 0 by omega) with rfl
  all_goals constructor <;> (rw [World.cell?_alloc_new]; rfl)
theorem d_oks10 : Oks (px dL10) (py dL10) 1 := by
  intro i hi
  rcases (show i = 0 by omega) with rfl
  all_goals (constructor <;> (rw [okK64]; decide))

theorem x_pt1 (w : World) : Calls Try.prog 19 #[.agg #[.float .f64 0, .float .f64 0], .agg #[.float .f64 4616189618054758400, .float .f64 0], .agg #[.float .f64 4607182418800017408, .float .f64 4613937818241073152]] w fun e w' => e = .returned (.tuple #[.agg #[.float .f64 4607182418800017408, .float .f64 0], .float .f64 4598175219545276416]) ∧ Bel w w' := by
  have e0 : ptF (nP (0, 0)) (nP (4616189618054758400, 0)) (nP (4607182418800017408, 4613937818241073152)) = ((4607182418800017408, 0), 4598175219545276416) := by decide +kernel
  refine (point_n w (isP_self (x := 0) (y := 0) (by rw [okK64]; decide) (by rw [okK64]; decide)) (isP_self (x := 4616189618054758400) (y := 0) (by rw [okK64]; decide) (by rw [okK64]; decide)) (isP_self (x := 4607182418800017408) (y := 4613937818241073152) (by rw [okK64]; decide) (by rw [okK64]; decide))).mono ?_
  rintro e w' ⟨x, y, t, h1, h2, rfl, hb⟩
  rw [e0] at h1 h2
  obtain ⟨rfl, rfl⟩ := isP_c h1 (by decide +kernel) (by decide +kernel)
  obtain rfl := isF_c h2 (by decide +kernel)
  exact ⟨rfl, hb⟩

theorem x_pt2 (w : World) : Calls Try.prog 19 #[.agg #[.float .f64 4611686018427387904, .float .f64 4611686018427387904], .agg #[.float .f64 4611686018427387904, .float .f64 4611686018427387904], .agg #[.float .f64 4617315517961601024, .float .f64 4617315517961601024]] w fun e w' => e = .returned (.tuple #[.agg #[.float .f64 4611686018427387904, .float .f64 4611686018427387904], .float .f64 0]) ∧ Bel w w' := by
  have e0 : ptF (nP (4611686018427387904, 4611686018427387904)) (nP (4611686018427387904, 4611686018427387904)) (nP (4617315517961601024, 4617315517961601024)) = ((4611686018427387904, 4611686018427387904), 0) := by decide +kernel
  refine (point_n w (isP_self (x := 4611686018427387904) (y := 4611686018427387904) (by rw [okK64]; decide) (by rw [okK64]; decide)) (isP_self (x := 4611686018427387904) (y := 4611686018427387904) (by rw [okK64]; decide) (by rw [okK64]; decide)) (isP_self (x := 4617315517961601024) (y := 4617315517961601024) (by rw [okK64]; decide) (by rw [okK64]; decide))).mono ?_
  rintro e w' ⟨x, y, t, h1, h2, rfl, hb⟩
  rw [e0] at h1 h2
  obtain ⟨rfl, rfl⟩ := isP_c h1 (by decide +kernel) (by decide +kernel)
  obtain rfl := isF_c h2 (by decide +kernel)
  exact ⟨rfl, hb⟩

theorem x_sg1 (w : World) : Calls Try.prog 24 #[.agg #[.float .f64 0, .float .f64 0], .agg #[.float .f64 4616189618054758400, .float .f64 0], .agg #[.float .f64 4611686018427387904, .float .f64 13830554455654793216], .agg #[.float .f64 4611686018427387904, .float .f64 4613937818241073152]] w fun e w' => e = .returned (.agg #[.float .f64 0, .float .f64 4611686018427387904, .float .f64 0, .float .f64 4611686018427387904, .float .f64 0]) ∧ Bel w w' := by
  have e0 : segF (nP (0, 0)) (nP (4616189618054758400, 0)) (nP (4611686018427387904, 13830554455654793216)) (nP (4611686018427387904, 4613937818241073152)) = (0, (4611686018427387904, 0), (4611686018427387904, 0)) := by decide +kernel
  refine (segments_n w (isP_self (x := 0) (y := 0) (by rw [okK64]; decide) (by rw [okK64]; decide)) (isP_self (x := 4616189618054758400) (y := 0) (by rw [okK64]; decide) (by rw [okK64]; decide)) (isP_self (x := 4611686018427387904) (y := 13830554455654793216) (by rw [okK64]; decide) (by rw [okK64]; decide)) (isP_self (x := 4611686018427387904) (y := 4613937818241073152) (by rw [okK64]; decide) (by rw [okK64]; decide))).mono ?_
  rintro e w' ⟨f, x, y, u, v, ⟨h1, h2, h3⟩, rfl, hb⟩
  rw [e0] at h1 h2 h3
  obtain rfl := isF_c h1 (by decide +kernel)
  obtain ⟨rfl, rfl⟩ := isP_c h2 (by decide +kernel) (by decide +kernel)
  obtain ⟨rfl, rfl⟩ := isP_c h3 (by decide +kernel) (by decide +kernel)
  exact ⟨rfl, hb⟩

theorem x_sg2 (w : World) : Calls Try.prog 24 #[.agg #[.float .f64 0, .float .f64 0], .agg #[.float .f64 4616189618054758400, .float .f64 0], .agg #[.float .f64 0, .float .f64 4607182418800017408], .agg #[.float .f64 4616189618054758400, .float .f64 4607182418800017408]] w fun e w' => e = .returned (.agg #[.float .f64 4607182418800017408, .float .f64 0, .float .f64 0, .float .f64 0, .float .f64 4607182418800017408]) ∧ Bel w w' := by
  have e0 : segF (nP (0, 0)) (nP (4616189618054758400, 0)) (nP (0, 4607182418800017408)) (nP (4616189618054758400, 4607182418800017408)) = (4607182418800017408, (0, 0), (0, 4607182418800017408)) := by decide +kernel
  refine (segments_n w (isP_self (x := 0) (y := 0) (by rw [okK64]; decide) (by rw [okK64]; decide)) (isP_self (x := 4616189618054758400) (y := 0) (by rw [okK64]; decide) (by rw [okK64]; decide)) (isP_self (x := 0) (y := 4607182418800017408) (by rw [okK64]; decide) (by rw [okK64]; decide)) (isP_self (x := 4616189618054758400) (y := 4607182418800017408) (by rw [okK64]; decide) (by rw [okK64]; decide))).mono ?_
  rintro e w' ⟨f, x, y, u, v, ⟨h1, h2, h3⟩, rfl, hb⟩
  rw [e0] at h1 h2 h3
  obtain rfl := isF_c h1 (by decide +kernel)
  obtain ⟨rfl, rfl⟩ := isP_c h2 (by decide +kernel) (by decide +kernel)
  obtain ⟨rfl, rfl⟩ := isP_c h3 (by decide +kernel) (by decide +kernel)
  exact ⟨rfl, hb⟩

theorem x_sg3 (w : World) : Calls Try.prog 24 #[.agg #[.float .f64 0, .float .f64 0], .agg #[.float .f64 4607182418800017408, .float .f64 0], .agg #[.float .f64 4613937818241073152, .float .f64 0], .agg #[.float .f64 4611686018427387904, .float .f64 0]] w fun e w' => e = .returned (.agg #[.float .f64 4607182418800017408, .float .f64 4607182418800017408, .float .f64 0, .float .f64 4611686018427387904, .float .f64 0]) ∧ Bel w w' := by
  have e0 : segF (nP (0, 0)) (nP (4607182418800017408, 0)) (nP (4613937818241073152, 0)) (nP (4611686018427387904, 0)) = (4607182418800017408, (4607182418800017408, 0), (4611686018427387904, 0)) := by decide +kernel
  refine (segments_n w (isP_self (x := 0) (y := 0) (by rw [okK64]; decide) (by rw [okK64]; decide)) (isP_self (x := 4607182418800017408) (y := 0) (by rw [okK64]; decide) (by rw [okK64]; decide)) (isP_self (x := 4613937818241073152) (y := 0) (by rw [okK64]; decide) (by rw [okK64]; decide)) (isP_self (x := 4611686018427387904) (y := 0) (by rw [okK64]; decide) (by rw [okK64]; decide))).mono ?_
  rintro e w' ⟨f, x, y, u, v, ⟨h1, h2, h3⟩, rfl, hb⟩
  rw [e0] at h1 h2 h3
  obtain rfl := isF_c h1 (by decide +kernel)
  obtain ⟨rfl, rfl⟩ := isP_c h2 (by decide +kernel) (by decide +kernel)
  obtain ⟨rfl, rfl⟩ := isP_c h3 (by decide +kernel) (by decide +kernel)
  exact ⟨rfl, hb⟩

theorem x_cs (ba bb : Nat) (w : World) (hA : AnyS w (.slice (some ⟨ba, 0, none⟩) 1 1) 1 (px cL10) (py cL10)) (hB : AnyS w (.slice (some ⟨bb, 0, none⟩) 2 2) 2 (px sL10) (py sL10)) : Calls Try.prog 6 #[.agg #[.int .u8 1, .float .f64 4607182418800017408, .slice (some ⟨ba, 0, none⟩) 1 1], .agg #[.int .u8 2, .float .f64 4607182418800017408, .slice (some ⟨bb, 0, none⟩) 2 2]] w fun e w' => e = .returned (.tuple #[.agg #[.float .f64 4611686018427387904, .float .f64 0, .float .f64 4607182418800017408, .float .f64 0, .float .f64 4613937818241073152], .int .i64 0]) ∧ Bel w w' := by
  have he : shB 1 4607182418800017408 (px cL10) (py cL10) 1 2 4607182418800017408 (px sL10) (py sL10) 2 = 0 := by decide +kernel
  refine (shapes_ok _ _ w hA hB (by rw [okK64]; decide) (by rw [okK64]; decide) he).mono ?_
  rintro e w' ⟨f, x, y, u, v, hN, rfl, hb⟩
  have e0 : isN f x y u v (4611686018427387904, (0, 4607182418800017408), (0, 4613937818241073152)) := isN_eq hN (by decide +kernel)
  obtain ⟨h1, h2, h3⟩ := e0
  obtain rfl := isF_c h1 (by decide +kernel)
  obtain ⟨rfl, rfl⟩ := isP_c h2 (by decide +kernel) (by decide +kernel)
  obtain ⟨rfl, rfl⟩ := isP_c h3 (by decide +kernel) (by decide +kernel)
  rw [he]
  exact ⟨rfl, hb⟩

theorem x_cq (ba bb : Nat) (w : World) (hA : AnyS w (.slice (some ⟨ba, 0, none⟩) 1 1) 1 (px cL10) (py cL10)) (hB : AnyS w (.slice (some ⟨bb, 0, none⟩) 4 4) 4 (px qL10) (py qL10)) : Calls Try.prog 6 #[.agg #[.int .u8 1, .float .f64 4607182418800017408, .slice (some ⟨ba, 0, none⟩) 1 1], .agg #[.int .u8 3, .float .f64 0, .slice (some ⟨bb, 0, none⟩) 4 4]] w fun e w' => e = .returned (.tuple #[.agg #[.float .f64 4611686018427387904, .float .f64 4607182418800017408, .float .f64 0, .float .f64 4613937818241073152, .float .f64 0], .int .i64 0]) ∧ Bel w w' := by
  have he : shB 1 4607182418800017408 (px cL10) (py cL10) 1 3 0 (px qL10) (py qL10) 4 = 0 := by decide +kernel
  refine (shapes_ok _ _ w hA hB (by rw [okK64]; decide) (by rw [okK64]; decide) he).mono ?_
  rintro e w' ⟨f, x, y, u, v, hN, rfl, hb⟩
  have e0 : isN f x y u v (4611686018427387904, (4607182418800017408, 0), (4613937818241073152, 0)) := isN_eq hN (by decide +kernel)
  obtain ⟨h1, h2, h3⟩ := e0
  obtain rfl := isF_c h1 (by decide +kernel)
  obtain ⟨rfl, rfl⟩ := isP_c h2 (by decide +kernel) (by decide +kernel)
  obtain ⟨rfl, rfl⟩ := isP_c h3 (by decide +kernel) (by decide +kernel)
  rw [he]
  exact ⟨rfl, hb⟩

theorem x_ss (ba bb : Nat) (w : World) (hA : AnyS w (.slice (some ⟨ba, 0, none⟩) 2 2) 2 (px sL10) (py sL10)) (hB : AnyS w (.slice (some ⟨bb, 0, none⟩) 2 2) 2 (px sL10) (py sL10)) : Calls Try.prog 6 #[.agg #[.int .u8 2, .float .f64 4607182418800017408, .slice (some ⟨ba, 0, none⟩) 2 2], .agg #[.int .u8 2, .float .f64 4607182418800017408, .slice (some ⟨bb, 0, none⟩) 2 2]] w fun e w' => e = .returned (.tuple #[.agg #[.float .f64 0, .float .f64 0, .float .f64 4616189618054758400, .float .f64 0, .float .f64 4616189618054758400], .int .i64 0]) ∧ Bel w w' := by
  have he : shB 2 4607182418800017408 (px sL10) (py sL10) 2 2 4607182418800017408 (px sL10) (py sL10) 2 = 0 := by decide +kernel
  refine (shapes_ok _ _ w hA hB (by rw [okK64]; decide) (by rw [okK64]; decide) he).mono ?_
  rintro e w' ⟨f, x, y, u, v, hN, rfl, hb⟩
  have e0 : isN f x y u v (0, (0, 4616189618054758400), (0, 4616189618054758400)) := isN_eq hN (by decide +kernel)
  obtain ⟨h1, h2, h3⟩ := e0
  obtain rfl := isF_c h1 (by decide +kernel)
  obtain ⟨rfl, rfl⟩ := isP_c h2 (by decide +kernel) (by decide +kernel)
  obtain ⟨rfl, rfl⟩ := isP_c h3 (by decide +kernel) (by decide +kernel)
  rw [he]
  exact ⟨rfl, hb⟩

theorem x_cd (ba bb : Nat) (w : World) (hA : AnyS w (.slice (some ⟨ba, 0, none⟩) 1 1) 1 (px cL10) (py cL10)) (hB : AnyS w (.slice (some ⟨bb, 0, none⟩) 1 1) 1 (px dL10) (py dL10)) : Calls Try.prog 6 #[.agg #[.int .u8 1, .float .f64 4607182418800017408, .slice (some ⟨ba, 0, none⟩) 1 1], .agg #[.int .u8 1, .float .f64 4607182418800017408, .slice (some ⟨bb, 0, none⟩) 1 1]] w fun e w' => e = .returned (.tuple #[.agg #[.float .f64 0, .float .f64 4607182418800017408, .float .f64 0, .float .f64 0, .float .f64 0], .int .i64 0]) ∧ Bel w w' := by
  have he : shB 1 4607182418800017408 (px cL10) (py cL10) 1 1 4607182418800017408 (px dL10) (py dL10) 1 = 0 := by decide +kernel
  refine (shapes_ok _ _ w hA hB (by rw [okK64]; decide) (by rw [okK64]; decide) he).mono ?_
  rintro e w' ⟨f, x, y, u, v, hN, rfl, hb⟩
  have e0 : isN f x y u v (0, (4607182418800017408, 0), (0, 0)) := isN_eq hN (by decide +kernel)
  obtain ⟨h1, h2, h3⟩ := e0
  obtain rfl := isF_c h1 (by decide +kernel)
  obtain ⟨rfl, rfl⟩ := isP_c h2 (by decide +kernel) (by decide +kernel)
  obtain ⟨rfl, rfl⟩ := isP_c h3 (by decide +kernel) (by decide +kernel)
  rw [he]
  exact ⟨rfl, hb⟩

theorem x_ce (ba : Nat) (w : World) (hA : AnyS w (.slice (some ⟨ba, 0, none⟩) 1 1) 1 (px cL10) (py cL10)) : Calls Try.prog 6 #[.agg #[.int .u8 1, .float .f64 4607182418800017408, .slice (some ⟨ba, 0, none⟩) 1 1], .agg #[.int .u8 0, .float .f64 0, .slice none 0 0]] w fun e w' => e = .returned (.tuple #[.agg #[.float .f64 0, .float .f64 0, .float .f64 0, .float .f64 0, .float .f64 0], .int .i64 70]) ∧ Bel w w' := by
  have he : shB 1 4607182418800017408 (px cL10) (py cL10) 1 0 0 (fun _ => 0) (fun _ => 0) 0 = 70 := by decide +kernel
  have hB : AnyS w (.slice none 0 0) 0 (fun _ => 0) (fun _ => 0) := ⟨_, _, rfl, Nat.le_refl _, by decide, by decide, fun i hi => by omega, .inl rfl⟩
  refine (shapes_err _ _ w hA hB (by rw [okK64]; decide) (by rw [okK64]; decide) (by rw [he]; decide)).mono ?_
  rintro e w' ⟨f, x, y, u, v, hN, rfl, hb⟩
  rw [he] at hN ⊢
  obtain ⟨h1, h2, h3⟩ := hN
  obtain rfl := isF_c (q := 0) h1 (by decide +kernel)
  obtain ⟨e1, e2⟩ := isP_c (p := (0, 0)) h2 (by decide +kernel) (by decide +kernel)
  obtain ⟨e3, e4⟩ := isP_c (p := (0, 0)) h3 (by decide +kernel) (by decide +kernel)
  simp only at e1 e2 e3 e4
  subst e1 e2 e3 e4
  exact ⟨rfl, hb⟩

end Go.Proofs.Ythbdckjfekimdab
