/-
  What each function of package sweep answers, and what the reference of its chapter answers: one contract a function, for every list of boxes; of the memory that was there nothing has turned.
-/
import Derived.Test.YtgcklheijcfneaaSwz
import Derived.Test.YtgcklheijcfneaaSww
import Derived.Below
import Derived.BigQuiet
import Derived.OwnWalk
import Derived.Laws.AppendOwn
import Derived.Laws.AppendOwnNone
import Derived.WalkKit
import Derived.WalkLawsBesides
import Derived.WalkSpells
import Derived.ProofKit
import Derived.OpenShut
import Derived.Deep.RegionHeld3
import Derived.Deep.LoopGhost
namespace Go.Proofs.Ytgcklheijcfneaa
open Go.ChangeShapes Go.WideShapes Go.ChangeAt Go.RowKit Go.Shelf Go.Lib Go.Sort
set_option linter.unusedVariables false
set_option linter.unusedSimpArgs false


def lB : Nat → Bo
  | 0 => (4617315517961601024, 0, 4618441417868443648, 4621256167635550208)
  | 1 => (4611686018427387904, 4611686018427387904, 4616189618054758400, 4616189618054758400)
  | 2 => (9221120237041090561, 0, 4607182418800017408, 4607182418800017408)
  | 3 => (4607182418800017408, 4607182418800017408, 4613937818241073152, 4613937818241073152)
  | _ => (0, 0, 4611686018427387904, 4611686018427387904)
theorem lB_pairs : refP lB 5 = [(1, 3), (1, 4), (3, 4)] := by decide +kernel
theorem lB_bet : refB lB (fun i => lB (i + 3)) 2 2 = [(1, 0), (1, 1)] := by decide +kernel
theorem lB_with : wiL lB 5 (4607182418800017408, 4607182418800017408, 4611686018427387904, 4611686018427387904) = [1, 3, 4] := by decide +kernel
theorem lB_ord : OrdL lB 5 [4, 3, 1, 0] := by
  refine ⟨?_, fun i => ?_, by decide⟩
  · unfold tO; decide +kernel
  · rcases Nat.lt_or_ge i 5 with h | h
    · rcases (show i = 0 ∨ i = 1 ∨ i = 2 ∨ i = 3 ∨ i = 4 by omega) with rfl | rfl | rfl | rfl | rfl <;> decide +kernel
    · constructor
      · intro hm; simp only [List.mem_cons, List.not_mem_nil, or_false] at hm; omega
      · intro hm; omega
theorem b13_s (x y z u : Nat) (w : World) : Calls Try.prog 8 #[.float .f64 x, .float .f64 y, .float .f64 z, .float .f64 u] w fun e w' => e = .returned (.agg #[.float .f64 x, .float .f64 y, .float .f64 z, .float .f64 u]) ∧ Bel w w' := by
  go_enter Try.func8, Try.ntmps8
  go_wp2
  refine bodyPost_ret (v := .agg #[.float .f64 x, .float .f64 y, .float .f64 z, .float .f64 u]) (by simp [results, Try.results8, go_sem] <;> (first | exact ⟨rfl, rfl, rfl, rfl⟩ | rfl)) rfl ⟨rfl, ?_⟩
  repeat (first | exact bl_refl _ | assumption | apply bl_drewN | apply bl_drew | apply bl_alloc | refine bl_set ?_ (by simp <;> omega) | refine bl_trans ?_ (by assumption))
theorem nan13 (w : World) : Calls Try.prog 36 #[] w fun e w' => e = .returned (.float .f64 9221120237041090561) ∧ w' = w := by
  have q := from_int
  go_enter Try.func36, Try.ntmps36
  go_wp2
  go_ret
  exact ⟨rfl, rfl⟩
theorem new4n (W : World) (t : TypeId) : (W.alloc (.cells #[.float .f64 9221120237041090561, .float .f64 0, .float .f64 4607182418800017408, .float .f64 4607182418800017408] t)).cell? ⟨W.heap.size, 0, none⟩ = some (.float .f64 9221120237041090561) ∧ (W.alloc (.cells #[.float .f64 9221120237041090561, .float .f64 0, .float .f64 4607182418800017408, .float .f64 4607182418800017408] t)).cell? ⟨W.heap.size, 1, none⟩ = some (.float .f64 0) ∧ (W.alloc (.cells #[.float .f64 9221120237041090561, .float .f64 0, .float .f64 4607182418800017408, .float .f64 4607182418800017408] t)).cell? ⟨W.heap.size, 2, none⟩ = some (.float .f64 4607182418800017408) ∧ (W.alloc (.cells #[.float .f64 9221120237041090561, .float .f64 0, .float .f64 4607182418800017408, .float .f64 4607182418800017408] t)).cell? ⟨W.heap.size, 3, none⟩ = some (.float .f64 4607182418800017408) := by
  refine ⟨?_, ?_, ?_, ?_⟩ <;> (rw [World.cell?_alloc_new]; rfl)

def NB (a b : World) : Prop := Go.RowKit.Below a.heap.size a b
theorem nb_refl {a : World} : NB a a := (bl_refl a).1
theorem nb_drew {a : World} : NB a a.drew := (bl_drew (bl_refl a)).1
theorem nb_trans {a b c : World} (h : NB a b) (k : NB b c) : NB a c := bw_trans h k
theorem newP (W : World) (t : TypeId) : PRow (W.alloc (.cells #[.int .i64 1, .int .i64 3, .int .i64 1, .int .i64 4, .int .i64 3, .int .i64 4] t)) (.slice (some ⟨W.heap.size, 0, none⟩) 3 3) [(1, 3), (1, 4), (3, 4)] := by
  refine ⟨_, _, rfl, .inr ⟨_, 0, rfl, fun k p hk => ?_⟩⟩
  have hk' : k < 3 := by
    rcases Nat.lt_or_ge k 3 with h | h
    · exact h
    · rw [List.getElem?_eq_none (by simpa using h)] at hk; cases hk
  rcases (show k = 0 ∨ k = 1 ∨ k = 2 by omega) with rfl | rfl | rfl
  all_goals (injection hk with hk; subst hk; constructor <;> (rw [World.cell?_alloc_new]; rfl))
theorem newBb (W : World) (t : TypeId) : PRow (W.alloc (.cells #[.int .i64 1, .int .i64 0, .int .i64 1, .int .i64 1] t)) (.slice (some ⟨W.heap.size, 0, none⟩) 2 2) [(1, 0), (1, 1)] := by
  refine ⟨_, _, rfl, .inr ⟨_, 0, rfl, fun k p hk => ?_⟩⟩
  have hk' : k < 2 := by
    rcases Nat.lt_or_ge k 2 with h | h
    · exact h
    · rw [List.getElem?_eq_none (by simpa using h)] at hk; cases hk
  rcases (show k = 0 ∨ k = 1 by omega) with rfl | rfl
  all_goals (injection hk with hk; subst hk; constructor <;> (rw [World.cell?_alloc_new]; rfl))
theorem newO (W : World) (t : TypeId) : IRow (W.alloc (.cells #[.int .i64 4, .int .i64 3, .int .i64 1, .int .i64 0] t)) (.slice (some ⟨W.heap.size, 0, none⟩) 4 4) [4, 3, 1, 0] := by
  refine ⟨_, _, rfl, .inr ⟨_, 0, rfl, fun k p hk => ?_⟩⟩
  have hk' : k < 4 := by
    rcases Nat.lt_or_ge k 4 with h | h
    · exact h
    · rw [List.getElem?_eq_none (by simpa using h)] at hk; cases hk
  rcases (show k = 0 ∨ k = 1 ∨ k = 2 ∨ k = 3 by omega) with rfl | rfl | rfl | rfl
  all_goals (injection hk with hk; subst hk; rw [World.cell?_alloc_new]; rfl)
theorem newW (W : World) (t : TypeId) : IRow (W.alloc (.cells #[.int .i64 1, .int .i64 3, .int .i64 4] t)) (.slice (some ⟨W.heap.size, 0, none⟩) 3 3) [1, 3, 4] := by
  refine ⟨_, _, rfl, .inr ⟨_, 0, rfl, fun k p hk => ?_⟩⟩
  have hk' : k < 3 := by
    rcases Nat.lt_or_ge k 3 with h | h
    · exact h
    · rw [List.getElem?_eq_none (by simpa using h)] at hk; cases hk
  rcases (show k = 0 ∨ k = 1 ∨ k = 2 by omega) with rfl | rfl | rfl
  all_goals (injection hk with hk; subst hk; rw [World.cell?_alloc_new]; rfl)

theorem any_lB {W : World} {g : Nat} (h : Bs W g 0 5 lB) : AnyB W (some ⟨g, 0, none⟩) 5 lB := .inr ⟨g, 0, rfl, h, World.block_lt_of_cell? _ _ (h 0 (by decide)).1⟩
theorem al_pairs (g : Nat) (W : World) (h : Bs W g 0 5 lB) : Calls Try.prog 9 #[.slice (some ⟨g, 0, none⟩) 5 5] W fun e w' => ∃ v, e = .returned (.tuple #[v, .int .i64 0]) ∧ PRow w' v [(1, 3), (1, 4), (3, 4)] ∧ Below W.heap.size W w' := by
  refine (pairs_any _ 5 5 lB W (any_lB h)).mono ?_
  rintro e w' ⟨v, rfl, h1, _, h3⟩
  have h2 := own_prow h1
  rw [lB_pairs] at h2 ⊢
  exact ⟨v, rfl, h2, h3⟩
theorem al_ord (g : Nat) (W : World) (h : Bs W g 0 5 lB) : Calls Try.prog 11 #[.slice (some ⟨g, 0, none⟩) 5 5] W fun e w' => ∃ v, e = .returned (.tuple #[v, .int .i64 0]) ∧ IRow w' v [4, 3, 1, 0] ∧ Below W.heap.size W w' := by
  refine (ord_fit _ 5 5 lB W (any_lB h) (by decide)).mono ?_
  rintro e w' ⟨v, O, rfl, h1, h2, h3⟩
  have e1 := ord_uniq h1 lB_ord
  subst e1
  exact ⟨v, rfl, own_row h2, h3⟩
theorem al_with (g : Nat) (W : World) (h : Bs W g 0 5 lB) : Calls Try.prog 10 #[.slice (some ⟨g, 0, none⟩) 5 5, .agg #[.float .f64 4607182418800017408, .float .f64 4607182418800017408, .float .f64 4611686018427387904, .float .f64 4611686018427387904]] W fun e w' => ∃ v, e = .returned (.tuple #[v, .int .i64 0]) ∧ IRow w' v [1, 3, 4] ∧ Below W.heap.size W w' := by
  refine (with_any _ 5 5 lB (4607182418800017408, 4607182418800017408, 4611686018427387904, 4611686018427387904) W (any_lB h)).mono ?_
  rintro e w' ⟨v, rfl, h2, h3⟩
  have h4 := own_row h2
  rw [lB_with] at h4
  exact ⟨v, rfl, h4, h3.1⟩
theorem al_bet (g : Nat) (W : World) (h : Bs W g 0 5 lB) : Calls Try.prog 12 #[.slice (some ⟨g, 0, none⟩) 2 5, .slice (some ⟨g, 12, none⟩) 2 2] W fun e w' => ∃ v, e = .returned (.tuple #[v, .int .i64 0]) ∧ PRow w' v [(1, 0), (1, 1)] ∧ Below W.heap.size W w' := by
  have hl := World.block_lt_of_cell? _ _ (h 0 (by decide)).1
  refine (bet_any (some ⟨g, 0, none⟩) (some ⟨g, 12, none⟩) 2 5 2 2 lB (fun i => lB (i + 3)) W (.inr ⟨g, 0, rfl, fun i hi => h i (by omega), hl⟩) (.inr ⟨g, 12, rfl, fun i hi => ?_, hl⟩)).mono ?_
  · have := h (i + 3) (by omega)
    rwa [show 0 + (i + 3) * 4 = 12 + i * 4 by omega] at this
  rintro e w' ⟨v, rfl, h1, _, h3⟩
  have h2 := own_prow h1
  rw [lB_bet] at h2 ⊢
  exact ⟨v, rfl, h2, h3⟩
set_option maxRecDepth 100000 in
set_option maxHeartbeats 16000000 in
theorem alive_s (w : World) : Calls Try.prog 13 #[] w fun e w' => e = .returned (.bool true) ∧ Below w.heap.size w w' := by
  go_enter Try.func13, Try.ntmps13
  go_upto_region 2 with (first | (go_at_call 36; (with_reducible refine (nan13 _).mono ?_); rintro e w0 ⟨rfl, hw⟩; rw [hw]; clear hw) | (go_at_call 8; (with_reducible refine (b13_s _ _ _ _ _).mono ?_); rintro e w1 ⟨rfl, hb1⟩))
  obtain ⟨a0, a1, a2, a3⟩ := new4n w1 27
  refine wp_region_mono 7 rfl (fun i W v => match i with | 0 => v = .agg #[.float .f64 4617315517961601024, .float .f64 0, .float .f64 4618441417868443648, .float .f64 4621256167635550208] | 1 => v = .agg #[.float .f64 4611686018427387904, .float .f64 4611686018427387904, .float .f64 4616189618054758400, .float .f64 4616189618054758400] | 2 => v = .agg #[.float .f64 9221120237041090561, .float .f64 0, .float .f64 4607182418800017408, .float .f64 4607182418800017408] | 3 => v = .agg #[.float .f64 4607182418800017408, .float .f64 4607182418800017408, .float .f64 4613937818241073152, .float .f64 4613937818241073152] | 4 => v = .agg #[.float .f64 0, .float .f64 0, .float .f64 4611686018427387904, .float .f64 4611686018427387904] | 5 => ∃ g, v = .slice (some ⟨g, 0, none⟩) 5 5 ∧ Bs W g 0 5 lB | 6 => ∃ g, v = .slice (some ⟨g, 0, none⟩) 5 5 ∧ Bs W g 0 5 lB | _ => False) ?A_wu (by kernel_rfl) (by kernel_rfl) ?hA_wu ?hmo_wu ?hq_wu ?ht_wu
  case hA_wu =>
    intro s
    simp only [putL, dstO, Act.put, List.getElem?_toArray, List.getElem?_cons_zero, List.getElem?_cons_succ, Option.bind_some, List.setIfInBounds_toArray, List.set_cons_zero, List.set_cons_succ, if_true]
    all_goals exact rfl
  case hmo_wu =>
    intro i W W' v hi hb h
    rcases (show i = 0 ∨ i = 1 ∨ i = 2 ∨ i = 3 ∨ i = 4 ∨ i = 5 ∨ i = 6 by omega) with rfl | rfl | rfl | rfl | rfl | rfl | rfl
    all_goals first | exact h | (obtain ⟨x, e, o⟩ := h; exact ⟨x, e, Bs.bel o hb⟩)
  case hq_wu =>
    intro i o hi ho s W hs hb K hK
    have u0 := keepB hb a0; have u1 := keepB hb a1; have u2 := keepB hb a2; have u3 := keepB hb a3
    rcases (show i = 0 ∨ i = 1 ∨ i = 2 ∨ i = 3 ∨ i = 4 ∨ i = 5 ∨ i = 6 by omega) with rfl | rfl | rfl | rfl | rfl | rfl | rfl
    · cases ho
      simp only [Act.put, List.setIfInBounds_toArray, List.set_cons_zero, List.set_cons_succ] at hK
      clear hs
      go_simp
      all_goals (try go_wp2_with (first | (go_at_call 8; (with_reducible refine (b13_s _ _ _ _ _).mono ?_); rintro e w' ⟨rfl, hb9⟩)))
      all_goals first | (refine hK.out _ _ ⟨_, rfl, fun i hi => ?_⟩ (bl_alloc (bl_refl _) _ _); rcases (show i = 0 ∨ i = 1 ∨ i = 2 ∨ i = 3 ∨ i = 4 by omega) with rfl | rfl | rfl | rfl | rfl <;> refine ⟨?_, ?_, ?_, ?_⟩ <;> (rw [World.cell?_alloc_new]; rfl)) | (with_reducible exact hK.out _ _ ⟨_, rfl, o5⟩ (bl_refl _)) | (with_reducible exact hK.out _ _ rfl hb9) | exact hK.out _ _ rfl (bl_refl _) | exact hK.out _ _ rfl (by assumption) | exact hK.out _ _ (by assumption) (by assumption)
    · cases ho
      simp only [Act.put, List.setIfInBounds_toArray, List.set_cons_zero, List.set_cons_succ] at hK
      clear hs
      go_simp
      all_goals (try go_wp2_with (first | (go_at_call 8; (with_reducible refine (b13_s _ _ _ _ _).mono ?_); rintro e w' ⟨rfl, hb9⟩)))
      all_goals first | (refine hK.out _ _ ⟨_, rfl, fun i hi => ?_⟩ (bl_alloc (bl_refl _) _ _); rcases (show i = 0 ∨ i = 1 ∨ i = 2 ∨ i = 3 ∨ i = 4 by omega) with rfl | rfl | rfl | rfl | rfl <;> refine ⟨?_, ?_, ?_, ?_⟩ <;> (rw [World.cell?_alloc_new]; rfl)) | (with_reducible exact hK.out _ _ ⟨_, rfl, o5⟩ (bl_refl _)) | (with_reducible exact hK.out _ _ rfl hb9) | exact hK.out _ _ rfl (bl_refl _) | exact hK.out _ _ rfl (by assumption) | exact hK.out _ _ (by assumption) (by assumption)
    · cases ho
      simp only [Act.put, List.setIfInBounds_toArray, List.set_cons_zero, List.set_cons_succ] at hK
      clear hs
      go_simp
      all_goals (try go_wp2_with (first | (go_at_call 8; (with_reducible refine (b13_s _ _ _ _ _).mono ?_); rintro e w' ⟨rfl, hb9⟩)))
      all_goals first | (refine hK.out _ _ ⟨_, rfl, fun i hi => ?_⟩ (bl_alloc (bl_refl _) _ _); rcases (show i = 0 ∨ i = 1 ∨ i = 2 ∨ i = 3 ∨ i = 4 by omega) with rfl | rfl | rfl | rfl | rfl <;> refine ⟨?_, ?_, ?_, ?_⟩ <;> (rw [World.cell?_alloc_new]; rfl)) | (with_reducible exact hK.out _ _ ⟨_, rfl, o5⟩ (bl_refl _)) | (with_reducible exact hK.out _ _ rfl hb9) | exact hK.out _ _ rfl (bl_refl _) | exact hK.out _ _ rfl (by assumption) | exact hK.out _ _ (by assumption) (by assumption)
    · cases ho
      simp only [Act.put, List.setIfInBounds_toArray, List.set_cons_zero, List.set_cons_succ] at hK
      clear hs
      go_simp
      all_goals (try go_wp2_with (first | (go_at_call 8; (with_reducible refine (b13_s _ _ _ _ _).mono ?_); rintro e w' ⟨rfl, hb9⟩)))
      all_goals first | (refine hK.out _ _ ⟨_, rfl, fun i hi => ?_⟩ (bl_alloc (bl_refl _) _ _); rcases (show i = 0 ∨ i = 1 ∨ i = 2 ∨ i = 3 ∨ i = 4 by omega) with rfl | rfl | rfl | rfl | rfl <;> refine ⟨?_, ?_, ?_, ?_⟩ <;> (rw [World.cell?_alloc_new]; rfl)) | (with_reducible exact hK.out _ _ ⟨_, rfl, o5⟩ (bl_refl _)) | (with_reducible exact hK.out _ _ rfl hb9) | exact hK.out _ _ rfl (bl_refl _) | exact hK.out _ _ rfl (by assumption) | exact hK.out _ _ (by assumption) (by assumption)
    · cases ho
      simp only [Act.put, List.setIfInBounds_toArray, List.set_cons_zero, List.set_cons_succ] at hK
      clear hs
      go_simp
      all_goals (try go_wp2_with (first | (go_at_call 8; (with_reducible refine (b13_s _ _ _ _ _).mono ?_); rintro e w' ⟨rfl, hb9⟩)))
      all_goals first | (refine hK.out _ _ ⟨_, rfl, fun i hi => ?_⟩ (bl_alloc (bl_refl _) _ _); rcases (show i = 0 ∨ i = 1 ∨ i = 2 ∨ i = 3 ∨ i = 4 by omega) with rfl | rfl | rfl | rfl | rfl <;> refine ⟨?_, ?_, ?_, ?_⟩ <;> (rw [World.cell?_alloc_new]; rfl)) | (with_reducible exact hK.out _ _ ⟨_, rfl, o5⟩ (bl_refl _)) | (with_reducible exact hK.out _ _ rfl hb9) | exact hK.out _ _ rfl (bl_refl _) | exact hK.out _ _ rfl (by assumption) | exact hK.out _ _ (by assumption) (by assumption)
    · cases ho
      have e0 : s 0 = _ := hs 0 (by decide) (by kernel_rfl)
      have e1 : s 1 = _ := hs 1 (by decide) (by kernel_rfl)
      have e2 : s 2 = _ := hs 2 (by decide) (by kernel_rfl)
      have e3 : s 3 = _ := hs 3 (by decide) (by kernel_rfl)
      have e4 : s 4 = _ := hs 4 (by decide) (by kernel_rfl)
      simp only [e0, e1, e2, e3, e4] at hK ⊢
      simp only [Act.put, List.setIfInBounds_toArray, List.set_cons_zero, List.set_cons_succ] at hK
      clear hs
      go_simp
      all_goals (try go_wp2_with (first | (go_at_call 8; (with_reducible refine (b13_s _ _ _ _ _).mono ?_); rintro e w' ⟨rfl, hb9⟩)))
      all_goals first | (refine hK.out _ _ ⟨_, rfl, fun i hi => ?_⟩ (bl_alloc (bl_refl _) _ _); rcases (show i = 0 ∨ i = 1 ∨ i = 2 ∨ i = 3 ∨ i = 4 by omega) with rfl | rfl | rfl | rfl | rfl <;> refine ⟨?_, ?_, ?_, ?_⟩ <;> (rw [World.cell?_alloc_new]; rfl)) | (with_reducible exact hK.out _ _ ⟨_, rfl, o5⟩ (bl_refl _)) | (with_reducible exact hK.out _ _ rfl hb9) | exact hK.out _ _ rfl (bl_refl _) | exact hK.out _ _ rfl (by assumption) | exact hK.out _ _ (by assumption) (by assumption)
    · cases ho
      obtain ⟨g5, e5, o5⟩ := hs 5 (by decide) (by kernel_rfl)
      simp only [e5] at hK ⊢
      simp only [Act.put, List.setIfInBounds_toArray, List.set_cons_zero, List.set_cons_succ] at hK
      clear hs
      go_simp
      all_goals (try go_wp2_with (first | (go_at_call 8; (with_reducible refine (b13_s _ _ _ _ _).mono ?_); rintro e w' ⟨rfl, hb9⟩)))
      all_goals first | (refine hK.out _ _ ⟨_, rfl, fun i hi => ?_⟩ (bl_alloc (bl_refl _) _ _); rcases (show i = 0 ∨ i = 1 ∨ i = 2 ∨ i = 3 ∨ i = 4 by omega) with rfl | rfl | rfl | rfl | rfl <;> refine ⟨?_, ?_, ?_, ?_⟩ <;> (rw [World.cell?_alloc_new]; rfl)) | (with_reducible exact hK.out _ _ ⟨_, rfl, o5⟩ (bl_refl _)) | (with_reducible exact hK.out _ _ rfl hb9) | exact hK.out _ _ rfl (bl_refl _) | exact hK.out _ _ rfl (by assumption) | exact hK.out _ _ (by assumption) (by assumption)
  case ht_wu =>
    intro s w2 hs hb
    have e0 : s 0 = _ := hs 0 (by decide)
    have e1 : s 1 = _ := hs 1 (by decide)
    have e2 : s 2 = _ := hs 2 (by decide)
    have e3 : s 3 = _ := hs 3 (by decide)
    have e4 : s 4 = _ := hs 4 (by decide)
    obtain ⟨g5, e5, o5⟩ := hs 5 (by decide)
    obtain ⟨g, e6, hB2⟩ := hs 6 (by decide)
    simp only [e0, e1, e2, e3, e4, e5, e6]
    clear hs e0 e1 e2 e3 e4 e5 e6
  
    have L2 := bw_trans (bl_alloc hb1 _ _).1 hb.1
    clear hb
    go_upto_region 6 with (first | (go_at_call 9; (with_reducible refine (al_pairs g _ hB2).mono ?_); rintro e w3 ⟨vp, rfl, hp, hb3⟩; have L3 := bw_trans L2 hb3; have hB3 := hB2.below hb3) | (go_at_call 11; (with_reducible refine (al_ord g _ hB3).mono ?_); rintro e w4 ⟨vq, rfl, hq, hb4⟩; have L4 := bw_trans L3 hb4; have hB4 := hB3.below hb4; replace hp := hp.below hb4) | (go_at_call 8; (with_reducible refine (b13_s _ _ _ _ _).mono ?_); rintro e w4b ⟨rfl, hb4b⟩; replace L4 := bw_trans L4 hb4b.1; replace hB4 := hB4.below hb4b.1; replace hp := hp.below hb4b.1; replace hq := hq.below hb4b.1) | (go_at_call 10; (with_reducible refine (al_with g _ hB4).mono ?_); rintro e w5 ⟨vr, rfl, hr, hb5⟩; have L5 := bw_trans L4 hb5; have hB5 := hB4.below hb5; replace hp := hp.below hb5; replace hq := hq.below hb5))
    have hBe : ∀ W, NB w5 W → Calls Try.prog 12 #[.slice (some ⟨g, 0, none⟩) 2 5, .slice (some ⟨g, 12, none⟩) 2 2] W fun e w' => ∃ v, e = .returned (.tuple #[v, .int .i64 0]) ∧ PRow w' v [(1, 0), (1, 1)] ∧ NB W w' := fun W hb => al_bet g W (hB5.below hb)
    refine wp_region_monoN 10 rfl (fun i W v => match i with | 0 => v = .slice (some ⟨g, 0, none⟩) 5 5 | 1 => v = .slice (some ⟨g, 0, none⟩) 2 5 | 2 => v = .slice (some ⟨g, 0, none⟩) 5 5 | 3 => v = .slice (some ⟨g, 12, none⟩) 2 2 | 4 => ∃ x, v = .tuple #[x, .int .i64 0] ∧ PRow W x [(1, 0), (1, 1)] | 5 => ∃ x, v = .tuple #[x, .int .i64 0] ∧ PRow W x [(1, 0), (1, 1)] | 6 => ∃ x, v = x ∧ PRow W x [(1, 0), (1, 1)] | 7 => v = .int .i64 0 | 8 => ∃ x, v = x ∧ PRow W x [(1, 0), (1, 1)] | 9 => v = .int .i64 0 | _ => False) NB nb_drew (fun _ _ _ => nb_trans) ?A_wv (by kernel_rfl) (by kernel_rfl) ?hA_wv ?hmo_wv ?hq_wv ?ht_wv
    case hA_wv =>
      intro s
      simp only [putL, dstO, Act.put, List.getElem?_toArray, List.getElem?_cons_zero, List.getElem?_cons_succ, Option.bind_some, List.setIfInBounds_toArray, List.set_cons_zero, List.set_cons_succ, if_true]
      all_goals exact rfl
    case hmo_wv =>
      intro i W W' v hi _ hb h
      rcases (show i = 0 ∨ i = 1 ∨ i = 2 ∨ i = 3 ∨ i = 4 ∨ i = 5 ∨ i = 6 ∨ i = 7 ∨ i = 8 ∨ i = 9 by omega) with rfl | rfl | rfl | rfl | rfl | rfl | rfl | rfl | rfl | rfl
      all_goals first | exact h | (obtain ⟨x, e, o⟩ := h; exact ⟨x, e, PRow.below o hb⟩)
    case hq_wv =>
      intro i o hi ho s W hs hb K hK
      rcases (show i = 0 ∨ i = 1 ∨ i = 2 ∨ i = 3 ∨ i = 4 ∨ i = 5 ∨ i = 6 ∨ i = 7 ∨ i = 8 ∨ i = 9 by omega) with rfl | rfl | rfl | rfl | rfl | rfl | rfl | rfl | rfl | rfl
      · cases ho
        simp only [Act.put, List.setIfInBounds_toArray, List.set_cons_zero, List.set_cons_succ] at hK
        clear hs
        go_simp
        all_goals (try go_wp2_with (first | (go_at_call 12; (with_reducible refine (hBe _ hb).mono ?_); rintro e w' ⟨V8, rfl, hG8, hb8⟩)))
        all_goals first | (with_reducible exact hK.out _ _ ⟨_, rfl, hG8⟩ hb8) | (with_reducible exact hK.out _ _ ⟨_, rfl, o4⟩ nb_refl) | (with_reducible exact hK.out _ _ ⟨_, rfl, o5⟩ nb_refl) | (with_reducible exact hK.out _ _ ⟨_, rfl, o6⟩ nb_refl) | with_reducible exact hK.out _ _ rfl nb_refl | exact hK.out _ _ rfl (by assumption) | exact hK.out _ _ (by assumption) (by assumption)
      · cases ho
        have e0 : s 0 = _ := hs 0 (by decide) (by kernel_rfl)
        simp only [e0] at hK ⊢
        simp only [Act.put, List.setIfInBounds_toArray, List.set_cons_zero, List.set_cons_succ] at hK
        clear hs
        go_simp
        all_goals (try go_wp2_with (first | (go_at_call 12; (with_reducible refine (hBe _ hb).mono ?_); rintro e w' ⟨V8, rfl, hG8, hb8⟩)))
        all_goals first | (with_reducible exact hK.out _ _ ⟨_, rfl, hG8⟩ hb8) | (with_reducible exact hK.out _ _ ⟨_, rfl, o4⟩ nb_refl) | (with_reducible exact hK.out _ _ ⟨_, rfl, o5⟩ nb_refl) | (with_reducible exact hK.out _ _ ⟨_, rfl, o6⟩ nb_refl) | with_reducible exact hK.out _ _ rfl nb_refl | exact hK.out _ _ rfl (by assumption) | exact hK.out _ _ (by assumption) (by assumption)
      · cases ho
        simp only [Act.put, List.setIfInBounds_toArray, List.set_cons_zero, List.set_cons_succ] at hK
        clear hs
        go_simp
        all_goals (try go_wp2_with (first | (go_at_call 12; (with_reducible refine (hBe _ hb).mono ?_); rintro e w' ⟨V8, rfl, hG8, hb8⟩)))
        all_goals first | (with_reducible exact hK.out _ _ ⟨_, rfl, hG8⟩ hb8) | (with_reducible exact hK.out _ _ ⟨_, rfl, o4⟩ nb_refl) | (with_reducible exact hK.out _ _ ⟨_, rfl, o5⟩ nb_refl) | (with_reducible exact hK.out _ _ ⟨_, rfl, o6⟩ nb_refl) | with_reducible exact hK.out _ _ rfl nb_refl | exact hK.out _ _ rfl (by assumption) | exact hK.out _ _ (by assumption) (by assumption)
      · cases ho
        have e2 : s 2 = _ := hs 2 (by decide) (by kernel_rfl)
        simp only [e2] at hK ⊢
        simp only [Act.put, List.setIfInBounds_toArray, List.set_cons_zero, List.set_cons_succ] at hK
        clear hs
        go_simp
        all_goals (try go_wp2_with (first | (go_at_call 12; (with_reducible refine (hBe _ hb).mono ?_); rintro e w' ⟨V8, rfl, hG8, hb8⟩)))
        all_goals first | (with_reducible exact hK.out _ _ ⟨_, rfl, hG8⟩ hb8) | (with_reducible exact hK.out _ _ ⟨_, rfl, o4⟩ nb_refl) | (with_reducible exact hK.out _ _ ⟨_, rfl, o5⟩ nb_refl) | (with_reducible exact hK.out _ _ ⟨_, rfl, o6⟩ nb_refl) | with_reducible exact hK.out _ _ rfl nb_refl | exact hK.out _ _ rfl (by assumption) | exact hK.out _ _ (by assumption) (by assumption)
      · cases ho
        have e1 : s 1 = _ := hs 1 (by decide) (by kernel_rfl)
        have e3 : s 3 = _ := hs 3 (by decide) (by kernel_rfl)
        simp only [e1, e3] at hK ⊢
        simp only [Act.put, List.setIfInBounds_toArray, List.set_cons_zero, List.set_cons_succ] at hK
        clear hs
        go_simp
        all_goals (try go_wp2_with (first | (go_at_call 12; (with_reducible refine (hBe _ hb).mono ?_); rintro e w' ⟨V8, rfl, hG8, hb8⟩)))
        all_goals first | (with_reducible exact hK.out _ _ ⟨_, rfl, hG8⟩ hb8) | (with_reducible exact hK.out _ _ ⟨_, rfl, o4⟩ nb_refl) | (with_reducible exact hK.out _ _ ⟨_, rfl, o5⟩ nb_refl) | (with_reducible exact hK.out _ _ ⟨_, rfl, o6⟩ nb_refl) | with_reducible exact hK.out _ _ rfl nb_refl | exact hK.out _ _ rfl (by assumption) | exact hK.out _ _ (by assumption) (by assumption)
      · cases ho
        obtain ⟨x4, e4, o4⟩ := hs 4 (by decide) (by kernel_rfl)
        simp only [e4] at hK ⊢
        simp only [Act.put, List.setIfInBounds_toArray, List.set_cons_zero, List.set_cons_succ] at hK
        clear hs
        go_simp
        all_goals (try go_wp2_with (first | (go_at_call 12; (with_reducible refine (hBe _ hb).mono ?_); rintro e w' ⟨V8, rfl, hG8, hb8⟩)))
        all_goals first | (with_reducible exact hK.out _ _ ⟨_, rfl, hG8⟩ hb8) | (with_reducible exact hK.out _ _ ⟨_, rfl, o4⟩ nb_refl) | (with_reducible exact hK.out _ _ ⟨_, rfl, o5⟩ nb_refl) | (with_reducible exact hK.out _ _ ⟨_, rfl, o6⟩ nb_refl) | with_reducible exact hK.out _ _ rfl nb_refl | exact hK.out _ _ rfl (by assumption) | exact hK.out _ _ (by assumption) (by assumption)
      · cases ho
        obtain ⟨x5, e5, o5⟩ := hs 5 (by decide) (by kernel_rfl)
        simp only [e5] at hK ⊢
        simp only [Act.put, List.setIfInBounds_toArray, List.set_cons_zero, List.set_cons_succ] at hK
        clear hs
        go_simp
        all_goals (try go_wp2_with (first | (go_at_call 12; (with_reducible refine (hBe _ hb).mono ?_); rintro e w' ⟨V8, rfl, hG8, hb8⟩)))
        all_goals first | (with_reducible exact hK.out _ _ ⟨_, rfl, hG8⟩ hb8) | (with_reducible exact hK.out _ _ ⟨_, rfl, o4⟩ nb_refl) | (with_reducible exact hK.out _ _ ⟨_, rfl, o5⟩ nb_refl) | (with_reducible exact hK.out _ _ ⟨_, rfl, o6⟩ nb_refl) | with_reducible exact hK.out _ _ rfl nb_refl | exact hK.out _ _ rfl (by assumption) | exact hK.out _ _ (by assumption) (by assumption)
      · cases ho
        obtain ⟨x5, e5, o5⟩ := hs 5 (by decide) (by kernel_rfl)
        simp only [e5] at hK ⊢
        simp only [Act.put, List.setIfInBounds_toArray, List.set_cons_zero, List.set_cons_succ] at hK
        clear hs
        go_simp
        all_goals (try go_wp2_with (first | (go_at_call 12; (with_reducible refine (hBe _ hb).mono ?_); rintro e w' ⟨V8, rfl, hG8, hb8⟩)))
        all_goals first | (with_reducible exact hK.out _ _ ⟨_, rfl, hG8⟩ hb8) | (with_reducible exact hK.out _ _ ⟨_, rfl, o4⟩ nb_refl) | (with_reducible exact hK.out _ _ ⟨_, rfl, o5⟩ nb_refl) | (with_reducible exact hK.out _ _ ⟨_, rfl, o6⟩ nb_refl) | with_reducible exact hK.out _ _ rfl nb_refl | exact hK.out _ _ rfl (by assumption) | exact hK.out _ _ (by assumption) (by assumption)
      · cases ho
        obtain ⟨x6, e6, o6⟩ := hs 6 (by decide) (by kernel_rfl)
        simp only [e6] at hK ⊢
        simp only [Act.put, List.setIfInBounds_toArray, List.set_cons_zero, List.set_cons_succ] at hK
        clear hs
        go_simp
        all_goals (try go_wp2_with (first | (go_at_call 12; (with_reducible refine (hBe _ hb).mono ?_); rintro e w' ⟨V8, rfl, hG8, hb8⟩)))
        all_goals first | (with_reducible exact hK.out _ _ ⟨_, rfl, hG8⟩ hb8) | (with_reducible exact hK.out _ _ ⟨_, rfl, o4⟩ nb_refl) | (with_reducible exact hK.out _ _ ⟨_, rfl, o5⟩ nb_refl) | (with_reducible exact hK.out _ _ ⟨_, rfl, o6⟩ nb_refl) | with_reducible exact hK.out _ _ rfl nb_refl | exact hK.out _ _ rfl (by assumption) | exact hK.out _ _ (by assumption) (by assumption)
      · cases ho
        have e7 : s 7 = _ := hs 7 (by decide) (by kernel_rfl)
        simp only [e7] at hK ⊢
        simp only [Act.put, List.setIfInBounds_toArray, List.set_cons_zero, List.set_cons_succ] at hK
        clear hs
        go_simp
        all_goals (try go_wp2_with (first | (go_at_call 12; (with_reducible refine (hBe _ hb).mono ?_); rintro e w' ⟨V8, rfl, hG8, hb8⟩)))
        all_goals first | (with_reducible exact hK.out _ _ ⟨_, rfl, hG8⟩ hb8) | (with_reducible exact hK.out _ _ ⟨_, rfl, o4⟩ nb_refl) | (with_reducible exact hK.out _ _ ⟨_, rfl, o5⟩ nb_refl) | (with_reducible exact hK.out _ _ ⟨_, rfl, o6⟩ nb_refl) | with_reducible exact hK.out _ _ rfl nb_refl | exact hK.out _ _ rfl (by assumption) | exact hK.out _ _ (by assumption) (by assumption)
    case ht_wv =>
      intro s w6 hs hb
      have e0 : s 0 = _ := hs 0 (by decide)
      have e1 : s 1 = _ := hs 1 (by decide)
      have e2 : s 2 = _ := hs 2 (by decide)
      have e3 : s 3 = _ := hs 3 (by decide)
      obtain ⟨x4, e4, o4⟩ := hs 4 (by decide)
      obtain ⟨x5, e5, o5⟩ := hs 5 (by decide)
      obtain ⟨x6, e6, o6⟩ := hs 6 (by decide)
      have e7 : s 7 = _ := hs 7 (by decide)
      obtain ⟨vs, e8, hs8⟩ := hs 8 (by decide)
      have e9 : s 9 = _ := hs 9 (by decide)
      simp only [e0, e1, e2, e3, e4, e5, e6, e7, e8, e9]
      clear hs e0 e1 e2 e3 e4 e5 e6 e7 e8 e9
    
      have L6 := bw_trans L5 hb
      replace hp := hp.below hb
      replace hq := hq.below hb
      replace hr := hr.below hb
      have HP : ∀ c t, PRow (w6.alloc (.cells c t)) vp [(1, 3), (1, 4), (3, 4)] := fun c t => hp.below (bl_alloc (bl_refl w6) c t).1
      go_wp2_with (first | (go_at_call 37; first | (have zn := mA; clear zn; (with_reducible refine (sameP_s [(1, 0), (1, 1)] _ _ _ (HS _ _) (newBb _ _) (by decide)).mono ?_); rintro e w10 ⟨rfl, hb10⟩; have B10 := bl_trans (bl_alloc B9 _ _) hb10) | ((with_reducible refine (sameP_s [(1, 3), (1, 4), (3, 4)] _ _ _ (HP _ _) (newP _ _) (by decide)).mono ?_); rintro e w7 ⟨rfl, hb7⟩; have B7 := bl_trans (bl_alloc (bl_refl w6) _ _) hb7; have HQ : ∀ c t, IRow (w7.alloc (.cells c t)) vq [4, 3, 1, 0] := (fun c t => (hq.below B7.1).below (bl_alloc (bl_refl w7) c t).1); have mA := hide True.intro)) | (go_at_call 38; first | (have zn := mB; clear zn; (with_reducible refine (sameI_s [1, 3, 4] _ _ _ (HR _ _) (newW _ _) (by decide)).mono ?_); rintro e w9 ⟨rfl, hb9⟩; have B9 := bl_trans (bl_alloc B8 _ _) hb9; have HS : ∀ c t, PRow (w9.alloc (.cells c t)) vs [(1, 0), (1, 1)] := (fun c t => (hs8.below B9.1).below (bl_alloc (bl_refl w9) c t).1)) | ((with_reducible refine (sameI_s [4, 3, 1, 0] _ _ _ (HQ _ _) (newO _ _) (by decide)).mono ?_); rintro e w8 ⟨rfl, hb8⟩; have B8 := bl_trans (bl_alloc B7 _ _) hb8; have HR : ∀ c t, IRow (w8.alloc (.cells c t)) vr [1, 3, 4] := (fun c t => (hr.below B8.1).below (bl_alloc (bl_refl w8) c t).1); have mB := hide True.intro)))
      go_ret
      exact ⟨by first | rfl | simp, bw_trans L6 B10.1⟩

end Go.Proofs.Ytgcklheijcfneaa
