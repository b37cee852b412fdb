/-
  What each function of package box answers, and what the reference of its chapter answers: one contract a function, for every float: the answer stands in the relation of its formula to what was given; of the memory that was there nothing has turned.
-/
import Derived.Test.YtdpbkfdccoogkabVec
import Derived.Test.YtdpbkfdccoogkabBprog
import Derived.Below
import Derived.WalkKit
import Derived.WalkLawsBesides
import Derived.WalkSpells
import Derived.ProofKit
import Derived.OpenShut
import Derived.Deep.RegionHeld3
namespace Go.Proofs.Ytdpbkfdccoogkab
open Go.ChangeShapes Go.WideShapes Go.ChangeAt Go.RowKit
set_option linter.unusedVariables false
set_option linter.unusedSimpArgs false


set_option maxHeartbeats 1000000 in
theorem bSame_any (alx aly ahx ahy blx bly bhx bhy : Nat) (w : World) : Calls Try.prog 31 #[.agg #[.float .f64 alx, .float .f64 aly, .float .f64 ahx, .float .f64 ahy], .agg #[.float .f64 blx, .float .f64 bly, .float .f64 bhx, .float .f64 bhy]] w fun e w' => e = .returned (.bool ((smK .f64 alx blx && smK .f64 aly bly) && (smK .f64 ahx bhx && smK .f64 ahy bhy))) ∧ Bel w w' := by
  cases h1 : (smK .f64 alx blx && smK .f64 aly bly)
  all_goals
    go_enter Try.func31, Try.ntmps31
    go_wp2_with (first | (go_at_call 49; refine (rSame_any _ _ _ _ _).mono ?_; rintro e w' ⟨rfl, hb⟩; have ka0 := keep hb (a := ⟨w.heap.size, 0, none⟩) (v := .float .f64 alx) (by first | assumption | go_keep | exact up_alloc (by go_keep) | exact (cell_own (by simp) _ _ _).1 | exact (cell_own (by simp) _ _ _).2 | exact up_alloc (cell_own (by simp) _ _ _).1 | exact up_alloc (cell_own (by simp) _ _ _).2); have ka1 := keep hb (a := ⟨w.heap.size, 1, none⟩) (v := .float .f64 aly) (by first | assumption | go_keep | exact up_alloc (by go_keep) | exact (cell_own (by simp) _ _ _).1 | exact (cell_own (by simp) _ _ _).2 | exact up_alloc (cell_own (by simp) _ _ _).1 | exact up_alloc (cell_own (by simp) _ _ _).2); have ka2 := keep hb (a := ⟨w.heap.size, 2, none⟩) (v := .float .f64 ahx) (by first | assumption | go_keep | exact up_alloc (by go_keep) | exact (cell_own (by simp) _ _ _).1 | exact (cell_own (by simp) _ _ _).2 | exact up_alloc (cell_own (by simp) _ _ _).1 | exact up_alloc (cell_own (by simp) _ _ _).2); have ka3 := keep hb (a := ⟨w.heap.size, 3, none⟩) (v := .float .f64 ahy) (by first | assumption | go_keep | exact up_alloc (by go_keep) | exact (cell_own (by simp) _ _ _).1 | exact (cell_own (by simp) _ _ _).2 | exact up_alloc (cell_own (by simp) _ _ _).1 | exact up_alloc (cell_own (by simp) _ _ _).2); have kb0 := keep hb (a := ⟨w.heap.size + 1, 0, none⟩) (v := .float .f64 blx) (by first | assumption | go_keep | exact up_alloc (by go_keep) | exact (cell_own (by simp) _ _ _).1 | exact (cell_own (by simp) _ _ _).2 | exact up_alloc (cell_own (by simp) _ _ _).1 | exact up_alloc (cell_own (by simp) _ _ _).2); have kb1 := keep hb (a := ⟨w.heap.size + 1, 1, none⟩) (v := .float .f64 bly) (by first | assumption | go_keep | exact up_alloc (by go_keep) | exact (cell_own (by simp) _ _ _).1 | exact (cell_own (by simp) _ _ _).2 | exact up_alloc (cell_own (by simp) _ _ _).1 | exact up_alloc (cell_own (by simp) _ _ _).2); have kb2 := keep hb (a := ⟨w.heap.size + 1, 2, none⟩) (v := .float .f64 bhx) (by first | assumption | go_keep | exact up_alloc (by go_keep) | exact (cell_own (by simp) _ _ _).1 | exact (cell_own (by simp) _ _ _).2 | exact up_alloc (cell_own (by simp) _ _ _).1 | exact up_alloc (cell_own (by simp) _ _ _).2); have kb3 := keep hb (a := ⟨w.heap.size + 1, 3, none⟩) (v := .float .f64 bhy) (by first | assumption | go_keep | exact up_alloc (by go_keep) | exact (cell_own (by simp) _ _ _).1 | exact (cell_own (by simp) _ _ _).2 | exact up_alloc (cell_own (by simp) _ _ _).1 | exact up_alloc (cell_own (by simp) _ _ _).2)))
    go_ret
    refine ⟨by first | rfl | simp [h1], ?_⟩
    repeat (first | exact bl_refl _ | assumption | apply bl_drewN | apply bl_drew | apply bl_alloc | refine bl_set ?_ (by simp <;> omega) | refine bl_trans ?_ (by assumption))
theorem bis_any (alx aly ahx ahy blx bly bhx bhy : Nat) (w : World) : Calls Try.prog 15 #[.agg #[.float .f64 alx, .float .f64 aly, .float .f64 ahx, .float .f64 ahy], .agg #[.float .f64 blx, .float .f64 bly, .float .f64 bhx, .float .f64 bhy]] w fun e w' => e = .returned (.bool ((smK .f64 alx blx && smK .f64 aly bly) && (smK .f64 ahx bhx && smK .f64 ahy bhy))) ∧ Bel w w' := by
  go_enter Try.func15, Try.ntmps15
  go_wp2_with (first | (go_at_call 31; refine (bSame_any _ _ _ _ _ _ _ _ _ ).mono ?_; rintro e w' ⟨rfl, hb⟩))
  go_ret
  refine ⟨rfl, ?_⟩
  repeat (first | exact bl_refl _ | assumption | apply bl_drewN | apply bl_drew | apply bl_alloc | refine bl_set ?_ (by simp <;> omega) | refine bl_trans ?_ (by assumption))
theorem bis_true (alx aly ahx ahy blx bly bhx bhy : Nat) (w : World) (h : smK .f64 alx blx = true ∧ smK .f64 aly bly = true ∧ smK .f64 ahx bhx = true ∧ smK .f64 ahy bhy = true) : Calls Try.prog 15 #[.agg #[.float .f64 alx, .float .f64 aly, .float .f64 ahx, .float .f64 ahy], .agg #[.float .f64 blx, .float .f64 bly, .float .f64 bhx, .float .f64 bhy]] w fun e w' => e = .returned (.bool true) ∧ Bel w w' := by
  have g := bis_any alx aly ahx ahy blx bly bhx bhy w
  obtain ⟨h1, h2, h3, h4⟩ := h
  rw [h1, h2, h3, h4] at g
  exact g
theorem bis_self (a b c d : Nat) (w : World) : Calls Try.prog 15 #[.agg #[.float .f64 a, .float .f64 b, .float .f64 c, .float .f64 d], .agg #[.float .f64 a, .float .f64 b, .float .f64 c, .float .f64 d]] w fun e w' => e = .returned (.bool true) ∧ Bel w w' :=
  bis_true a b c d a b c d w ⟨smK_self _ _, smK_self _ _, smK_self _ _, smK_self _ _⟩
theorem lfour_any (a b c d : Nat) (w : World) : Calls Try.prog 21 #[.float .f64 a, .float .f64 b, .float .f64 c, .float .f64 d] w fun e w' => e = .returned (.agg #[.float .f64 a, .float .f64 b, .float .f64 c, .float .f64 d]) ∧ Bel w w' := by
  go_enter Try.func21, Try.ntmps21
  go_wp2
  refine bodyPost_ret (v := .agg #[.float .f64 a, .float .f64 b, .float .f64 c, .float .f64 d]) (by simp [results, Try.results21, go_sem] <;> (first | exact ⟨rfl, rfl, rfl, rfl⟩ | exact ⟨rfl, rfl⟩ | rfl)) rfl ⟨rfl, ?_⟩
  repeat (first | exact bl_refl _ | assumption | apply bl_drewN | apply bl_drew | apply bl_alloc | refine bl_set ?_ (by simp <;> omega) | refine bl_trans ?_ (by assumption))

end Go.Proofs.Ytdpbkfdccoogkab
