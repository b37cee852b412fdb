/-
  What each function of package box answers, and what the reference of its chapter answers: one contract a function, for every float: the answer stands in the relation of its formula to what was given; of the memory that was there nothing has turned.
-/
import Derived.Test.YtnbkjkbgfcpcfaaVec
import Derived.Test.YtnbkjkbgfcpcfaaBox
import Derived.Test.YtnbkjkbgfcpcfaaPa
import Derived.Below
import Derived.WalkKit
import Derived.WalkLawsBesides
import Derived.WalkSpells
import Derived.ProofKit
import Derived.OpenShut
import Derived.Deep.RegionHeld3
namespace Go.Proofs.Ytnbkjkbgfcpcfaa
open Go.ChangeShapes Go.WideShapes Go.ChangeAt Go.RowKit
set_option linter.unusedVariables false
set_option linter.unusedSimpArgs false

set_option maxHeartbeats 400000 in
theorem xleast_any (ax ay bx b_y : Nat) (w : World) : Calls Try.prog 134 #[.agg #[.float .f64 ax, .float .f64 ay], .agg #[.float .f64 bx, .float .f64 b_y]] w fun e w' => e = .returned (.agg #[.float .f64 (leastK .f64 ax bx), .float .f64 (leastK .f64 ay b_y)]) ∧ Bel w w' := by
  go_enter Try.func134, Try.ntmps134
  go_wp2
  go_region_held3 (fun w1 => w1.cell? ⟨w.heap.size, 0, none⟩ = some (.float .f64 ax) ∧ w1.cell? ⟨w.heap.size, 1, none⟩ = some (.float .f64 ay) ∧ w1.cell? ⟨w.heap.size + 1, 0, none⟩ = some (.float .f64 bx) ∧ w1.cell? ⟨w.heap.size + 1, 1, none⟩ = some (.float .f64 b_y)) (first | ((try go_split_ands); refine ⟨?_, ?_, ?_, ?_⟩ <;> (first | ((repeat' (first | (with_reducible assumption) | (with_reducible refine up_drew ?_) | (with_reducible refine up_drewN ?_) | (with_reducible refine keep hb ?_) | (with_reducible refine up_set2 ?_ ?_) | (with_reducible refine (cell_own ?_ _ _ _).1) | (with_reducible refine (cell_own ?_ _ _ _).2) | (with_reducible refine up_alloc ?_) | omega | (simp; done))); done) | go_keep)))
    (first | (go_at_call 140; refine (least_6 _ _ _).mono ?_; rintro e w' ⟨rfl, rfl⟩))
  all_goals go_wp2
  refine bodyPost_ret (v := .agg #[.float .f64 (leastK .f64 ax bx), .float .f64 (leastK .f64 ay b_y)]) (by simp [results, Try.results134, go_sem] <;> (first | exact ⟨rfl, rfl⟩ | rfl)) rfl ⟨rfl, ?_⟩
  repeat (first | exact bl_refl _ | assumption | apply bl_drewN | apply bl_drew | apply bl_alloc | refine bl_set ?_ (by simp <;> omega) | refine bl_trans ?_ (by assumption))

set_option maxHeartbeats 400000 in
theorem xmost_any (ax ay bx b_y : Nat) (w : World) : Calls Try.prog 135 #[.agg #[.float .f64 ax, .float .f64 ay], .agg #[.float .f64 bx, .float .f64 b_y]] w fun e w' => e = .returned (.agg #[.float .f64 (mostK .f64 ax bx), .float .f64 (mostK .f64 ay b_y)]) ∧ Bel w w' := by
  go_enter Try.func135, Try.ntmps135
  go_wp2
  go_region_held3 (fun w1 => w1.cell? ⟨w.heap.size, 0, none⟩ = some (.float .f64 ax) ∧ w1.cell? ⟨w.heap.size, 1, none⟩ = some (.float .f64 ay) ∧ w1.cell? ⟨w.heap.size + 1, 0, none⟩ = some (.float .f64 bx) ∧ w1.cell? ⟨w.heap.size + 1, 1, none⟩ = some (.float .f64 b_y)) (first | ((try go_split_ands); refine ⟨?_, ?_, ?_, ?_⟩ <;> (first | ((repeat' (first | (with_reducible assumption) | (with_reducible refine up_drew ?_) | (with_reducible refine up_drewN ?_) | (with_reducible refine keep hb ?_) | (with_reducible refine up_set2 ?_ ?_) | (with_reducible refine (cell_own ?_ _ _ _).1) | (with_reducible refine (cell_own ?_ _ _ _).2) | (with_reducible refine up_alloc ?_) | omega | (simp; done))); done) | go_keep)))
    (first | (go_at_call 50; refine (most_6 _ _ _).mono ?_; rintro e w' ⟨rfl, rfl⟩))
  all_goals go_wp2
  refine bodyPost_ret (v := .agg #[.float .f64 (mostK .f64 ax bx), .float .f64 (mostK .f64 ay b_y)]) (by simp [results, Try.results135, go_sem] <;> (first | exact ⟨rfl, rfl⟩ | rfl)) rfl ⟨rfl, ?_⟩
  repeat (first | exact bl_refl _ | assumption | apply bl_drewN | apply bl_drew | apply bl_alloc | refine bl_set ?_ (by simp <;> omega) | refine bl_trans ?_ (by assumption))

set_option maxHeartbeats 2000000 in
theorem xJoin_any (alx aly ahx ahy blx bly bhx bhy : Nat) (w : World) : Calls Try.prog 125 #[.agg #[.float .f64 alx, .float .f64 aly, .float .f64 ahx, .float .f64 ahy], .agg #[.float .f64 blx, .float .f64 bly, .float .f64 bhx, .float .f64 bhy]] w fun e w' => e = .returned (.agg #[.float .f64 (leastK .f64 alx blx), .float .f64 (leastK .f64 aly bly), .float .f64 (mostK .f64 ahx bhx), .float .f64 (mostK .f64 ahy bhy)]) ∧ Bel w w' := by
  go_enter Try.func125, Try.ntmps125
  go_wp2
  go_region_held3 (fun w1 => w1.cell? ⟨w.heap.size, 0, none⟩ = some (.float .f64 alx) ∧ w1.cell? ⟨w.heap.size, 1, none⟩ = some (.float .f64 aly) ∧ w1.cell? ⟨w.heap.size, 2, none⟩ = some (.float .f64 ahx) ∧ w1.cell? ⟨w.heap.size, 3, none⟩ = some (.float .f64 ahy) ∧ w1.cell? ⟨w.heap.size + 1, 0, none⟩ = some (.float .f64 blx) ∧ w1.cell? ⟨w.heap.size + 1, 1, none⟩ = some (.float .f64 bly) ∧ w1.cell? ⟨w.heap.size + 1, 2, none⟩ = some (.float .f64 bhx) ∧ w1.cell? ⟨w.heap.size + 1, 3, none⟩ = some (.float .f64 bhy)) (first | ((try go_split_ands); refine ⟨?_, ?_, ?_, ?_, ?_, ?_, ?_, ?_⟩ <;> (first | ((repeat' (first | (with_reducible assumption) | (with_reducible refine up_drew ?_) | (with_reducible refine up_drewN ?_) | (with_reducible refine keep hb ?_) | (with_reducible refine up_set2 ?_ ?_) | (with_reducible refine (cell_own ?_ _ _ _).1) | (with_reducible refine (cell_own ?_ _ _ _).2) | (with_reducible refine up_alloc ?_) | omega | (simp; done))); done) | go_keep)))
    (first | (go_at_call 134; refine (xleast_any _ _ _ _ _).mono ?_; rintro e w' ⟨rfl, hb⟩; have B := hb; obtain ⟨hc, hf⟩ := bcell B; have hz := B.size; (try simp at hz)) | (go_at_call 135; refine (xmost_any _ _ _ _ _).mono ?_; rintro e w' ⟨rfl, hb⟩; clear hc hf hz; have B := bl_trans B hb; obtain ⟨hc, hf⟩ := bcell B; have hz := B.size; (try simp at hz)))
  all_goals go_wp2
  refine bodyPost_ret (v := .agg #[.float .f64 (leastK .f64 alx blx), .float .f64 (leastK .f64 aly bly), .float .f64 (mostK .f64 ahx bhx), .float .f64 (mostK .f64 ahy bhy)]) (by simp [hc, results, Try.results125, go_sem] <;> (first | exact ⟨rfl, rfl, rfl, rfl⟩ | exact ⟨rfl, rfl⟩ | rfl)) rfl ⟨rfl, ?_⟩
  repeat (first | exact bl_refl _ | assumption | apply bl_drewN | apply bl_drew | apply bl_alloc | refine bl_set ?_ (by simp <;> omega) | refine bl_trans ?_ (by assumption))
set_option maxHeartbeats 2000000 in
theorem xGrow_any (lx ly hx hy m : Nat) (w : World) : Calls Try.prog 106 #[.agg #[.float .f64 lx, .float .f64 ly, .float .f64 hx, .float .f64 hy], .float .f64 m] w fun e w' => ∃ a b c d, GrowR lx ly hx hy m a b c d ∧ e = .returned (.agg #[.float .f64 a, .float .f64 b, .float .f64 c, .float .f64 d]) ∧ Bel w w' := by
  go_enter Try.func106, Try.ntmps106
  go_wp2
  go_region_held3 (fun w1 => w1.cell? ⟨w.heap.size, 0, none⟩ = some (.float .f64 lx) ∧ w1.cell? ⟨w.heap.size, 1, none⟩ = some (.float .f64 ly) ∧ w1.cell? ⟨w.heap.size, 2, none⟩ = some (.float .f64 hx) ∧ w1.cell? ⟨w.heap.size, 3, none⟩ = some (.float .f64 hy) ∧ w1.cell? ⟨w.heap.size + 1 + 1, 0, none⟩ = some (.float .f64 m) ∧ w1.cell? ⟨w.heap.size + 1 + 1, 1, none⟩ = some (.float .f64 m)) (first | ((try go_split_ands); refine ⟨?_, ?_, ?_, ?_, ?_, ?_⟩ <;> (first | ((repeat' (first | (with_reducible assumption) | (with_reducible refine up_drew ?_) | (with_reducible refine up_drewN ?_) | (with_reducible refine keep hb ?_) | (with_reducible refine up_set2 ?_ ?_) | (with_reducible refine (cell_own ?_ _ _ _).1) | (with_reducible refine (cell_own ?_ _ _ _).2) | (with_reducible refine up_alloc ?_) | omega | (simp; done))); done) | go_keep)))
    (first | (go_at_call 52; refine (vSub_any _ _ _ _ _).mono ?_; rintro e w' ⟨a, b, hS, rfl, hb⟩; have B := hb; obtain ⟨hc, hf⟩ := bcell B; have hz := B.size; (try simp at hz)) | (go_at_call 75; refine (vAdd_any _ _ _ _ _).mono ?_; rintro e w' ⟨c, d, hA, rfl, hb⟩; clear hc hf hz; have B := bl_trans B hb; obtain ⟨hc, hf⟩ := bcell B; have hz := B.size; (try simp at hz)))
  all_goals go_wp2
  refine bodyPost_ret (v := .agg #[.float .f64 _, .float .f64 _, .float .f64 _, .float .f64 _]) (by simp [hc, results, Try.results106, go_sem] <;> (first | exact ⟨rfl, rfl, rfl, rfl⟩ | exact ⟨rfl, rfl⟩ | rfl)) rfl ⟨_, _, _, _, ⟨hS, hA⟩, rfl, ?_⟩
  repeat (first | exact bl_refl _ | assumption | apply bl_drewN | apply bl_drew | apply bl_alloc | refine bl_set ?_ (by simp <;> omega) | refine bl_trans ?_ (by assumption))

end Go.Proofs.Ytnbkjkbgfcpcfaa
