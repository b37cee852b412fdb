/-
  What each function of package box answers, and what the reference of its chapter answers: one contract a function, for every float: the answer stands in the relation of its formula to what was given; of the memory that was there nothing has turned.
-/
import Derived.Test.YtdpbkfdccoogkaaVec
import Derived.Test.YtdpbkfdccoogkaaBprog
import Derived.Below
import Derived.WalkKit
import Derived.WalkLawsBesides
import Derived.WalkSpells
import Derived.ProofKit
import Derived.OpenShut
import Derived.Deep.RegionHeld3
namespace Go.Proofs.Ytdpbkfdccoogkaa
open Go.ChangeShapes Go.WideShapes Go.ChangeAt Go.RowKit
set_option linter.unusedVariables false
set_option linter.unusedSimpArgs false


theorem rBox_any (a b c d : Nat) (w : World) : Calls Try.prog 45 #[.float .f64 a, .float .f64 b, .float .f64 c, .float .f64 d] w fun e w' => e = .returned (.agg #[.float .f64 a, .float .f64 b, .float .f64 c, .float .f64 d]) ∧ Bel w w' := by
  go_enter Try.func45, Try.ntmps45
  go_wp2_with (first | (go_at_call 67; have z := hMk; clear z; refine (rVec_any _ _ _).mono ?_; rintro e w' ⟨rfl, hb⟩; clear hc hf hz; have B := bl_trans B hb; obtain ⟨hc, hf⟩ := bcell B; have hz := B.size; (try simp at hz)) | (go_at_call 67; refine (rVec_any _ _ _).mono ?_; rintro e w' ⟨rfl, hb⟩; have B := hb; obtain ⟨hc, hf⟩ := bcell B; have hz := B.size; (try simp at hz); have hMk := hide True.intro))
  refine bodyPost_ret (v := .agg #[.float .f64 a, .float .f64 b, .float .f64 c, .float .f64 d]) (by simp [hc, results, Try.results45, go_sem] <;> (first | exact ⟨rfl, rfl, rfl, rfl⟩ | exact ⟨rfl, rfl⟩ | rfl)) rfl ⟨rfl, ?_⟩
  repeat (first | exact bl_refl _ | assumption | apply bl_drewN | apply bl_drew | apply bl_alloc | refine bl_set ?_ (by simp <;> omega) | refine bl_trans ?_ (by assumption))
set_option maxHeartbeats 1000000 in
theorem bSame_any (alx aly ahx ahy blx bly bhx bhy : Nat) (w : World) : Calls Try.prog 50 #[.agg #[.float .f64 alx, .float .f64 aly, .float .f64 ahx, .float .f64 ahy], .agg #[.float .f64 blx, .float .f64 bly, .float .f64 bhx, .float .f64 bhy]] w fun e w' => e = .returned (.bool ((smK .f64 alx blx && smK .f64 aly bly) && (smK .f64 ahx bhx && smK .f64 ahy bhy))) ∧ Bel w w' := by
  cases h1 : (smK .f64 alx blx && smK .f64 aly bly)
  all_goals
    go_enter Try.func50, Try.ntmps50
    go_wp2_with (first | (go_at_call 34; refine (rSame_any _ _ _ _ _).mono ?_; rintro e w' ⟨rfl, hb⟩; have ka0 := keep hb (a := ⟨w.heap.size, 0, none⟩) (v := .float .f64 alx) (by first | assumption | go_keep | exact up_alloc (by go_keep) | exact (cell_own (by simp) _ _ _).1 | exact (cell_own (by simp) _ _ _).2 | exact up_alloc (cell_own (by simp) _ _ _).1 | exact up_alloc (cell_own (by simp) _ _ _).2); have ka1 := keep hb (a := ⟨w.heap.size, 1, none⟩) (v := .float .f64 aly) (by first | assumption | go_keep | exact up_alloc (by go_keep) | exact (cell_own (by simp) _ _ _).1 | exact (cell_own (by simp) _ _ _).2 | exact up_alloc (cell_own (by simp) _ _ _).1 | exact up_alloc (cell_own (by simp) _ _ _).2); have ka2 := keep hb (a := ⟨w.heap.size, 2, none⟩) (v := .float .f64 ahx) (by first | assumption | go_keep | exact up_alloc (by go_keep) | exact (cell_own (by simp) _ _ _).1 | exact (cell_own (by simp) _ _ _).2 | exact up_alloc (cell_own (by simp) _ _ _).1 | exact up_alloc (cell_own (by simp) _ _ _).2); have ka3 := keep hb (a := ⟨w.heap.size, 3, none⟩) (v := .float .f64 ahy) (by first | assumption | go_keep | exact up_alloc (by go_keep) | exact (cell_own (by simp) _ _ _).1 | exact (cell_own (by simp) _ _ _).2 | exact up_alloc (cell_own (by simp) _ _ _).1 | exact up_alloc (cell_own (by simp) _ _ _).2); have kb0 := keep hb (a := ⟨w.heap.size + 1, 0, none⟩) (v := .float .f64 blx) (by first | assumption | go_keep | exact up_alloc (by go_keep) | exact (cell_own (by simp) _ _ _).1 | exact (cell_own (by simp) _ _ _).2 | exact up_alloc (cell_own (by simp) _ _ _).1 | exact up_alloc (cell_own (by simp) _ _ _).2); have kb1 := keep hb (a := ⟨w.heap.size + 1, 1, none⟩) (v := .float .f64 bly) (by first | assumption | go_keep | exact up_alloc (by go_keep) | exact (cell_own (by simp) _ _ _).1 | exact (cell_own (by simp) _ _ _).2 | exact up_alloc (cell_own (by simp) _ _ _).1 | exact up_alloc (cell_own (by simp) _ _ _).2); have kb2 := keep hb (a := ⟨w.heap.size + 1, 2, none⟩) (v := .float .f64 bhx) (by first | assumption | go_keep | exact up_alloc (by go_keep) | exact (cell_own (by simp) _ _ _).1 | exact (cell_own (by simp) _ _ _).2 | exact up_alloc (cell_own (by simp) _ _ _).1 | exact up_alloc (cell_own (by simp) _ _ _).2); have kb3 := keep hb (a := ⟨w.heap.size + 1, 3, none⟩) (v := .float .f64 bhy) (by first | assumption | go_keep | exact up_alloc (by go_keep) | exact (cell_own (by simp) _ _ _).1 | exact (cell_own (by simp) _ _ _).2 | exact up_alloc (cell_own (by simp) _ _ _).1 | exact up_alloc (cell_own (by simp) _ _ _).2)))
    go_ret
    refine ⟨by first | rfl | simp [h1], ?_⟩
    repeat (first | exact bl_refl _ | assumption | apply bl_drewN | apply bl_drew | apply bl_alloc | refine bl_set ?_ (by simp <;> omega) | refine bl_trans ?_ (by assumption))
theorem bis_any (alx aly ahx ahy blx bly bhx bhy : Nat) (w : World) : Calls Try.prog 14 #[.agg #[.float .f64 alx, .float .f64 aly, .float .f64 ahx, .float .f64 ahy], .agg #[.float .f64 blx, .float .f64 bly, .float .f64 bhx, .float .f64 bhy]] w fun e w' => e = .returned (.bool ((smK .f64 alx blx && smK .f64 aly bly) && (smK .f64 ahx bhx && smK .f64 ahy bhy))) ∧ Bel w w' := by
  go_enter Try.func14, Try.ntmps14
  go_wp2_with (first | (go_at_call 50; refine (bSame_any _ _ _ _ _ _ _ _ _ ).mono ?_; rintro e w' ⟨rfl, hb⟩))
  go_ret
  refine ⟨rfl, ?_⟩
  repeat (first | exact bl_refl _ | assumption | apply bl_drewN | apply bl_drew | apply bl_alloc | refine bl_set ?_ (by simp <;> omega) | refine bl_trans ?_ (by assumption))
theorem bis_true (alx aly ahx ahy blx bly bhx bhy : Nat) (w : World) (h : smK .f64 alx blx = true ∧ smK .f64 aly bly = true ∧ smK .f64 ahx bhx = true ∧ smK .f64 ahy bhy = true) : Calls Try.prog 14 #[.agg #[.float .f64 alx, .float .f64 aly, .float .f64 ahx, .float .f64 ahy], .agg #[.float .f64 blx, .float .f64 bly, .float .f64 bhx, .float .f64 bhy]] w fun e w' => e = .returned (.bool true) ∧ Bel w w' := by
  have g := bis_any alx aly ahx ahy blx bly bhx bhy w
  obtain ⟨h1, h2, h3, h4⟩ := h
  rw [h1, h2, h3, h4] at g
  exact g
theorem bis_self (a b c d : Nat) (w : World) : Calls Try.prog 14 #[.agg #[.float .f64 a, .float .f64 b, .float .f64 c, .float .f64 d], .agg #[.float .f64 a, .float .f64 b, .float .f64 c, .float .f64 d]] w fun e w' => e = .returned (.bool true) ∧ Bel w w' :=
  bis_true a b c d a b c d w ⟨smK_self _ _, smK_self _ _, smK_self _ _, smK_self _ _⟩
theorem lfour_any (a b c d : Nat) (w : World) : Calls Try.prog 41 #[.float .f64 a, .float .f64 b, .float .f64 c, .float .f64 d] w fun e w' => e = .returned (.agg #[.float .f64 a, .float .f64 b, .float .f64 c, .float .f64 d]) ∧ Bel w w' := by
  go_enter Try.func41, Try.ntmps41
  go_wp2
  refine bodyPost_ret (v := .agg #[.float .f64 a, .float .f64 b, .float .f64 c, .float .f64 d]) (by simp [results, Try.results41, go_sem] <;> (first | exact ⟨rfl, rfl, rfl, rfl⟩ | exact ⟨rfl, rfl⟩ | rfl)) rfl ⟨rfl, ?_⟩
  repeat (first | exact bl_refl _ | assumption | apply bl_drewN | apply bl_drew | apply bl_alloc | refine bl_set ?_ (by simp <;> omega) | refine bl_trans ?_ (by assumption))
set_option maxHeartbeats 1000000 in
theorem rCheck_any (lx ly hx hy : Nat) (w : World) : Calls Try.prog 13 #[.agg #[.float .f64 lx, .float .f64 ly, .float .f64 hx, .float .f64 hy]] w fun e w' => e = .returned (.int .i64 (chkN (bChk lx ly hx hy))) ∧ Bel w w' := by
  have c2 := cmp_gt .f64
  rw [← Bool.not_not (bChk lx ly hx hy), ← bChk_eq2]
  cases h1 : (finK .f64 lx && finK .f64 ly) <;> cases h2 : (finK .f64 hx && finK .f64 hy) <;> cases h3 : ltK .f64 hx lx <;> cases h4 : ltK .f64 hy ly
  all_goals
    go_enter Try.func13, Try.ntmps13
    go_wp2_with (first | (go_at_call 49; refine (rFinite_any _ _ _).mono ?_; rintro e w' ⟨rfl, hb⟩; have k0 := keep hb (a := ⟨w.heap.size, 0, none⟩) (v := .float .f64 lx) (by first | assumption | go_keep | exact up_alloc (by go_keep) | exact (cell_own (by simp) _ _ _).1 | exact (cell_own (by simp) _ _ _).2 | exact up_alloc (cell_own (by simp) _ _ _).1 | exact up_alloc (cell_own (by simp) _ _ _).2); have k1 := keep hb (a := ⟨w.heap.size, 1, none⟩) (v := .float .f64 ly) (by first | assumption | go_keep | exact up_alloc (by go_keep) | exact (cell_own (by simp) _ _ _).1 | exact (cell_own (by simp) _ _ _).2 | exact up_alloc (cell_own (by simp) _ _ _).1 | exact up_alloc (cell_own (by simp) _ _ _).2); have k2 := keep hb (a := ⟨w.heap.size, 2, none⟩) (v := .float .f64 hx) (by first | assumption | go_keep | exact up_alloc (by go_keep) | exact (cell_own (by simp) _ _ _).1 | exact (cell_own (by simp) _ _ _).2 | exact up_alloc (cell_own (by simp) _ _ _).1 | exact up_alloc (cell_own (by simp) _ _ _).2); have k3 := keep hb (a := ⟨w.heap.size, 3, none⟩) (v := .float .f64 hy) (by first | assumption | go_keep | exact up_alloc (by go_keep) | exact (cell_own (by simp) _ _ _).1 | exact (cell_own (by simp) _ _ _).2 | exact up_alloc (cell_own (by simp) _ _ _).1 | exact up_alloc (cell_own (by simp) _ _ _).2)))
    go_ret
    refine ⟨by first | rfl | simp [chkN], ?_⟩
    repeat (first | exact bl_refl _ | assumption | apply bl_drewN | apply bl_drew | apply bl_alloc | refine bl_set ?_ (by simp <;> omega) | refine bl_trans ?_ (by assumption))
set_option maxHeartbeats 4000000 in
theorem rJoin_any (alx aly ahx ahy blx bly bhx bhy : Nat) (o0 : okK .f64 alx) (o1 : okK .f64 aly) (o2 : okK .f64 ahx) (o3 : okK .f64 ahy) (o4 : okK .f64 blx) (o5 : okK .f64 bly) (o6 : okK .f64 bhx) (o7 : okK .f64 bhy) (w : World) : Calls Try.prog 16 #[.agg #[.float .f64 alx, .float .f64 aly, .float .f64 ahx, .float .f64 ahy], .agg #[.float .f64 blx, .float .f64 bly, .float .f64 bhx, .float .f64 bhy]] w fun e w' => e = .returned (.agg #[.float .f64 (leastK .f64 alx blx), .float .f64 (leastK .f64 aly bly), .float .f64 (mostK .f64 ahx bhx), .float .f64 (mostK .f64 ahy bhy)]) ∧ Bel w w' := by
  go_enter Try.func16, Try.ntmps16
  go_wp2
  go_region_held3 (fun w1 => w1.cell? ⟨w.heap.size, 0, none⟩ = some (.float .f64 alx) ∧ w1.cell? ⟨w.heap.size, 1, none⟩ = some (.float .f64 aly) ∧ w1.cell? ⟨w.heap.size, 2, none⟩ = some (.float .f64 ahx) ∧ w1.cell? ⟨w.heap.size, 3, none⟩ = some (.float .f64 ahy) ∧ w1.cell? ⟨w.heap.size + 1, 0, none⟩ = some (.float .f64 blx) ∧ w1.cell? ⟨w.heap.size + 1, 1, none⟩ = some (.float .f64 bly) ∧ w1.cell? ⟨w.heap.size + 1, 2, none⟩ = some (.float .f64 bhx) ∧ w1.cell? ⟨w.heap.size + 1, 3, none⟩ = some (.float .f64 bhy)) (first | ((try go_split_ands); refine ⟨?_, ?_, ?_, ?_, ?_, ?_, ?_, ?_⟩ <;> (first | ((repeat' (first | (with_reducible assumption) | (with_reducible refine up_drew ?_) | (with_reducible refine up_drewN ?_) | (with_reducible refine keep hb ?_) | (with_reducible refine up_set2 ?_ ?_) | (with_reducible refine (cell_own ?_ _ _ _).1) | (with_reducible refine (cell_own ?_ _ _ _).2) | (with_reducible refine up_alloc ?_) | omega | (simp; done))); done) | go_keep)))
    (first | (go_at_call 47; refine (rLeast_any _ _ _ (by assumption) (by assumption)).mono ?_; rintro e w' ⟨rfl, rfl⟩) | (go_at_call 46; refine (rMost_any _ _ _ (by assumption) (by assumption)).mono ?_; rintro e w' ⟨rfl, rfl⟩) | (go_at_call 45; refine (rBox_any _ _ _ _ _).mono ?_; rintro e w' ⟨rfl, hb⟩; have B := hb; obtain ⟨hc, hf⟩ := bcell B; have hz := B.size; (try simp at hz)))
  all_goals go_wp2
  refine bodyPost_ret (v := .agg #[.float .f64 (leastK .f64 alx blx), .float .f64 (leastK .f64 aly bly), .float .f64 (mostK .f64 ahx bhx), .float .f64 (mostK .f64 ahy bhy)]) (by simp [hc, results, Try.results16, go_sem] <;> (first | exact ⟨rfl, rfl, rfl, rfl⟩ | exact ⟨rfl, rfl⟩ | rfl)) rfl ⟨rfl, ?_⟩
  repeat (first | exact bl_refl _ | assumption | apply bl_drewN | apply bl_drew | apply bl_alloc | refine bl_set ?_ (by simp <;> omega) | refine bl_trans ?_ (by assumption))

set_option maxHeartbeats 1000000 in
theorem rOver_any (alx aly ahx ahy blx bly bhx bhy : Nat) (w : World) : Calls Try.prog 18 #[.agg #[.float .f64 alx, .float .f64 aly, .float .f64 ahx, .float .f64 ahy], .agg #[.float .f64 blx, .float .f64 bly, .float .f64 bhx, .float .f64 bhy]] w fun e w' => e = .returned (.bool (bOver alx aly ahx ahy blx bly bhx bhy)) ∧ Bel w w' := by
  have c1 := cmp_le .f64
  unfold bOver
  cases h0 : leK .f64 alx bhx <;> cases h1 : leK .f64 blx ahx <;> cases h2 : leK .f64 aly bhy
  all_goals
    go_enter Try.func18, Try.ntmps18
    go_wp2
    go_ret
    refine ⟨by first | rfl | simp [*], ?_⟩
    repeat (first | exact bl_refl _ | assumption | apply bl_drewN | apply bl_drew | apply bl_alloc | refine bl_set ?_ (by simp <;> omega) | refine bl_trans ?_ (by assumption))

set_option maxHeartbeats 1000000 in
theorem rIn_any (alx aly ahx ahy blx bly bhx bhy : Nat) (w : World) : Calls Try.prog 20 #[.agg #[.float .f64 alx, .float .f64 aly, .float .f64 ahx, .float .f64 ahy], .agg #[.float .f64 blx, .float .f64 bly, .float .f64 bhx, .float .f64 bhy]] w fun e w' => e = .returned (.bool (bIn alx aly ahx ahy blx bly bhx bhy)) ∧ Bel w w' := by
  have c1 := cmp_le .f64
  unfold bIn
  cases h0 : leK .f64 blx alx <;> cases h1 : leK .f64 ahx bhx <;> cases h2 : leK .f64 bly aly
  all_goals
    go_enter Try.func20, Try.ntmps20
    go_wp2
    go_ret
    refine ⟨by first | rfl | simp [*], ?_⟩
    repeat (first | exact bl_refl _ | assumption | apply bl_drewN | apply bl_drew | apply bl_alloc | refine bl_set ?_ (by simp <;> omega) | refine bl_trans ?_ (by assumption))

set_option maxHeartbeats 1000000 in
theorem rHas_any (lx ly hx hy x y : Nat) (w : World) : Calls Try.prog 22 #[.agg #[.float .f64 lx, .float .f64 ly, .float .f64 hx, .float .f64 hy], .agg #[.float .f64 x, .float .f64 y]] w fun e w' => e = .returned (.bool (bHas lx ly hx hy x y)) ∧ Bel w w' := by
  have c1 := cmp_le .f64
  unfold bHas
  cases h1 : leK .f64 lx x <;> cases h2 : leK .f64 x hx <;> cases h3 : leK .f64 ly y
  all_goals
    go_enter Try.func22, Try.ntmps22
    go_wp2
    go_ret
    refine ⟨by first | rfl | simp [*], ?_⟩
    repeat (first | exact bl_refl _ | assumption | apply bl_drewN | apply bl_drew | apply bl_alloc | refine bl_set ?_ (by simp <;> omega) | refine bl_trans ?_ (by assumption))
set_option maxHeartbeats 4000000 in
theorem rMeet_any (alx aly ahx ahy blx bly bhx bhy : Nat) (o0 : okK .f64 alx) (o1 : okK .f64 aly) (o2 : okK .f64 ahx) (o3 : okK .f64 ahy) (o4 : okK .f64 blx) (o5 : okK .f64 bly) (o6 : okK .f64 bhx) (o7 : okK .f64 bhy) (w : World) : Calls Try.prog 11 #[.agg #[.float .f64 alx, .float .f64 aly, .float .f64 ahx, .float .f64 ahy], .agg #[.float .f64 blx, .float .f64 bly, .float .f64 bhx, .float .f64 bhy]] w fun e w' => e = .returned (.tuple #[if bOver alx aly ahx ahy blx bly bhx bhy then .agg #[.float .f64 (mostK .f64 alx blx), .float .f64 (mostK .f64 aly bly), .float .f64 (leastK .f64 ahx bhx), .float .f64 (leastK .f64 ahy bhy)] else .agg #[.float .f64 0, .float .f64 0, .float .f64 0, .float .f64 0], .bool (bOver alx aly ahx ahy blx bly bhx bhy)]) ∧ Bel w w' := by
  cases h1 : bOver alx aly ahx ahy blx bly bhx bhy
  · go_enter Try.func11, Try.ntmps11
    go_wp2_with (first | (go_at_call 18; refine (rOver_any _ _ _ _ _ _ _ _ _ ).mono ?_; rintro e w' ⟨rfl, hb⟩; have B := hb; obtain ⟨hc, hf⟩ := bcell B; have hz := B.size; (try simp at hz)))
    refine bodyPost_ret (v := .tuple #[.agg #[.float .f64 0, .float .f64 0, .float .f64 0, .float .f64 0], .bool false]) (by simp [hc, results, Try.results11, go_sem] <;> (first | exact ⟨⟨rfl, rfl⟩, rfl⟩ | exact ⟨rfl, rfl, rfl, rfl⟩ | exact ⟨rfl, rfl, rfl⟩ | exact ⟨rfl, rfl⟩ | rfl)) rfl ⟨rfl, ?_⟩
    repeat (first | exact bl_refl _ | assumption | apply bl_drewN | apply bl_drew | apply bl_alloc | refine bl_set ?_ (by simp <;> omega) | refine bl_trans ?_ (by assumption))
  · go_enter Try.func11, Try.ntmps11
    go_wp2_with (first | (go_at_call 18; refine (rOver_any _ _ _ _ _ _ _ _ _ ).mono ?_; rintro e w' ⟨rfl, hb0⟩; have B := hb0; have ka0 := keep hb0 (a := ⟨w.heap.size, 0, none⟩) (v := .float .f64 alx) (by first | assumption | go_keep | exact up_alloc (by go_keep) | exact (cell_own (by simp) _ _ _).1 | exact (cell_own (by simp) _ _ _).2 | exact up_alloc (cell_own (by simp) _ _ _).1 | exact up_alloc (cell_own (by simp) _ _ _).2); have ka1 := keep hb0 (a := ⟨w.heap.size, 1, none⟩) (v := .float .f64 aly) (by first | assumption | go_keep | exact up_alloc (by go_keep) | exact (cell_own (by simp) _ _ _).1 | exact (cell_own (by simp) _ _ _).2 | exact up_alloc (cell_own (by simp) _ _ _).1 | exact up_alloc (cell_own (by simp) _ _ _).2); have ka2 := keep hb0 (a := ⟨w.heap.size, 2, none⟩) (v := .float .f64 ahx) (by first | assumption | go_keep | exact up_alloc (by go_keep) | exact (cell_own (by simp) _ _ _).1 | exact (cell_own (by simp) _ _ _).2 | exact up_alloc (cell_own (by simp) _ _ _).1 | exact up_alloc (cell_own (by simp) _ _ _).2); have ka3 := keep hb0 (a := ⟨w.heap.size, 3, none⟩) (v := .float .f64 ahy) (by first | assumption | go_keep | exact up_alloc (by go_keep) | exact (cell_own (by simp) _ _ _).1 | exact (cell_own (by simp) _ _ _).2 | exact up_alloc (cell_own (by simp) _ _ _).1 | exact up_alloc (cell_own (by simp) _ _ _).2); have kb0 := keep hb0 (a := ⟨w.heap.size + 1, 0, none⟩) (v := .float .f64 blx) (by first | assumption | go_keep | exact up_alloc (by go_keep) | exact (cell_own (by simp) _ _ _).1 | exact (cell_own (by simp) _ _ _).2 | exact up_alloc (cell_own (by simp) _ _ _).1 | exact up_alloc (cell_own (by simp) _ _ _).2); have kb1 := keep hb0 (a := ⟨w.heap.size + 1, 1, none⟩) (v := .float .f64 bly) (by first | assumption | go_keep | exact up_alloc (by go_keep) | exact (cell_own (by simp) _ _ _).1 | exact (cell_own (by simp) _ _ _).2 | exact up_alloc (cell_own (by simp) _ _ _).1 | exact up_alloc (cell_own (by simp) _ _ _).2); have kb2 := keep hb0 (a := ⟨w.heap.size + 1, 2, none⟩) (v := .float .f64 bhx) (by first | assumption | go_keep | exact up_alloc (by go_keep) | exact (cell_own (by simp) _ _ _).1 | exact (cell_own (by simp) _ _ _).2 | exact up_alloc (cell_own (by simp) _ _ _).1 | exact up_alloc (cell_own (by simp) _ _ _).2); have kb3 := keep hb0 (a := ⟨w.heap.size + 1, 3, none⟩) (v := .float .f64 bhy) (by first | assumption | go_keep | exact up_alloc (by go_keep) | exact (cell_own (by simp) _ _ _).1 | exact (cell_own (by simp) _ _ _).2 | exact up_alloc (cell_own (by simp) _ _ _).1 | exact up_alloc (cell_own (by simp) _ _ _).2)))
    go_region_held3 (fun w1 => w1.cell? ⟨w.heap.size, 0, none⟩ = some (.float .f64 alx) ∧ w1.cell? ⟨w.heap.size, 1, none⟩ = some (.float .f64 aly) ∧ w1.cell? ⟨w.heap.size, 2, none⟩ = some (.float .f64 ahx) ∧ w1.cell? ⟨w.heap.size, 3, none⟩ = some (.float .f64 ahy) ∧ w1.cell? ⟨w.heap.size + 1, 0, none⟩ = some (.float .f64 blx) ∧ w1.cell? ⟨w.heap.size + 1, 1, none⟩ = some (.float .f64 bly) ∧ w1.cell? ⟨w.heap.size + 1, 2, none⟩ = some (.float .f64 bhx) ∧ w1.cell? ⟨w.heap.size + 1, 3, none⟩ = some (.float .f64 bhy)) (first | ((try go_split_ands); refine ⟨?_, ?_, ?_, ?_, ?_, ?_, ?_, ?_⟩ <;> (first | ((repeat' (first | (with_reducible assumption) | (with_reducible refine up_drew ?_) | (with_reducible refine up_drewN ?_) | (with_reducible refine keep hb ?_) | (with_reducible refine up_set2 ?_ ?_) | (with_reducible refine (cell_own ?_ _ _ _).1) | (with_reducible refine (cell_own ?_ _ _ _).2) | (with_reducible refine up_alloc ?_) | omega | (simp; done))); done) | go_keep)))
      (first | (go_at_call 47; refine (rLeast_any _ _ _ (by assumption) (by assumption)).mono ?_; rintro e w' ⟨rfl, rfl⟩) | (go_at_call 46; refine (rMost_any _ _ _ (by assumption) (by assumption)).mono ?_; rintro e w' ⟨rfl, rfl⟩) | (go_at_call 45; refine (rBox_any _ _ _ _ _).mono ?_; rintro e w' ⟨rfl, hb⟩; have B := bl_trans (a := (((w.alloc _).alloc _).alloc _)) (by first | exact B | exact bl_drew B | exact bl_drewN B) hb; obtain ⟨hc, hf⟩ := bcell B; have hz := B.size; (try simp at hz)))
    all_goals go_wp2
    refine bodyPost_ret (v := .tuple #[.agg #[.float .f64 (mostK .f64 alx blx), .float .f64 (mostK .f64 aly bly), .float .f64 (leastK .f64 ahx bhx), .float .f64 (leastK .f64 ahy bhy)], .bool true]) (by simp [hc, results, Try.results11, go_sem] <;> (first | exact ⟨⟨rfl, rfl⟩, rfl⟩ | exact ⟨rfl, rfl, rfl, rfl⟩ | exact ⟨rfl, rfl, rfl⟩ | exact ⟨rfl, rfl⟩ | rfl)) rfl ⟨rfl, ?_⟩
    repeat (first | exact bl_refl _ | assumption | apply bl_drewN | apply bl_drew | apply bl_alloc | refine bl_set ?_ (by simp <;> omega) | refine bl_trans ?_ (by assumption))
set_option maxHeartbeats 4000000 in
theorem rGrow_any (lx ly hx hy m : Nat) (w : World) : Calls Try.prog 24 #[.agg #[.float .f64 lx, .float .f64 ly, .float .f64 hx, .float .f64 hy], .float .f64 m] w fun e w' => ∃ a b c d, GrowR lx ly hx hy m a b c d ∧ e = .returned (.agg #[.float .f64 a, .float .f64 b, .float .f64 c, .float .f64 d]) ∧ Bel w w' := by
  have q1 := run_add Try.prog
  have q2 := run_sub Try.prog
  have q3 := run_mul Try.prog
  have q4 := run_quo Try.prog
  go_enter Try.func24, Try.ntmps24
  go_wp2_with (first | (go_at_call 45; refine (rBox_any _ _ _ _ _).mono ?_; rintro e w' ⟨rfl, hb⟩; have B := hb; obtain ⟨hc, hf⟩ := bcell B; have hz := B.size; (try simp at hz)))
  all_goals
    refine bodyPost_ret (v := .agg #[.float .f64 _, .float .f64 _, .float .f64 _, .float .f64 _]) (by simp [hc, results, Try.results24, go_sem] <;> (first | exact ⟨rfl, rfl, rfl, rfl⟩ | exact ⟨rfl, rfl⟩ | rfl)) rfl ⟨_, _, _, _, ⟨⟨fv_res _ _ _ _ _, fv_res _ _ _ _ _⟩, fv_res _ _ _ _ _, fv_res _ _ _ _ _⟩, rfl, ?_⟩
    repeat (first | exact bl_refl _ | assumption | apply bl_drewN | apply bl_drew | apply bl_alloc | refine bl_set ?_ (by simp <;> omega) | refine bl_trans ?_ (by assumption))
set_option maxHeartbeats 1000000 in
theorem rMoved_any (lx ly hx hy wx wy : Nat) (w : World) : Calls Try.prog 26 #[.agg #[.float .f64 lx, .float .f64 ly, .float .f64 hx, .float .f64 hy], .agg #[.float .f64 wx, .float .f64 wy]] w fun e w' => ∃ a b c d, MovR lx ly hx hy wx wy a b c d ∧ e = .returned (.agg #[.float .f64 a, .float .f64 b, .float .f64 c, .float .f64 d]) ∧ Bel w w' := by
  have q1 := run_add Try.prog
  have q2 := run_sub Try.prog
  have q3 := run_mul Try.prog
  have q4 := run_quo Try.prog
  have c1 := cmp_lt .f64
  cases h1 : ltK .f64 wx 0 <;> cases h2 : ltK .f64 wy 0
  all_goals
    go_enter Try.func26, Try.ntmps26
    go_wp2
    refine bodyPost_ret (v := .agg #[.float .f64 _, .float .f64 _, .float .f64 _, .float .f64 _]) (by simp [results, Try.results26, go_sem] <;> (first | exact ⟨rfl, rfl, rfl, rfl⟩ | exact ⟨rfl, rfl⟩ | rfl)) rfl ⟨_, _, _, _, ⟨by unfold StR; rw [h1]; first | exact ⟨rfl, fv_res _ _ _ _ _⟩ | exact ⟨fv_res _ _ _ _ _, rfl⟩, by unfold StR; rw [h2]; first | exact ⟨rfl, fv_res _ _ _ _ _⟩ | exact ⟨fv_res _ _ _ _ _, rfl⟩⟩, rfl, ?_⟩
    repeat (first | exact bl_refl _ | assumption | apply bl_drewN | apply bl_drew | apply bl_alloc | refine bl_set ?_ (by simp <;> omega) | refine bl_trans ?_ (by assumption))
theorem ralong2_any (p q s t : Nat) (w : World) : Calls Try.prog 73 #[.float .f64 p, .float .f64 q, .float .f64 s, .float .f64 t] w fun e w' => e = .returned (.tuple #[.float .f64 (cutS s p), .float .f64 (cutT t q), .bool (leK .f64 (cutS s p) (cutT t q))]) ∧ w' = w := by
  have c1 := cmp_lt .f64
  have c2 := cmp_gt .f64
  have c4 := cmp_eq .f64
  have c5 := cmp_le2 .f64
  unfold cutS cutT
  cases h1 : ltK .f64 s p <;> cases h2 : ltK .f64 q t
  all_goals
    go_enter Try.func73, Try.ntmps73
    go_wp2
    refine bodyPost_ret (v := .tuple #[_, _, _]) (by simp [results, Try.results73, go_sem] <;> (first | exact ⟨⟨rfl, rfl⟩, rfl⟩ | exact ⟨rfl, rfl, rfl, rfl⟩ | exact ⟨rfl, rfl, rfl⟩ | exact ⟨rfl, rfl⟩ | rfl)) rfl ⟨rfl, rfl⟩
set_option maxHeartbeats 4000000 in
theorem ralong_any (low high frm way s t : Nat) (w : World) : Calls Try.prog 57 #[.float .f64 low, .float .f64 high, .float .f64 frm, .float .f64 way, .float .f64 s, .float .f64 t] w fun e w' => ∃ s' t' b, AxR low high frm way s t s' t' b ∧ e = .returned (.tuple #[.float .f64 s', .float .f64 t', .bool b]) ∧ Bel w w' := by
  have q1 := run_add Try.prog
  have q2 := run_sub Try.prog
  have q3 := run_mul Try.prog
  have q4 := run_quo Try.prog
  have c1 := cmp_eq .f64
  have c2 := cmp_ne .f64
  have c3 := cmp_gt .f64
  have c5 := cmp_le1 .f64
  have c6 := eq_self_nan
  have sz := sg_zero way
  by_cases hz : sgK .f64 way = 0
  · rw [decide_eq_true hz, eq_self_nan] at sz
    cases h0 : eqK .f64 way 0
    · have h3 : nanK .f64 way = true := by rw [h0] at sz; exact sz
      cases h1 : leK .f64 low frm
      all_goals
        go_enter Try.func57, Try.ntmps57
        go_wp2
        refine bodyPost_ret (v := .tuple #[.float .f64 s, .float .f64 t, .bool _]) (by simp [results, Try.results57, go_sem] <;> (first | exact ⟨⟨rfl, rfl⟩, rfl⟩ | exact ⟨rfl, rfl, rfl, rfl⟩ | exact ⟨rfl, rfl, rfl⟩ | exact ⟨rfl, rfl⟩ | rfl)) rfl ⟨_, _, _, ax_zero hz, by rw [h1]; rfl, ?_⟩
        repeat (first | exact bl_refl _ | assumption | apply bl_drewN | apply bl_drew | apply bl_alloc | refine bl_set ?_ (by simp <;> omega) | refine bl_trans ?_ (by assumption))
    · cases h1 : leK .f64 low frm
      all_goals
        go_enter Try.func57, Try.ntmps57
        go_wp2
        refine bodyPost_ret (v := .tuple #[.float .f64 s, .float .f64 t, .bool _]) (by simp [results, Try.results57, go_sem] <;> (first | exact ⟨⟨rfl, rfl⟩, rfl⟩ | exact ⟨rfl, rfl, rfl, rfl⟩ | exact ⟨rfl, rfl, rfl⟩ | exact ⟨rfl, rfl⟩ | rfl)) rfl ⟨_, _, _, ax_zero hz, by rw [h1]; rfl, ?_⟩
        repeat (first | exact bl_refl _ | assumption | apply bl_drewN | apply bl_drew | apply bl_alloc | refine bl_set ?_ (by simp <;> omega) | refine bl_trans ?_ (by assumption))
  · rw [decide_eq_false hz] at sz
    obtain ⟨z1, z2⟩ := Bool.or_eq_false_iff.1 sz
    rw [eq_self_nan] at z2
    go_enter Try.func57, Try.ntmps57
    go_wp2_with (first | (go_at_call 73; refine (ralong2_any _ _ _ _ _).mono ?_; rintro e w' ⟨rfl, rfl⟩))
    all_goals
      generalize hd1 : fv BinOp.sub FloatKind.f64 low frm _ = d1 at *
      have r1 : resK .sub .f64 low frm d1 := by rw [← hd1]; exact fv_res _ _ _ _ _
      clear hd1
      generalize hd2 : fv BinOp.sub FloatKind.f64 high frm _ = d2 at *
      have r2 : resK .sub .f64 high frm d2 := by rw [← hd2]; exact fv_res _ _ _ _ _
      clear hd2
      generalize hp : fv BinOp.quo FloatKind.f64 d1 way _ = p at *
      have r3 : resK .quo .f64 d1 way p := by rw [← hp]; exact fv_res _ _ _ _ _
      clear hp
      generalize hq : fv BinOp.quo FloatKind.f64 d2 way _ = q at *
      have r4 : resK .quo .f64 d2 way q := by rw [← hq]; exact fv_res _ _ _ _ _
      clear hq
    all_goals
      refine bodyPost_ret (v := .tuple #[.float .f64 _, .float .f64 _, .bool _]) (by simp [results, Try.results57, go_sem] <;> (first | exact ⟨⟨rfl, rfl⟩, rfl⟩ | exact ⟨rfl, rfl, rfl, rfl⟩ | exact ⟨rfl, rfl, rfl⟩ | exact ⟨rfl, rfl⟩ | rfl)) rfl ⟨_, _, _, by first | exact ax_gt hz r1 r3 r2 r4 (by assumption) rfl rfl rfl | exact ax_le hz r1 r3 r2 r4 (by assumption) (num_le (by simp [*]) (by assumption)) rfl rfl rfl | exact ax_nan hz r1 r3 r2 r4 (by simp [*]), rfl, ?_⟩
      repeat (first | exact bl_refl _ | assumption | apply bl_drewN | apply bl_drew | apply bl_alloc | refine bl_set ?_ (by simp <;> omega) | refine bl_trans ?_ (by assumption))
set_option maxHeartbeats 4000000 in
theorem rRay_any (lx ly hx hy fx fy wx wy : Nat) (w : World) : Calls Try.prog 36 #[.agg #[.float .f64 lx, .float .f64 ly, .float .f64 hx, .float .f64 hy], .agg #[.float .f64 fx, .float .f64 fy], .agg #[.float .f64 wx, .float .f64 wy]] w fun e w' => ∃ r b, RayR lx ly hx hy fx fy wx wy r b ∧ e = .returned (.tuple #[.float .f64 r, .bool b]) ∧ Bel w w' := by
  have al := World.cell?_alloc_some
  go_enter Try.func36, Try.ntmps36
  go_wp2_with (first | (go_at_call 57; have z := hMk; clear z; refine (ralong_any _ _ _ _ _ _ _).mono ?_; rintro e w' ⟨s2, t2, b2, hA2, rfl, hb2⟩; cases b2) | (go_at_call 57; refine (ralong_any _ _ _ _ _ _ _).mono ?_; rintro e w' ⟨s1, t1, b1, hA1, rfl, hb⟩; have ka0 := keep hb (a := ⟨w.heap.size, 0, none⟩) (v := .float .f64 lx) (by first | assumption | go_keep | exact up_alloc (by go_keep) | exact (cell_own (by simp) _ _ _).1 | exact (cell_own (by simp) _ _ _).2 | exact up_alloc (cell_own (by simp) _ _ _).1 | exact up_alloc (cell_own (by simp) _ _ _).2); have ka1 := keep hb (a := ⟨w.heap.size, 1, none⟩) (v := .float .f64 ly) (by first | assumption | go_keep | exact up_alloc (by go_keep) | exact (cell_own (by simp) _ _ _).1 | exact (cell_own (by simp) _ _ _).2 | exact up_alloc (cell_own (by simp) _ _ _).1 | exact up_alloc (cell_own (by simp) _ _ _).2); have ka2 := keep hb (a := ⟨w.heap.size, 2, none⟩) (v := .float .f64 hx) (by first | assumption | go_keep | exact up_alloc (by go_keep) | exact (cell_own (by simp) _ _ _).1 | exact (cell_own (by simp) _ _ _).2 | exact up_alloc (cell_own (by simp) _ _ _).1 | exact up_alloc (cell_own (by simp) _ _ _).2); have ka3 := keep hb (a := ⟨w.heap.size, 3, none⟩) (v := .float .f64 hy) (by first | assumption | go_keep | exact up_alloc (by go_keep) | exact (cell_own (by simp) _ _ _).1 | exact (cell_own (by simp) _ _ _).2 | exact up_alloc (cell_own (by simp) _ _ _).1 | exact up_alloc (cell_own (by simp) _ _ _).2); have kb0 := keep hb (a := ⟨w.heap.size + 1, 0, none⟩) (v := .float .f64 fx) (by first | assumption | go_keep | exact up_alloc (by go_keep) | exact (cell_own (by simp) _ _ _).1 | exact (cell_own (by simp) _ _ _).2 | exact up_alloc (cell_own (by simp) _ _ _).1 | exact up_alloc (cell_own (by simp) _ _ _).2); have kb1 := keep hb (a := ⟨w.heap.size + 1, 1, none⟩) (v := .float .f64 fy) (by first | assumption | go_keep | exact up_alloc (by go_keep) | exact (cell_own (by simp) _ _ _).1 | exact (cell_own (by simp) _ _ _).2 | exact up_alloc (cell_own (by simp) _ _ _).1 | exact up_alloc (cell_own (by simp) _ _ _).2); have kc0 := keep hb (a := ⟨w.heap.size + 1 + 1, 0, none⟩) (v := .float .f64 wx) (by first | assumption | go_keep | exact up_alloc (by go_keep) | exact (cell_own (by simp) _ _ _).1 | exact (cell_own (by simp) _ _ _).2 | exact up_alloc (cell_own (by simp) _ _ _).1 | exact up_alloc (cell_own (by simp) _ _ _).2); have kc1 := keep hb (a := ⟨w.heap.size + 1 + 1, 1, none⟩) (v := .float .f64 wy) (by first | assumption | go_keep | exact up_alloc (by go_keep) | exact (cell_own (by simp) _ _ _).1 | exact (cell_own (by simp) _ _ _).2 | exact up_alloc (cell_own (by simp) _ _ _).1 | exact up_alloc (cell_own (by simp) _ _ _).2); have hMk := hide True.intro; cases b1))
  all_goals
    refine bodyPost_ret (v := .tuple #[.float .f64 _, .bool _]) (by simp [results, Try.results36, go_sem] <;> (first | exact ⟨⟨rfl, rfl⟩, rfl⟩ | exact ⟨rfl, rfl, rfl, rfl⟩ | exact ⟨rfl, rfl, rfl⟩ | exact ⟨rfl, rfl⟩ | rfl)) rfl ?_
    first | (refine ⟨_, _, ray_no hA1, rfl, ?_⟩; (repeat (first | exact bl_refl _ | assumption | apply bl_drewN | apply bl_drew | apply bl_alloc | refine bl_set ?_ (by simp <;> omega) | refine bl_trans ?_ (by assumption))); done) | (refine ⟨_, _, ray_half hA1 hA2, rfl, ?_⟩; (repeat (first | exact bl_refl _ | assumption | apply bl_drewN | apply bl_drew | apply bl_alloc | refine bl_set ?_ (by simp <;> omega) | refine bl_trans ?_ (by assumption))); done) | (refine ⟨_, _, ray_yes hA1 hA2, rfl, ?_⟩; (repeat (first | exact bl_refl _ | assumption | apply bl_drewN | apply bl_drew | apply bl_alloc | refine bl_set ?_ (by simp <;> omega) | refine bl_trans ?_ (by assumption))); done)

end Go.Proofs.Ytdpbkfdccoogkaa
