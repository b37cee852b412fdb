/-
  What each function of package poly answers, and what the reference of its chapter answers: one contract a function, for every float: the answer stands in the relation of its formula to what was given; of the memory that was there nothing has turned.
-/
import Derived.Test.YthbdckjfekimdabVec
import Derived.Test.YthbdckjfekimdabNm
import Derived.Test.YthbdckjfekimdabRx
import Derived.Test.YthbdckjfekimdabNi
import Derived.Below
import Derived.WalkKit
import Derived.WalkLawsBesides
import Derived.WalkSpells
import Derived.ProofKit
import Derived.OpenShut
import Derived.Deep.RegionHeld3
namespace Go.Proofs.Ythbdckjfekimdab
open Go.ChangeShapes Go.WideShapes Go.ChangeAt Go.RowKit
set_option linter.unusedVariables false
set_option linter.unusedSimpArgs false


set_option maxRecDepth 100000 in
set_option maxHeartbeats 2000000 in
theorem firstIn_n (Vs Vp : Value) (n m : Nat) (xs ys us vs : Nat → Nat) (k : Int) (r : Nat) (w : World) (hA : AnyS w Vs n xs ys) (hP : AnyS w Vp m us vs) : Calls Try.prog 48 #[.agg #[.int .u8 k, .float .f64 r, Vs], Vp] w fun e w' => e = .returned (.tuple #[.agg #[.float .f64 (fiX us (fiO k (fun i => hasV xs ys n (us i) (vs i)) m)), .float .f64 (fiX vs (fiO k (fun i => hasV xs ys n (us i) (vs i)) m))], .bool (fiO k (fun i => hasV xs ys n (us i) (vs i)) m).isSome]) ∧ Bel w w' := by
  obtain ⟨a, cap, rfl, hcap, hmx, _, hO, hz⟩ := hP
  unfold maxLen at hmx
  by_cases hk : k = 3
  · subst hk
    have z0_0 : (w.alloc (.cells #[.int .u8 3, .float .f64 r, Vs] 25)).cell? ⟨w.heap.size, 0, none⟩ = some (.int .u8 3) := by rw [World.cell?_alloc_new]; rfl
    replace z0_0 := up_alloc (o := .cells #[.float .f64 0, .float .f64 0] 28) z0_0
    have z0_1 : (w.alloc (.cells #[.int .u8 3, .float .f64 r, Vs] 25)).cell? ⟨w.heap.size, 1, none⟩ = some (.float .f64 r) := by rw [World.cell?_alloc_new]; rfl
    replace z0_1 := up_alloc (o := .cells #[.float .f64 0, .float .f64 0] 28) z0_1
    have z0_2 : (w.alloc (.cells #[.int .u8 3, .float .f64 r, Vs] 25)).cell? ⟨w.heap.size, 2, none⟩ = some (Vs) := by rw [World.cell?_alloc_new]; rfl
    replace z0_2 := up_alloc (o := .cells #[.float .f64 0, .float .f64 0] 28) z0_2
    have z1_0 : ((w.alloc (.cells #[.int .u8 3, .float .f64 r, Vs] 25)).alloc (.cells #[.float .f64 0, .float .f64 0] 28)).cell? ⟨w.heap.size + 1, 0, none⟩ = some (.float .f64 0) := by rw [← (show (w.alloc (.cells #[.int .u8 3, .float .f64 r, Vs] 25)).heap.size = w.heap.size + 1 by simp only [World.size_alloc]), World.cell?_alloc_new]; rfl
    have z1_1 : ((w.alloc (.cells #[.int .u8 3, .float .f64 r, Vs] 25)).alloc (.cells #[.float .f64 0, .float .f64 0] 28)).cell? ⟨w.heap.size + 1, 1, none⟩ = some (.float .f64 0) := by rw [← (show (w.alloc (.cells #[.int .u8 3, .float .f64 r, Vs] 25)).heap.size = w.heap.size + 1 by simp only [World.size_alloc]), World.cell?_alloc_new]; rfl
    have B0 : Bel w ((w.alloc (.cells #[.int .u8 3, .float .f64 r, Vs] 25)).alloc (.cells #[.float .f64 0, .float .f64 0] 28)) := bl_alloc (bl_alloc (bl_refl w) _ _) _ _
    have fR : ∀ o, ((w.alloc (.cells #[.int .u8 3, .float .f64 r, Vs] 25)).alloc (.cells #[.float .f64 0, .float .f64 0] 28)).frozen? ⟨w.heap.size + 1, o, none⟩ = false := fun o => ((show Bel (w.alloc (.cells #[.int .u8 3, .float .f64 r, Vs] 25)) ((w.alloc (.cells #[.int .u8 3, .float .f64 r, Vs] 25)).alloc (.cells #[.float .f64 0, .float .f64 0] 28)) by repeat (first | exact bl_refl _ | apply bl_alloc)).2 _).trans (fresh_frozen (by simp only [World.size_alloc]; exact Nat.le_refl _))
    have hA1 := hA.bel B0
    rcases hz with hmz | ⟨hm0, b, off, rfl, hS⟩
    · go_enter Try.func48, Try.ntmps48
      go_wp2
      go_loopw [16] (fun i' wr => ∃ j : Nat, j ≤ m ∧ i' = .int .i64 j ∧ fiN (fun i => hasV xs ys n (us i) (vs i)) j = none ∧ Bel ((w.alloc (.cells #[.int .u8 3, .float .f64 r, Vs] 25)).alloc (.cells #[.float .f64 0, .float .f64 0] 28)) wr) (fun i' _ => m - (intOf i').toNat)
      case atStart => exact ⟨0, by omega, rfl, rfl, bl_refl _⟩
      case round =>
        obtain ⟨j, hj, rfl, hn0, hB⟩ := hrel
        have B1 := bl_trans B0 hB
        obtain rfl : j = 0 := by omega
        have kI : ¬ ((0 : Nat) : Int) < (m : Int) := by omega
        have hn0 : fiN (fun i => hasV xs ys n (us i) (vs i)) m = none := by rw [hmz]; rfl
        have ko : fiO 3 (fun i => hasV xs ys n (us i) (vs i)) m = none := by unfold fiO; rw [if_pos rfl]; exact hn0
        replace z0_0 := keep hB z0_0; replace z0_1 := keep hB z0_1; replace z0_2 := keep hB z0_2; replace z1_0 := keep hB z1_0; replace z1_1 := keep hB z1_1
        have fE : ∀ o, wr.frozen? ⟨w.heap.size + 1, o, none⟩ = false := fun o => (hB.2 _).trans (fR o)
        go_wp2
        refine bodyPost_ret (v := .tuple #[.agg #[.float .f64 0, .float .f64 0], .bool false]) (by simp [z1_0, z1_1, results, Try.results48, go_sem] <;> (first | exact ⟨⟨rfl, rfl⟩, rfl⟩ | exact ⟨rfl, rfl, rfl, rfl⟩ | exact ⟨rfl, rfl, rfl⟩ | exact ⟨rfl, rfl⟩ | rfl)) rfl ⟨by first | (rw [ko]; rfl) | rfl | (simp [ko, fiX]; done), ?_⟩
        repeat (first | exact bl_refl _ | assumption | apply bl_drewN | apply bl_drew | apply bl_alloc | refine bl_set ?_ (by simp <;> omega) | refine bl_trans ?_ (by assumption))
    · have hS1 := hS.bel B0
      go_enter Try.func48, Try.ntmps48
      go_wp2
      go_loopw [16] (fun i' wr => ∃ j : Nat, j ≤ m ∧ i' = .int .i64 j ∧ fiN (fun i => hasV xs ys n (us i) (vs i)) j = none ∧ Bel ((w.alloc (.cells #[.int .u8 3, .float .f64 r, Vs] 25)).alloc (.cells #[.float .f64 0, .float .f64 0] 28)) wr) (fun i' _ => m - (intOf i').toNat)
      case atStart => exact ⟨0, by omega, rfl, rfl, bl_refl _⟩
      case round =>
        obtain ⟨j, hj, rfl, hn0, hB⟩ := hrel
        have B1 := bl_trans B0 hB
        by_cases hlt : j < m
        · have kI : (j : Int) < (m : Int) := by omega
          obtain ⟨q0, q1⟩ := (hS1.bel hB) j hlt
          have lq := World.block_lt_of_cell? _ _ q0
          simp only at lq
          replace z0_0 := keep hB z0_0; replace z0_1 := keep hB z0_1; replace z0_2 := keep hB z0_2; replace z1_0 := keep hB z1_0; replace z1_1 := keep hB z1_1
          have l0 := World.block_lt_of_cell? _ _ z0_0
          have l1 := World.block_lt_of_cell? _ _ z1_0
          simp only at l0 l1
          go_wp2_with (first | (go_at_call 72; refine (has_all Vs n xs ys _ (hA1.bel (bl_alloc hB _ _)) (us j) (vs j) (hO j hlt).1 (hO j hlt).2).mono ?_; rintro e w2 ⟨rfl, hb⟩; replace z0_0 : w2.cell? ⟨w.heap.size, 0, none⟩ = some (.int .u8 3) := keep hb (by first | exact z0_0 | go_keep); replace z0_1 : w2.cell? ⟨w.heap.size, 1, none⟩ = some (.float .f64 r) := keep hb (by first | exact z0_1 | go_keep); replace z0_2 : w2.cell? ⟨w.heap.size, 2, none⟩ = some (Vs) := keep hb (by first | exact z0_2 | go_keep); replace z1_0 : w2.cell? ⟨w.heap.size + 1, 0, none⟩ = some (.float .f64 0) := keep hb (by first | exact z1_0 | go_keep); replace z1_1 : w2.cell? ⟨w.heap.size + 1, 1, none⟩ = some (.float .f64 0) := keep hb (by first | exact z1_1 | go_keep); have kp0 : w2.cell? ⟨wr.heap.size, 0, none⟩ = some (.float .f64 (us j)) := keep hb (by go_keep); have kp1 : w2.cell? ⟨wr.heap.size, 1, none⟩ = some (.float .f64 (vs j)) := keep hb (by go_keep); have B2 := bl_trans (bl_alloc hB _ _) hb; clear hb; have fE : ∀ o, w2.frozen? ⟨w.heap.size + 1, o, none⟩ = false := fun o => (B2.2 _).trans (fR o); cases hh : hasV xs ys n (us j) (vs j)))
          · exact ⟨⟨j + 1, by omega, by go_num, fi_no hn0 hh, B2⟩, by simp [intOf]; omega⟩
          · have ko : fiO 3 (fun i => hasV xs ys n (us i) (vs i)) m = some j := by unfold fiO; rw [if_pos rfl]; exact fi_hit (f := (fun i => hasV xs ys n (us i) (vs i))) hn0 hh hlt
            refine bodyPost_ret (v := .tuple #[.agg #[.float .f64 (us j), .float .f64 (vs j)], .bool true]) (by simp [z1_0, z1_1, results, Try.results48, go_sem] <;> (first | exact ⟨⟨rfl, rfl⟩, rfl⟩ | exact ⟨rfl, rfl, rfl, rfl⟩ | exact ⟨rfl, rfl, rfl⟩ | exact ⟨rfl, rfl⟩ | rfl)) rfl ⟨by first | (rw [ko]; rfl) | rfl | (simp [ko, fiX]; done), ?_⟩
            have B := bl_trans B0 B2
            repeat (first | exact bl_refl _ | assumption | apply bl_drewN | apply bl_drew | apply bl_alloc | refine bl_set ?_ (by simp <;> omega) | refine bl_trans ?_ (by assumption))
        · obtain rfl : j = m := by omega
          have kI : ¬ (j : Int) < (j : Int) := by omega
          have ko : fiO 3 (fun i => hasV xs ys n (us i) (vs i)) j = none := by unfold fiO; rw [if_pos rfl]; exact hn0
          replace z0_0 := keep hB z0_0; replace z0_1 := keep hB z0_1; replace z0_2 := keep hB z0_2; replace z1_0 := keep hB z1_0; replace z1_1 := keep hB z1_1
          have fE : ∀ o, wr.frozen? ⟨w.heap.size + 1, o, none⟩ = false := fun o => (hB.2 _).trans (fR o)
          go_wp2
          refine bodyPost_ret (v := .tuple #[.agg #[.float .f64 0, .float .f64 0], .bool false]) (by simp [z1_0, z1_1, results, Try.results48, go_sem] <;> (first | exact ⟨⟨rfl, rfl⟩, rfl⟩ | exact ⟨rfl, rfl, rfl, rfl⟩ | exact ⟨rfl, rfl, rfl⟩ | exact ⟨rfl, rfl⟩ | rfl)) rfl ⟨by first | (rw [ko]; rfl) | rfl | (simp [ko, fiX]; done), ?_⟩
          repeat (first | exact bl_refl _ | assumption | apply bl_drewN | apply bl_drew | apply bl_alloc | refine bl_set ?_ (by simp <;> omega) | refine bl_trans ?_ (by assumption))
  · have ko : (fiO k (fun i => hasV xs ys n (us i) (vs i)) m) = none := by unfold fiO; rw [if_neg hk]
    have kk : ¬ (k = 3) := hk
    have z0_0 : (w.alloc (.cells #[.int .u8 k, .float .f64 r, Vs] 25)).cell? ⟨w.heap.size, 0, none⟩ = some (.int .u8 k) := by rw [World.cell?_alloc_new]; rfl
    replace z0_0 := up_alloc (o := .cells #[.float .f64 0, .float .f64 0] 28) z0_0
    have z0_1 : (w.alloc (.cells #[.int .u8 k, .float .f64 r, Vs] 25)).cell? ⟨w.heap.size, 1, none⟩ = some (.float .f64 r) := by rw [World.cell?_alloc_new]; rfl
    replace z0_1 := up_alloc (o := .cells #[.float .f64 0, .float .f64 0] 28) z0_1
    have z0_2 : (w.alloc (.cells #[.int .u8 k, .float .f64 r, Vs] 25)).cell? ⟨w.heap.size, 2, none⟩ = some (Vs) := by rw [World.cell?_alloc_new]; rfl
    replace z0_2 := up_alloc (o := .cells #[.float .f64 0, .float .f64 0] 28) z0_2
    have z1_0 : ((w.alloc (.cells #[.int .u8 k, .float .f64 r, Vs] 25)).alloc (.cells #[.float .f64 0, .float .f64 0] 28)).cell? ⟨w.heap.size + 1, 0, none⟩ = some (.float .f64 0) := by rw [← (show (w.alloc (.cells #[.int .u8 k, .float .f64 r, Vs] 25)).heap.size = w.heap.size + 1 by simp only [World.size_alloc]), World.cell?_alloc_new]; rfl
    have z1_1 : ((w.alloc (.cells #[.int .u8 k, .float .f64 r, Vs] 25)).alloc (.cells #[.float .f64 0, .float .f64 0] 28)).cell? ⟨w.heap.size + 1, 1, none⟩ = some (.float .f64 0) := by rw [← (show (w.alloc (.cells #[.int .u8 k, .float .f64 r, Vs] 25)).heap.size = w.heap.size + 1 by simp only [World.size_alloc]), World.cell?_alloc_new]; rfl
    have B0 : Bel w ((w.alloc (.cells #[.int .u8 k, .float .f64 r, Vs] 25)).alloc (.cells #[.float .f64 0, .float .f64 0] 28)) := bl_alloc (bl_alloc (bl_refl w) _ _) _ _
    have fR : ∀ o, ((w.alloc (.cells #[.int .u8 k, .float .f64 r, Vs] 25)).alloc (.cells #[.float .f64 0, .float .f64 0] 28)).frozen? ⟨w.heap.size + 1, o, none⟩ = false := fun o => ((show Bel (w.alloc (.cells #[.int .u8 k, .float .f64 r, Vs] 25)) ((w.alloc (.cells #[.int .u8 k, .float .f64 r, Vs] 25)).alloc (.cells #[.float .f64 0, .float .f64 0] 28)) by repeat (first | exact bl_refl _ | apply bl_alloc)).2 _).trans (fresh_frozen (by simp only [World.size_alloc]; exact Nat.le_refl _))
    go_enter Try.func48, Try.ntmps48
    go_wp2
    refine bodyPost_ret (v := .tuple #[.agg #[.float .f64 0, .float .f64 0], .bool false]) (by simp [z1_0, z1_1, results, Try.results48, go_sem] <;> (first | exact ⟨⟨rfl, rfl⟩, rfl⟩ | exact ⟨rfl, rfl, rfl, rfl⟩ | exact ⟨rfl, rfl, rfl⟩ | exact ⟨rfl, rfl⟩ | rfl)) rfl ⟨by first | (rw [ko]; rfl) | rfl | (simp [ko, fiX]; done), ?_⟩
    repeat (first | exact bl_refl _ | assumption | apply bl_drewN | apply bl_drew | apply bl_alloc | refine bl_set ?_ (by simp <;> omega) | refine bl_trans ?_ (by assumption))

end Go.Proofs.Ythbdckjfekimdab
