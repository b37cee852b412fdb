/-
  What each function of package poly answers, and what the reference of its chapter answers: one contract a function, for every float: the answer stands in the relation of its formula to what was given; of the memory that was there nothing has turned.
-/
import Derived.Test.YtpnkmflkjokhlaaVec
import Derived.Test.YtpnkmflkjokhlaaNe
import Derived.Test.YtpnkmflkjokhlaaLsb
import Derived.Test.YtpnkmflkjokhlaaRs
import Derived.Test.YtpnkmflkjokhlaaRx
import Derived.Below
import Derived.WalkKit
import Derived.WalkLawsBesides
import Derived.WalkSpells
import Derived.ProofKit
import Derived.OpenShut
import Derived.Deep.RegionHeld3
namespace Go.Proofs.Ytpnkmflkjokhlaa
open Go.ChangeShapes Go.WideShapes Go.ChangeAt Go.RowKit
set_option linter.unusedVariables false
set_option linter.unusedSimpArgs false


set_option maxRecDepth 100000 in
set_option maxHeartbeats 1000000 in
theorem rpoly_err (V : Value) (n : Nat) (xs ys : Nat → Nat) (px py : Nat) {P : Vp} (w : World) (h : AnyS w V n xs ys) (hp : isP px py P) (he : pyE xs ys n px py ≠ 0) : Calls Try.prog 17 #[V, .agg #[.float .f64 px, .float .f64 py]] w fun e w' => ∃ x y sd : Nat, (pyE xs ys n px py = 0 → isP x y (plF xs ys n P n).1.2.1 ∧ sd = (plF xs ys n P n).2) ∧ (pyE xs ys n px py ≠ 0 → x = 0 ∧ y = 0 ∧ sd = 0) ∧ e = .returned (.tuple #[.agg #[.float .f64 x, .float .f64 y], .int .i64 (sd : Int), .int .i64 (pyE xs ys n px py)]) ∧ Bel w w' := by
  have z0_0 : (w.alloc (.cells #[.float .f64 px, .float .f64 py] 24)).cell? ⟨w.heap.size, 0, none⟩ = some (.float .f64 px) := by rw [World.cell?_alloc_new]; rfl
  replace z0_0 := up_alloc (o := .cells #[.float .f64 0, .float .f64 0] 24) z0_0
  have z0_1 : (w.alloc (.cells #[.float .f64 px, .float .f64 py] 24)).cell? ⟨w.heap.size, 1, none⟩ = some (.float .f64 py) := by rw [World.cell?_alloc_new]; rfl
  replace z0_1 := up_alloc (o := .cells #[.float .f64 0, .float .f64 0] 24) z0_1
  have z1_0 : ((w.alloc (.cells #[.float .f64 px, .float .f64 py] 24)).alloc (.cells #[.float .f64 0, .float .f64 0] 24)).cell? ⟨w.heap.size + 1, 0, none⟩ = some (.float .f64 0) := by rw [← (show (w.alloc (.cells #[.float .f64 px, .float .f64 py] 24)).heap.size = w.heap.size + 1 by simp only [World.size_alloc]), World.cell?_alloc_new]; rfl
  have z1_1 : ((w.alloc (.cells #[.float .f64 px, .float .f64 py] 24)).alloc (.cells #[.float .f64 0, .float .f64 0] 24)).cell? ⟨w.heap.size + 1, 1, none⟩ = some (.float .f64 0) := by rw [← (show (w.alloc (.cells #[.float .f64 px, .float .f64 py] 24)).heap.size = w.heap.size + 1 by simp only [World.size_alloc]), World.cell?_alloc_new]; rfl
  have B0 : Bel w ((w.alloc (.cells #[.float .f64 px, .float .f64 py] 24)).alloc (.cells #[.float .f64 0, .float .f64 0] 24)) := bl_alloc (bl_alloc (bl_refl w) _ _) _ _
  have fR : ∀ o, ((w.alloc (.cells #[.float .f64 px, .float .f64 py] 24)).alloc (.cells #[.float .f64 0, .float .f64 0] 24)).frozen? ⟨w.heap.size + 1, o, none⟩ = false := fun o => ((show Bel (w.alloc (.cells #[.float .f64 px, .float .f64 py] 24)) ((w.alloc (.cells #[.float .f64 px, .float .f64 py] 24)).alloc (.cells #[.float .f64 0, .float .f64 0] 24)) by repeat (first | exact bl_refl _ | apply bl_alloc)).2 _).trans (fresh_frozen (by simp only [World.size_alloc]; exact Nat.le_refl _))
  by_cases hc : chkE xs ys n = 0
  · have hi : inB px py = false := by
      cases hh : inB px py
      · rfl
      · exact absurd (by unfold pyE; rw [if_pos hc, hh]; rfl) he
    have eE : pyE xs ys n px py = 5 := by unfold pyE; rw [if_pos hc, hi]; rfl
    clear he
    have hc1 : chkE xs ys n + 1 = 1 := by omega
    clear hc
    go_enter Try.func17, Try.ntmps17
    go_wp2_with (first | (go_at_call 58; refine (rchk_any _ n xs ys _ (h.bel B0)).mono ?_; rintro e w1 ⟨rfl, hb⟩; rw [show chkE xs ys n = 0 by omega]; replace z0_0 : w1.cell? ⟨w.heap.size, 0, none⟩ = some (.float .f64 px) := keep hb (by first | exact z0_0 | go_keep); replace z0_1 : w1.cell? ⟨w.heap.size, 1, none⟩ = some (.float .f64 py) := keep hb (by first | exact z0_1 | go_keep); replace z1_0 : w1.cell? ⟨w.heap.size + 1, 0, none⟩ = some (.float .f64 0) := keep hb (by first | exact z1_0 | go_keep); replace z1_1 : w1.cell? ⟨w.heap.size + 1, 1, none⟩ = some (.float .f64 0) := keep hb (by first | exact z1_1 | go_keep); have BF := hb; clear hb; have fE := fun o => (BF.2 _).trans (fR o)) | (go_at_call 59; refine (real7 _ _ _ hp.1 hp.2.1).mono ?_; rintro e w2 ⟨rfl, hb⟩; rw [hi]; replace z0_0 : w2.cell? ⟨w.heap.size, 0, none⟩ = some (.float .f64 px) := keep hb (by first | exact z0_0 | go_keep); replace z0_1 : w2.cell? ⟨w.heap.size, 1, none⟩ = some (.float .f64 py) := keep hb (by first | exact z0_1 | go_keep); replace z1_0 : w2.cell? ⟨w.heap.size + 1, 0, none⟩ = some (.float .f64 0) := keep hb (by first | exact z1_0 | go_keep); replace z1_1 : w2.cell? ⟨w.heap.size + 1, 1, none⟩ = some (.float .f64 0) := keep hb (by first | exact z1_1 | go_keep); replace BF := bl_trans BF hb; clear hb; have fE := fun o => (BF.2 _).trans (fR o)))
    refine bodyPost_ret (v := .tuple #[.agg #[.float .f64 0, .float .f64 0], .int .i64 0, .int .i64 (5)]) (by simp [z1_0, z1_1, results, Try.results17, go_sem] <;> (first | exact ⟨⟨rfl, rfl⟩, rfl⟩ | exact ⟨rfl, rfl, rfl, rfl⟩ | exact ⟨rfl, rfl, rfl⟩ | exact ⟨rfl, rfl⟩ | rfl)) rfl ⟨0, 0, 0, fun q => absurd (eE.symm.trans q) (by first | exact hc | decide), fun _ => ⟨rfl, rfl, rfl⟩, by rw [eE]; rfl, ?_⟩
    have B := bl_trans B0 BF
    repeat (first | exact bl_refl _ | assumption | apply bl_drewN | apply bl_drew | apply bl_alloc | refine bl_set ?_ (by simp <;> omega) | refine bl_trans ?_ (by assumption))
  · have eE : pyE xs ys n px py = chkE xs ys n := by unfold pyE; rw [if_neg hc]
    clear he
    go_enter Try.func17, Try.ntmps17
    go_wp2_with (first | (go_at_call 58; refine (rchk_any _ n xs ys _ (h.bel B0)).mono ?_; rintro e w1 ⟨rfl, hb⟩; replace z0_0 : w1.cell? ⟨w.heap.size, 0, none⟩ = some (.float .f64 px) := keep hb (by first | exact z0_0 | go_keep); replace z0_1 : w1.cell? ⟨w.heap.size, 1, none⟩ = some (.float .f64 py) := keep hb (by first | exact z0_1 | go_keep); replace z1_0 : w1.cell? ⟨w.heap.size + 1, 0, none⟩ = some (.float .f64 0) := keep hb (by first | exact z1_0 | go_keep); replace z1_1 : w1.cell? ⟨w.heap.size + 1, 1, none⟩ = some (.float .f64 0) := keep hb (by first | exact z1_1 | go_keep); have BF := hb; clear hb; have fE := fun o => (BF.2 _).trans (fR o)))
    refine bodyPost_ret (v := .tuple #[.agg #[.float .f64 0, .float .f64 0], .int .i64 0, .int .i64 (chkE xs ys n)]) (by simp [z1_0, z1_1, results, Try.results17, go_sem] <;> (first | exact ⟨⟨rfl, rfl⟩, rfl⟩ | exact ⟨rfl, rfl, rfl, rfl⟩ | exact ⟨rfl, rfl, rfl⟩ | exact ⟨rfl, rfl⟩ | rfl)) rfl ⟨0, 0, 0, fun q => absurd (eE.symm.trans q) (by first | exact hc | decide), fun _ => ⟨rfl, rfl, rfl⟩, by rw [eE]; rfl, ?_⟩
    have B := bl_trans B0 BF
    repeat (first | exact bl_refl _ | assumption | apply bl_drewN | apply bl_drew | apply bl_alloc | refine bl_set ?_ (by simp <;> omega) | refine bl_trans ?_ (by assumption))

set_option maxRecDepth 100000 in
set_option maxHeartbeats 4000000 in
theorem rpoly_ok (V : Value) (n : Nat) (xs ys : Nat → Nat) (px py : Nat) {P : Vp} (w : World) (h : AnyS w V n xs ys) (hp : isP px py P) (he : pyE xs ys n px py = 0) : Calls Try.prog 17 #[V, .agg #[.float .f64 px, .float .f64 py]] w fun e w' => ∃ x y sd : Nat, (pyE xs ys n px py = 0 → isP x y (plF xs ys n P n).1.2.1 ∧ sd = (plF xs ys n P n).2) ∧ (pyE xs ys n px py ≠ 0 → x = 0 ∧ y = 0 ∧ sd = 0) ∧ e = .returned (.tuple #[.agg #[.float .f64 x, .float .f64 y], .int .i64 (sd : Int), .int .i64 (pyE xs ys n px py)]) ∧ Bel w w' := by
  have hc : chkE xs ys n = 0 := by
    by_cases hc : chkE xs ys n = 0
    · exact hc
    · exact absurd (by unfold pyE at he; rw [if_neg hc] at he; exact he) hc
  have hi : inB px py = true := by
    cases hh : inB px py
    · exact absurd (by unfold pyE at he; rw [if_pos hc, hh] at he; exact he) (by decide)
    · rfl
  have hh := h
  obtain ⟨a, cap, rfl, hcap, hmx, _, hO, hz | ⟨hp0, b, off, rfl, hS⟩⟩ := hh
  · subst hz
    exact absurd hc (by unfold chkE; simp [plcE, reaB, allB])
  obtain ⟨hG, h3, h64, _⟩ := chk_ok hO hc
  have hPb : BdP 40 P := by have q := inp_bd hp.1 hp.2.1 hi; rw [hp.2.2] at q; exact q
  have he1 := hide he
  have hc1 : chkE xs ys n + 1 = 1 := by omega
  clear hc he
  have nI : (0 : Int) < (n : Int) := by omega
  have z0_0 : (w.alloc (.cells #[.float .f64 px, .float .f64 py] 24)).cell? ⟨w.heap.size, 0, none⟩ = some (.float .f64 px) := by rw [World.cell?_alloc_new]; rfl
  replace z0_0 := up_alloc (o := .cells #[.float .f64 0, .float .f64 0] 24) z0_0
  have z0_1 : (w.alloc (.cells #[.float .f64 px, .float .f64 py] 24)).cell? ⟨w.heap.size, 1, none⟩ = some (.float .f64 py) := by rw [World.cell?_alloc_new]; rfl
  replace z0_1 := up_alloc (o := .cells #[.float .f64 0, .float .f64 0] 24) z0_1
  have z1_0 : ((w.alloc (.cells #[.float .f64 px, .float .f64 py] 24)).alloc (.cells #[.float .f64 0, .float .f64 0] 24)).cell? ⟨w.heap.size + 1, 0, none⟩ = some (.float .f64 0) := by rw [← (show (w.alloc (.cells #[.float .f64 px, .float .f64 py] 24)).heap.size = w.heap.size + 1 by simp only [World.size_alloc]), World.cell?_alloc_new]; rfl
  have z1_1 : ((w.alloc (.cells #[.float .f64 px, .float .f64 py] 24)).alloc (.cells #[.float .f64 0, .float .f64 0] 24)).cell? ⟨w.heap.size + 1, 1, none⟩ = some (.float .f64 0) := by rw [← (show (w.alloc (.cells #[.float .f64 px, .float .f64 py] 24)).heap.size = w.heap.size + 1 by simp only [World.size_alloc]), World.cell?_alloc_new]; rfl
  have B0 : Bel w ((w.alloc (.cells #[.float .f64 px, .float .f64 py] 24)).alloc (.cells #[.float .f64 0, .float .f64 0] 24)) := bl_alloc (bl_alloc (bl_refl w) _ _) _ _
  have fR : ∀ o, ((w.alloc (.cells #[.float .f64 px, .float .f64 py] 24)).alloc (.cells #[.float .f64 0, .float .f64 0] 24)).frozen? ⟨w.heap.size + 1, o, none⟩ = false := fun o => ((show Bel (w.alloc (.cells #[.float .f64 px, .float .f64 py] 24)) ((w.alloc (.cells #[.float .f64 px, .float .f64 py] 24)).alloc (.cells #[.float .f64 0, .float .f64 0] 24)) by repeat (first | exact bl_refl _ | apply bl_alloc)).2 _).trans (fresh_frozen (by simp only [World.size_alloc]; exact Nat.le_refl _))
  go_enter Try.func17, Try.ntmps17
  go_wp2_with (first | (go_at_call 58; refine (rchk_any _ n xs ys _ (h.bel B0)).mono ?_; rintro e w1 ⟨rfl, hb⟩; rw [show chkE xs ys n = 0 by omega]; replace z0_0 : w1.cell? ⟨w.heap.size, 0, none⟩ = some (.float .f64 px) := keep hb (by first | exact z0_0 | go_keep); replace z0_1 : w1.cell? ⟨w.heap.size, 1, none⟩ = some (.float .f64 py) := keep hb (by first | exact z0_1 | go_keep); replace z1_0 : w1.cell? ⟨w.heap.size + 1, 0, none⟩ = some (.float .f64 0) := keep hb (by first | exact z1_0 | go_keep); replace z1_1 : w1.cell? ⟨w.heap.size + 1, 1, none⟩ = some (.float .f64 0) := keep hb (by first | exact z1_1 | go_keep); have BF := hb; clear hb) | (go_at_call 59; refine (real7 _ _ _ hp.1 hp.2.1).mono ?_; rintro e w2 ⟨rfl, hb⟩; rw [hi]; replace z0_0 : w2.cell? ⟨w.heap.size, 0, none⟩ = some (.float .f64 px) := keep hb (by first | exact z0_0 | go_keep); replace z0_1 : w2.cell? ⟨w.heap.size, 1, none⟩ = some (.float .f64 py) := keep hb (by first | exact z0_1 | go_keep); replace z1_0 : w2.cell? ⟨w.heap.size + 1, 0, none⟩ = some (.float .f64 0) := keep hb (by first | exact z1_0 | go_keep); replace z1_1 : w2.cell? ⟨w.heap.size + 1, 1, none⟩ = some (.float .f64 0) := keep hb (by first | exact z1_1 | go_keep); replace BF := bl_trans BF hb; clear hb; have hS2 := hS.bel (bl_trans B0 BF); obtain ⟨s0, s1⟩ := hS2 0 hp0; simp only [Nat.zero_mul, Nat.add_zero] at s0 s1; have lb0 := World.block_lt_of_cell? _ _ s0; simp only at lb0))
  go_loopw [9, 10, 11] (fun s' f' i' wr => ∃ (k x y : Nat), k ≤ n ∧ i' = .int .i64 k ∧ Bel w2 wr ∧ wr.cell? ⟨w2.heap.size, 0, none⟩ = some (.float .f64 x) ∧ wr.cell? ⟨w2.heap.size, 1, none⟩ = some (.float .f64 y) ∧ ((k = 0 ∧ s' = .int .i64 (-1) ∧ f' = .float .f64 0) ∨ (0 < k ∧ ∃ far sd : Nat, s' = .int .i64 sd ∧ f' = .float .f64 far ∧ isF far (plF xs ys n P k).1.1 ∧ isP x y (plF xs ys n P k).1.2.1 ∧ sd = (plF xs ys n P k).2))) (fun _ _ i' _ => n - (intOf i').toNat)
  case atStart => exact ⟨0, xs 0, ys 0, by omega, rfl, bl_alloc (bl_refl w2) _ _, by rw [World.cell?_alloc_new]; rfl, by rw [World.cell?_alloc_new]; rfl, .inl ⟨rfl, rfl, rfl⟩⟩
  case round =>
    obtain ⟨k, x, y, hk, rfl, hB, b0, b1, hD⟩ := hrel
    by_cases hlt : k < n
    · have kI : (k : Int) < (n : Int) := by omega
      have hS4 := hS2.bel hB
      obtain ⟨j, hjd⟩ : ∃ j, (k + 1) % n = j := ⟨_, rfl⟩
      have hj : j < n := by rw [← hjd]; exact Nat.mod_lt _ hp0
      have jI : (j : Int) < (n : Int) := by omega
      have et : ((k : Int) + 1).tmod (n : Int) = (j : Int) := by rw [← hjd]; exact tmod_nat k n
      have hA9 : isP (xs k) (ys k) (sdA xs ys k) := isP_self (hO k hlt).1 (hO k hlt).2
      have hB9 : isP (xs j) (ys j) (sdA xs ys j) := isP_self (hO j hj).1 (hO j hj).2
      have hn0 : ¬ n = 0 := by omega
      have wk : IntKind.wrap .i64 ((k : Int) + 1) = (k : Int) + 1 := by rw [IntKind.wrap_i64]; omega
      have hnI : ¬ (n : Int) = 0 := by omega
      have lg0 := World.block_lt_of_cell? _ _ b0
      simp only at lg0
      go_wp2
      refine wp_region_new 20 rfl (fun i v => match i with | 0 => v = .slice (some ⟨b, off, none⟩) n cap | 1 => v = .int .i64 (k : Int) | 2 => v = .pointer (some ⟨b, off + k * 2, none⟩) | 3 => v = .agg #[.float .f64 (xs k), .float .f64 (ys k)] | 4 => v = .slice (some ⟨b, off, none⟩) n cap | 5 => v = .int .i64 (k : Int) | 6 => v = .int .i64 ((k : Int) + 1) | 7 => v = .slice (some ⟨b, off, none⟩) n cap | 8 => v = .int .i64 (n : Int) | 9 => v = .int .i64 (j : Int) | 10 => v = .pointer (some ⟨b, off + j * 2, none⟩) | 11 => v = .agg #[.float .f64 (xs j), .float .f64 (ys j)] | 12 => v = .agg #[.float .f64 px, .float .f64 py] | 13 => ∃ x1 y1 t1, isP x1 y1 (ptF (sdA xs ys k) (sdA xs ys j) P).1 ∧ v = .tuple #[.agg #[.float .f64 x1, .float .f64 y1], .float .f64 t1] | 14 => ∃ x1 y1 t1, isP x1 y1 (ptF (sdA xs ys k) (sdA xs ys j) P).1 ∧ v = .tuple #[.agg #[.float .f64 x1, .float .f64 y1], .float .f64 t1] | 15 => ∃ x1 y1, isP x1 y1 (ptF (sdA xs ys k) (sdA xs ys j) P).1 ∧ v = .agg #[.float .f64 x1, .float .f64 y1] | 16 => ∃ t1, v = .float .f64 t1 | 19 => ∃ t1, v = .float .f64 t1 | _ => False) [(17, #[.float .f64 0, .float .f64 0], 24)] [(18, 17, 15)] ?A_wn (by kernel_rfl) (by kernel_rfl) ?hA_wn ?ha_wn ?hst_wn ?hq_wn ?ht_wn
      case hA_wn =>
        intro s
        simp only [putL, dstO, Act.put, List.getElem?_toArray, List.getElem?_cons_zero, List.getElem?_cons_succ, Option.bind_some, List.setIfInBounds_toArray, List.set_cons_zero, List.set_cons_succ, if_true]
        all_goals exact rfl
      case ha_wn =>
        intro i o c ty hi ho hal B W K hK
        rcases (show i = 0 ∨ i = 1 ∨ i = 2 ∨ i = 3 ∨ i = 4 ∨ i = 5 ∨ i = 6 ∨ i = 7 ∨ i = 8 ∨ i = 9 ∨ i = 10 ∨ i = 11 ∨ i = 12 ∨ i = 13 ∨ i = 14 ∨ i = 15 ∨ i = 16 ∨ i = 17 ∨ i = 18 ∨ i = 19 by omega) with rfl | rfl | rfl | rfl | rfl | rfl | rfl | rfl | rfl | rfl | rfl | rfl | rfl | rfl | rfl | rfl | rfl | rfl | rfl | rfl
        · cases (show none = some (c, ty) from hal)
        · cases (show none = some (c, ty) from hal)
        · cases (show none = some (c, ty) from hal)
        · cases (show none = some (c, ty) from hal)
        · cases (show none = some (c, ty) from hal)
        · cases (show none = some (c, ty) from hal)
        · cases (show none = some (c, ty) from hal)
        · cases (show none = some (c, ty) from hal)
        · cases (show none = some (c, ty) from hal)
        · cases (show none = some (c, ty) from hal)
        · cases (show none = some (c, ty) from hal)
        · cases (show none = some (c, ty) from hal)
        · cases (show none = some (c, ty) from hal)
        · cases (show none = some (c, ty) from hal)
        · cases (show none = some (c, ty) from hal)
        · cases (show none = some (c, ty) from hal)
        · cases (show none = some (c, ty) from hal)
        · cases ho; cases (show some (#[.float .f64 0, .float .f64 0], 24) = some (c, ty) from hal); go_simp; exact hK.out
        · cases (show none = some (c, ty) from hal)
        · cases (show none = some (c, ty) from hal)
      case hst_wn =>
        intro t o a d c ty hlt ho hts hal s hs W b eb hc hf K hK
        rcases (show t = 0 ∨ t = 1 ∨ t = 2 ∨ t = 3 ∨ t = 4 ∨ t = 5 ∨ t = 6 ∨ t = 7 ∨ t = 8 ∨ t = 9 ∨ t = 10 ∨ t = 11 ∨ t = 12 ∨ t = 13 ∨ t = 14 ∨ t = 15 ∨ t = 16 ∨ t = 17 ∨ t = 18 ∨ t = 19 by omega) with rfl | rfl | rfl | rfl | rfl | rfl | rfl | rfl | rfl | rfl | rfl | rfl | rfl | rfl | rfl | rfl | rfl | rfl | rfl | rfl
        · cases (show none = some (a, d) from hts)
        · cases (show none = some (a, d) from hts)
        · cases (show none = some (a, d) from hts)
        · cases (show none = some (a, d) from hts)
        · cases (show none = some (a, d) from hts)
        · cases (show none = some (a, d) from hts)
        · cases (show none = some (a, d) from hts)
        · cases (show none = some (a, d) from hts)
        · cases (show none = some (a, d) from hts)
        · cases (show none = some (a, d) from hts)
        · cases (show none = some (a, d) from hts)
        · cases (show none = some (a, d) from hts)
        · cases (show none = some (a, d) from hts)
        · cases (show none = some (a, d) from hts)
        · cases (show none = some (a, d) from hts)
        · cases (show none = some (a, d) from hts)
        · cases (show none = some (a, d) from hts)
        · cases (show none = some (a, d) from hts)
        · cases ho; cases (show some (17, 15) = some (a, d) from hts); cases (show some (#[.float .f64 0, .float .f64 0], 24) = some (c, ty) from hal)
          obtain ⟨x1, y1, h15, e15⟩ := hs 15 (by decide) rfl rfl (by kernel_rfl)
          obtain ⟨u0, hu0⟩ := Option.isSome_iff_exists.1 (hc 0 (by decide))
          obtain ⟨u1, hu1⟩ := Option.isSome_iff_exists.1 (hc 1 (by decide))
          simp only [eb, e15] at hK ⊢
          clear hs
          go_simp
          exact hK.out
        · cases (show none = some (a, d) from hts)
      case hq_wn =>
        intro i o hi hal hts ho s hs W hb K hK
        have hs9 := hS4.bel hb; obtain ⟨a0, a1⟩ := hs9 k hlt; obtain ⟨d0, d1⟩ := hs9 j hj; have u0 := keep (bl_trans hB hb) z0_0; have u1 := keep (bl_trans hB hb) z0_1; have lb := World.block_lt_of_cell? _ _ a0; simp only at lb
        rcases (show i = 0 ∨ i = 1 ∨ i = 2 ∨ i = 3 ∨ i = 4 ∨ i = 5 ∨ i = 6 ∨ i = 7 ∨ i = 8 ∨ i = 9 ∨ i = 10 ∨ i = 11 ∨ i = 12 ∨ i = 13 ∨ i = 14 ∨ i = 15 ∨ i = 16 ∨ i = 17 ∨ i = 18 ∨ i = 19 by omega) with rfl | rfl | rfl | rfl | rfl | rfl | rfl | rfl | rfl | rfl | rfl | rfl | rfl | rfl | rfl | rfl | rfl | rfl | rfl | rfl
        · cases ho
          simp only [Act.put, List.setIfInBounds_toArray, List.set_cons_zero, List.set_cons_succ] at hK
          clear hs hal hts
          go_simp
          all_goals (try go_wp2_with (first | (go_at_call 9; refine (rpoint_n _ hA9 hB9 hp).mono ?_; rintro e w' ⟨x1, y1, t1, h13, _, rfl, hb1⟩)))
          all_goals first | exact hK.out _ _ ⟨_, _, _, h13, rfl⟩ hb1 | exact hK.out _ _ ⟨_, _, _, h13, rfl⟩ (bl_refl _) | exact hK.out _ _ ⟨_, _, h14, rfl⟩ (bl_refl _) | exact hK.out _ _ ⟨_, rfl⟩ (bl_refl _) | exact hK.out _ _ rfl (bl_refl _) | exact hK.out _ _ rfl (by assumption) | exact hK.out _ _ (by assumption) (by assumption)
        · cases ho
          simp only [Act.put, List.setIfInBounds_toArray, List.set_cons_zero, List.set_cons_succ] at hK
          clear hs hal hts
          go_simp
          all_goals (try go_wp2_with (first | (go_at_call 9; refine (rpoint_n _ hA9 hB9 hp).mono ?_; rintro e w' ⟨x1, y1, t1, h13, _, rfl, hb1⟩)))
          all_goals first | exact hK.out _ _ ⟨_, _, _, h13, rfl⟩ hb1 | exact hK.out _ _ ⟨_, _, _, h13, rfl⟩ (bl_refl _) | exact hK.out _ _ ⟨_, _, h14, rfl⟩ (bl_refl _) | exact hK.out _ _ ⟨_, rfl⟩ (bl_refl _) | exact hK.out _ _ rfl (bl_refl _) | exact hK.out _ _ rfl (by assumption) | exact hK.out _ _ (by assumption) (by assumption)
        · cases ho
          have e0 : s 0 = _ := hs 0 (by decide) rfl rfl (by kernel_rfl)
          have e1 : s 1 = _ := hs 1 (by decide) rfl rfl (by kernel_rfl)
          simp only [e0, e1] at hK ⊢
          simp only [Act.put, List.setIfInBounds_toArray, List.set_cons_zero, List.set_cons_succ] at hK
          clear hs hal hts
          go_simp
          all_goals (try go_wp2_with (first | (go_at_call 9; refine (rpoint_n _ hA9 hB9 hp).mono ?_; rintro e w' ⟨x1, y1, t1, h13, _, rfl, hb1⟩)))
          all_goals first | exact hK.out _ _ ⟨_, _, _, h13, rfl⟩ hb1 | exact hK.out _ _ ⟨_, _, _, h13, rfl⟩ (bl_refl _) | exact hK.out _ _ ⟨_, _, h14, rfl⟩ (bl_refl _) | exact hK.out _ _ ⟨_, rfl⟩ (bl_refl _) | exact hK.out _ _ rfl (bl_refl _) | exact hK.out _ _ rfl (by assumption) | exact hK.out _ _ (by assumption) (by assumption)
        · cases ho
          have e2 : s 2 = _ := hs 2 (by decide) rfl rfl (by kernel_rfl)
          simp only [e2] at hK ⊢
          simp only [Act.put, List.setIfInBounds_toArray, List.set_cons_zero, List.set_cons_succ] at hK
          clear hs hal hts
          go_simp
          all_goals (try go_wp2_with (first | (go_at_call 9; refine (rpoint_n _ hA9 hB9 hp).mono ?_; rintro e w' ⟨x1, y1, t1, h13, _, rfl, hb1⟩)))
          all_goals first | exact hK.out _ _ ⟨_, _, _, h13, rfl⟩ hb1 | exact hK.out _ _ ⟨_, _, _, h13, rfl⟩ (bl_refl _) | exact hK.out _ _ ⟨_, _, h14, rfl⟩ (bl_refl _) | exact hK.out _ _ ⟨_, rfl⟩ (bl_refl _) | exact hK.out _ _ rfl (bl_refl _) | exact hK.out _ _ rfl (by assumption) | exact hK.out _ _ (by assumption) (by assumption)
        · cases ho
          simp only [Act.put, List.setIfInBounds_toArray, List.set_cons_zero, List.set_cons_succ] at hK
          clear hs hal hts
          go_simp
          all_goals (try go_wp2_with (first | (go_at_call 9; refine (rpoint_n _ hA9 hB9 hp).mono ?_; rintro e w' ⟨x1, y1, t1, h13, _, rfl, hb1⟩)))
          all_goals first | exact hK.out _ _ ⟨_, _, _, h13, rfl⟩ hb1 | exact hK.out _ _ ⟨_, _, _, h13, rfl⟩ (bl_refl _) | exact hK.out _ _ ⟨_, _, h14, rfl⟩ (bl_refl _) | exact hK.out _ _ ⟨_, rfl⟩ (bl_refl _) | exact hK.out _ _ rfl (bl_refl _) | exact hK.out _ _ rfl (by assumption) | exact hK.out _ _ (by assumption) (by assumption)
        · cases ho
          simp only [Act.put, List.setIfInBounds_toArray, List.set_cons_zero, List.set_cons_succ] at hK
          clear hs hal hts
          go_simp
          all_goals (try go_wp2_with (first | (go_at_call 9; refine (rpoint_n _ hA9 hB9 hp).mono ?_; rintro e w' ⟨x1, y1, t1, h13, _, rfl, hb1⟩)))
          all_goals first | exact hK.out _ _ ⟨_, _, _, h13, rfl⟩ hb1 | exact hK.out _ _ ⟨_, _, _, h13, rfl⟩ (bl_refl _) | exact hK.out _ _ ⟨_, _, h14, rfl⟩ (bl_refl _) | exact hK.out _ _ ⟨_, rfl⟩ (bl_refl _) | exact hK.out _ _ rfl (bl_refl _) | exact hK.out _ _ rfl (by assumption) | exact hK.out _ _ (by assumption) (by assumption)
        · cases ho
          have e5 : s 5 = _ := hs 5 (by decide) rfl rfl (by kernel_rfl)
          simp only [e5] at hK ⊢
          simp only [Act.put, List.setIfInBounds_toArray, List.set_cons_zero, List.set_cons_succ] at hK
          clear hs hal hts
          go_simp
          all_goals (try go_wp2_with (first | (go_at_call 9; refine (rpoint_n _ hA9 hB9 hp).mono ?_; rintro e w' ⟨x1, y1, t1, h13, _, rfl, hb1⟩)))
          all_goals first | exact hK.out _ _ ⟨_, _, _, h13, rfl⟩ hb1 | exact hK.out _ _ ⟨_, _, _, h13, rfl⟩ (bl_refl _) | exact hK.out _ _ ⟨_, _, h14, rfl⟩ (bl_refl _) | exact hK.out _ _ ⟨_, rfl⟩ (bl_refl _) | exact hK.out _ _ rfl (bl_refl _) | exact hK.out _ _ rfl (by assumption) | exact hK.out _ _ (by assumption) (by assumption)
        · cases ho
          simp only [Act.put, List.setIfInBounds_toArray, List.set_cons_zero, List.set_cons_succ] at hK
          clear hs hal hts
          go_simp
          all_goals (try go_wp2_with (first | (go_at_call 9; refine (rpoint_n _ hA9 hB9 hp).mono ?_; rintro e w' ⟨x1, y1, t1, h13, _, rfl, hb1⟩)))
          all_goals first | exact hK.out _ _ ⟨_, _, _, h13, rfl⟩ hb1 | exact hK.out _ _ ⟨_, _, _, h13, rfl⟩ (bl_refl _) | exact hK.out _ _ ⟨_, _, h14, rfl⟩ (bl_refl _) | exact hK.out _ _ ⟨_, rfl⟩ (bl_refl _) | exact hK.out _ _ rfl (bl_refl _) | exact hK.out _ _ rfl (by assumption) | exact hK.out _ _ (by assumption) (by assumption)
        · cases ho
          have e7 : s 7 = _ := hs 7 (by decide) rfl rfl (by kernel_rfl)
          simp only [e7] at hK ⊢
          simp only [Act.put, List.setIfInBounds_toArray, List.set_cons_zero, List.set_cons_succ] at hK
          clear hs hal hts
          go_simp
          all_goals (try go_wp2_with (first | (go_at_call 9; refine (rpoint_n _ hA9 hB9 hp).mono ?_; rintro e w' ⟨x1, y1, t1, h13, _, rfl, hb1⟩)))
          all_goals first | exact hK.out _ _ ⟨_, _, _, h13, rfl⟩ hb1 | exact hK.out _ _ ⟨_, _, _, h13, rfl⟩ (bl_refl _) | exact hK.out _ _ ⟨_, _, h14, rfl⟩ (bl_refl _) | exact hK.out _ _ ⟨_, rfl⟩ (bl_refl _) | exact hK.out _ _ rfl (bl_refl _) | exact hK.out _ _ rfl (by assumption) | exact hK.out _ _ (by assumption) (by assumption)
        · cases ho
          have e6 : s 6 = _ := hs 6 (by decide) rfl rfl (by kernel_rfl)
          have e8 : s 8 = _ := hs 8 (by decide) rfl rfl (by kernel_rfl)
          simp only [e6, e8] at hK ⊢
          simp only [Act.put, List.setIfInBounds_toArray, List.set_cons_zero, List.set_cons_succ] at hK
          clear hs hal hts
          go_simp
          all_goals (try go_wp2_with (first | (go_at_call 9; refine (rpoint_n _ hA9 hB9 hp).mono ?_; rintro e w' ⟨x1, y1, t1, h13, _, rfl, hb1⟩)))
          all_goals first | exact hK.out _ _ ⟨_, _, _, h13, rfl⟩ hb1 | exact hK.out _ _ ⟨_, _, _, h13, rfl⟩ (bl_refl _) | exact hK.out _ _ ⟨_, _, h14, rfl⟩ (bl_refl _) | exact hK.out _ _ ⟨_, rfl⟩ (bl_refl _) | exact hK.out _ _ rfl (bl_refl _) | exact hK.out _ _ rfl (by assumption) | exact hK.out _ _ (by assumption) (by assumption)
        · cases ho
          have e4 : s 4 = _ := hs 4 (by decide) rfl rfl (by kernel_rfl)
          have e9 : s 9 = _ := hs 9 (by decide) rfl rfl (by kernel_rfl)
          simp only [e4, e9] at hK ⊢
          simp only [Act.put, List.setIfInBounds_toArray, List.set_cons_zero, List.set_cons_succ] at hK
          clear hs hal hts
          go_simp
          all_goals (try go_wp2_with (first | (go_at_call 9; refine (rpoint_n _ hA9 hB9 hp).mono ?_; rintro e w' ⟨x1, y1, t1, h13, _, rfl, hb1⟩)))
          all_goals first | exact hK.out _ _ ⟨_, _, _, h13, rfl⟩ hb1 | exact hK.out _ _ ⟨_, _, _, h13, rfl⟩ (bl_refl _) | exact hK.out _ _ ⟨_, _, h14, rfl⟩ (bl_refl _) | exact hK.out _ _ ⟨_, rfl⟩ (bl_refl _) | exact hK.out _ _ rfl (bl_refl _) | exact hK.out _ _ rfl (by assumption) | exact hK.out _ _ (by assumption) (by assumption)
        · cases ho
          have e10 : s 10 = _ := hs 10 (by decide) rfl rfl (by kernel_rfl)
          simp only [e10] at hK ⊢
          simp only [Act.put, List.setIfInBounds_toArray, List.set_cons_zero, List.set_cons_succ] at hK
          clear hs hal hts
          go_simp
          all_goals (try go_wp2_with (first | (go_at_call 9; refine (rpoint_n _ hA9 hB9 hp).mono ?_; rintro e w' ⟨x1, y1, t1, h13, _, rfl, hb1⟩)))
          all_goals first | exact hK.out _ _ ⟨_, _, _, h13, rfl⟩ hb1 | exact hK.out _ _ ⟨_, _, _, h13, rfl⟩ (bl_refl _) | exact hK.out _ _ ⟨_, _, h14, rfl⟩ (bl_refl _) | exact hK.out _ _ ⟨_, rfl⟩ (bl_refl _) | exact hK.out _ _ rfl (bl_refl _) | exact hK.out _ _ rfl (by assumption) | exact hK.out _ _ (by assumption) (by assumption)
        · cases ho
          simp only [Act.put, List.setIfInBounds_toArray, List.set_cons_zero, List.set_cons_succ] at hK
          clear hs hal hts
          go_simp
          all_goals (try go_wp2_with (first | (go_at_call 9; refine (rpoint_n _ hA9 hB9 hp).mono ?_; rintro e w' ⟨x1, y1, t1, h13, _, rfl, hb1⟩)))
          all_goals first | exact hK.out _ _ ⟨_, _, _, h13, rfl⟩ hb1 | exact hK.out _ _ ⟨_, _, _, h13, rfl⟩ (bl_refl _) | exact hK.out _ _ ⟨_, _, h14, rfl⟩ (bl_refl _) | exact hK.out _ _ ⟨_, rfl⟩ (bl_refl _) | exact hK.out _ _ rfl (bl_refl _) | exact hK.out _ _ rfl (by assumption) | exact hK.out _ _ (by assumption) (by assumption)
        · cases ho
          have e3 : s 3 = _ := hs 3 (by decide) rfl rfl (by kernel_rfl)
          have e11 : s 11 = _ := hs 11 (by decide) rfl rfl (by kernel_rfl)
          have e12 : s 12 = _ := hs 12 (by decide) rfl rfl (by kernel_rfl)
          simp only [e3, e11, e12] at hK ⊢
          simp only [Act.put, List.setIfInBounds_toArray, List.set_cons_zero, List.set_cons_succ] at hK
          clear hs hal hts
          go_simp
          all_goals (try go_wp2_with (first | (go_at_call 9; refine (rpoint_n _ hA9 hB9 hp).mono ?_; rintro e w' ⟨x1, y1, t1, h13, _, rfl, hb1⟩)))
          all_goals first | exact hK.out _ _ ⟨_, _, _, h13, rfl⟩ hb1 | exact hK.out _ _ ⟨_, _, _, h13, rfl⟩ (bl_refl _) | exact hK.out _ _ ⟨_, _, h14, rfl⟩ (bl_refl _) | exact hK.out _ _ ⟨_, rfl⟩ (bl_refl _) | exact hK.out _ _ rfl (bl_refl _) | exact hK.out _ _ rfl (by assumption) | exact hK.out _ _ (by assumption) (by assumption)
        · cases ho
          obtain ⟨x1, y1, t1, h13, e13⟩ := hs 13 (by decide) rfl rfl (by kernel_rfl)
          simp only [e13] at hK ⊢
          simp only [Act.put, List.setIfInBounds_toArray, List.set_cons_zero, List.set_cons_succ] at hK
          clear hs hal hts
          go_simp
          all_goals (try go_wp2_with (first | (go_at_call 9; refine (rpoint_n _ hA9 hB9 hp).mono ?_; rintro e w' ⟨x1, y1, t1, h13, _, rfl, hb1⟩)))
          all_goals first | exact hK.out _ _ ⟨_, _, _, h13, rfl⟩ hb1 | exact hK.out _ _ ⟨_, _, _, h13, rfl⟩ (bl_refl _) | exact hK.out _ _ ⟨_, _, h14, rfl⟩ (bl_refl _) | exact hK.out _ _ ⟨_, rfl⟩ (bl_refl _) | exact hK.out _ _ rfl (bl_refl _) | exact hK.out _ _ rfl (by assumption) | exact hK.out _ _ (by assumption) (by assumption)
        · cases ho
          obtain ⟨x1, y1, t1, h14, e14⟩ := hs 14 (by decide) rfl rfl (by kernel_rfl)
          simp only [e14] at hK ⊢
          simp only [Act.put, List.setIfInBounds_toArray, List.set_cons_zero, List.set_cons_succ] at hK
          clear hs hal hts
          go_simp
          all_goals (try go_wp2_with (first | (go_at_call 9; refine (rpoint_n _ hA9 hB9 hp).mono ?_; rintro e w' ⟨x1, y1, t1, h13, _, rfl, hb1⟩)))
          all_goals first | exact hK.out _ _ ⟨_, _, _, h13, rfl⟩ hb1 | exact hK.out _ _ ⟨_, _, _, h13, rfl⟩ (bl_refl _) | exact hK.out _ _ ⟨_, _, h14, rfl⟩ (bl_refl _) | exact hK.out _ _ ⟨_, rfl⟩ (bl_refl _) | exact hK.out _ _ rfl (bl_refl _) | exact hK.out _ _ rfl (by assumption) | exact hK.out _ _ (by assumption) (by assumption)
        · cases ho
          obtain ⟨x1, y1, t1, h14, e14⟩ := hs 14 (by decide) rfl rfl (by kernel_rfl)
          simp only [e14] at hK ⊢
          simp only [Act.put, List.setIfInBounds_toArray, List.set_cons_zero, List.set_cons_succ] at hK
          clear hs hal hts
          go_simp
          all_goals (try go_wp2_with (first | (go_at_call 9; refine (rpoint_n _ hA9 hB9 hp).mono ?_; rintro e w' ⟨x1, y1, t1, h13, _, rfl, hb1⟩)))
          all_goals first | exact hK.out _ _ ⟨_, _, _, h13, rfl⟩ hb1 | exact hK.out _ _ ⟨_, _, _, h13, rfl⟩ (bl_refl _) | exact hK.out _ _ ⟨_, _, h14, rfl⟩ (bl_refl _) | exact hK.out _ _ ⟨_, rfl⟩ (bl_refl _) | exact hK.out _ _ rfl (bl_refl _) | exact hK.out _ _ rfl (by assumption) | exact hK.out _ _ (by assumption) (by assumption)
        · cases (show some _ = none from hal)
        · cases (show some _ = none from hts)
        · cases ho
          obtain ⟨t1, e16⟩ := hs 16 (by decide) rfl rfl (by kernel_rfl)
          simp only [e16] at hK ⊢
          simp only [Act.put, List.setIfInBounds_toArray, List.set_cons_zero, List.set_cons_succ] at hK
          clear hs hal hts
          go_simp
          all_goals (try go_wp2_with (first | (go_at_call 9; refine (rpoint_n _ hA9 hB9 hp).mono ?_; rintro e w' ⟨x1, y1, t1, h13, _, rfl, hb1⟩)))
          all_goals first | exact hK.out _ _ ⟨_, _, _, h13, rfl⟩ hb1 | exact hK.out _ _ ⟨_, _, _, h13, rfl⟩ (bl_refl _) | exact hK.out _ _ ⟨_, _, h14, rfl⟩ (bl_refl _) | exact hK.out _ _ ⟨_, rfl⟩ (bl_refl _) | exact hK.out _ _ rfl (bl_refl _) | exact hK.out _ _ rfl (by assumption) | exact hK.out _ _ (by assumption) (by assumption)
      case ht_wn =>
        intro s hs W hb hJ
        have e0 : s 0 = _ := hs 0 (by decide) rfl rfl
        have e1 : s 1 = _ := hs 1 (by decide) rfl rfl
        have e2 : s 2 = _ := hs 2 (by decide) rfl rfl
        have e3 : s 3 = _ := hs 3 (by decide) rfl rfl
        have e4 : s 4 = _ := hs 4 (by decide) rfl rfl
        have e5 : s 5 = _ := hs 5 (by decide) rfl rfl
        have e6 : s 6 = _ := hs 6 (by decide) rfl rfl
        have e7 : s 7 = _ := hs 7 (by decide) rfl rfl
        have e8 : s 8 = _ := hs 8 (by decide) rfl rfl
        have e9 : s 9 = _ := hs 9 (by decide) rfl rfl
        have e10 : s 10 = _ := hs 10 (by decide) rfl rfl
        have e11 : s 11 = _ := hs 11 (by decide) rfl rfl
        have e12 : s 12 = _ := hs 12 (by decide) rfl rfl
        obtain ⟨_, _, _, _, e13⟩ := hs 13 (by decide) rfl rfl
        obtain ⟨_, _, _, _, e14⟩ := hs 14 (by decide) rfl rfl
        obtain ⟨x1, y1, hq1, e15⟩ := hs 15 (by decide) rfl rfl
        obtain ⟨_, e16⟩ := hs 16 (by decide) rfl rfl
        obtain ⟨_, e19⟩ := hs 19 (by decide) rfl rfl
        obtain ⟨p17, e17, n17, l17, cl17⟩ := hJ.1 17 _ _ (by decide) rfl rfl
        have k_p17_0 : W.cell? ⟨p17, 0, none⟩ = some (cellAt (s 15) 0) := cl17 0 (by decide)
        have k_p17_1 : W.cell? ⟨p17, 1, none⟩ = some (cellAt (s 15) 1) := cl17 1 (by decide)
        rw [e15] at k_p17_0 k_p17_1
        simp only [cellAt] at k_p17_0 k_p17_1
        simp only [e0, e1, e2, e3, e4, e5, e6, e7, e8, e9, e10, e11, e12, e13, e14, e15, e16, e19, e17]
        clear hs hJ e0 e1 e2 e3 e4 e5 e6 e7 e8 e9 e10 e11 e12 e13 e14 e15 e16 e19 e17 cl17
        have B4 := bl_trans hB hb
        replace b0 := keep hb b0; replace b1 := keep hb b1
        have z0_0 := keep B4 z0_0
        have z0_1 := keep B4 z0_1
        clear hb
        rcases hD with ⟨k00, rfl, rfl⟩ | ⟨kp, far, _, rfl, rfl, hf, hxy, rfl⟩
        · go_wp2_with (first | (go_at_call 40; refine (minus_n _ hp hq1).mono ?_; rintro e w5 ⟨ux, uy, hu, rfl, hb⟩; replace k_p17_0 : w5.cell? ⟨p17, 0, none⟩ = some (.float .f64 x1) := keep hb (by first | exact k_p17_0 | go_keep); replace k_p17_1 : w5.cell? ⟨p17, 1, none⟩ = some (.float .f64 y1) := keep hb (by first | exact k_p17_1 | go_keep); replace b0 : w5.cell? ⟨w2.heap.size, 0, none⟩ = some (.float .f64 x) := keep hb (by first | exact b0 | go_keep); replace b1 : w5.cell? ⟨w2.heap.size, 1, none⟩ = some (.float .f64 y) := keep hb (by first | exact b1 | go_keep); have B5 := bl_trans B4 hb; clear hb) | (go_at_call 51; refine (length_n _ hu).mono ?_; rintro e w6 ⟨r, hr, rfl, hb⟩; replace k_p17_0 : w6.cell? ⟨p17, 0, none⟩ = some (.float .f64 x1) := keep hb (by first | exact k_p17_0 | go_keep); replace k_p17_1 : w6.cell? ⟨p17, 1, none⟩ = some (.float .f64 y1) := keep hb (by first | exact k_p17_1 | go_keep); replace b0 : w6.cell? ⟨w2.heap.size, 0, none⟩ = some (.float .f64 x) := keep hb (by first | exact b0 | go_keep); replace b1 : w6.cell? ⟨w2.heap.size, 1, none⟩ = some (.float .f64 y) := keep hb (by first | exact b1 | go_keep); have B6 := bl_trans B5 hb; clear hb; have lg := World.block_lt_of_cell? _ _ b0; simp only at lg; have fE : ∀ o, w6.frozen? ⟨w2.heap.size, o, none⟩ = false := fun o => (B6.2 _).trans (fresh_frozen (Nat.le_refl _)); have hr2 : isF r (nxF xs ys n P k).1 := (by unfold nxF; rw [hjd]; exact hr)))
          obtain ⟨X, hX, r0, r1, -, bX⟩ := put2_all (p := .float .f64 x1) (q := .float .f64 y1) b0 b1
          rw [← hX]
          refine ⟨⟨k + 1, x1, y1, by omega, by go_num, bX w2 B6 (Nat.le_refl _), r0, r1, .inr ⟨by omega, r, 0, by first | rfl | go_num, rfl, ?_⟩⟩, by simp [intOf]; omega⟩
          subst k00
          rw [pl_one hp0 (sda_bd hG) hPb]
          refine ⟨hr2, ?_, rfl⟩
          show isP x1 y1 (ptF (sdA xs ys 0) (sdA xs ys ((0 + 1) % n)) P).1
          rw [hjd]
          exact hq1
        · have s9 : ¬ ((plF xs ys n P k).2 : Int) < 0 := by omega
          have c2 := cmp_lt .f64
          go_wp2_with (first | (go_at_call 40; refine (minus_n _ hp hq1).mono ?_; rintro e w5 ⟨ux, uy, hu, rfl, hb⟩; replace k_p17_0 : w5.cell? ⟨p17, 0, none⟩ = some (.float .f64 x1) := keep hb (by first | exact k_p17_0 | go_keep); replace k_p17_1 : w5.cell? ⟨p17, 1, none⟩ = some (.float .f64 y1) := keep hb (by first | exact k_p17_1 | go_keep); replace b0 : w5.cell? ⟨w2.heap.size, 0, none⟩ = some (.float .f64 x) := keep hb (by first | exact b0 | go_keep); replace b1 : w5.cell? ⟨w2.heap.size, 1, none⟩ = some (.float .f64 y) := keep hb (by first | exact b1 | go_keep); have B5 := bl_trans B4 hb; clear hb) | (go_at_call 51; refine (length_n _ hu).mono ?_; rintro e w6 ⟨r, hr, rfl, hb⟩; replace k_p17_0 : w6.cell? ⟨p17, 0, none⟩ = some (.float .f64 x1) := keep hb (by first | exact k_p17_0 | go_keep); replace k_p17_1 : w6.cell? ⟨p17, 1, none⟩ = some (.float .f64 y1) := keep hb (by first | exact k_p17_1 | go_keep); replace b0 : w6.cell? ⟨w2.heap.size, 0, none⟩ = some (.float .f64 x) := keep hb (by first | exact b0 | go_keep); replace b1 : w6.cell? ⟨w2.heap.size, 1, none⟩ = some (.float .f64 y) := keep hb (by first | exact b1 | go_keep); have B6 := bl_trans B5 hb; clear hb; have lg := World.block_lt_of_cell? _ _ b0; simp only at lg; have fE : ∀ o, w6.frozen? ⟨w2.heap.size, o, none⟩ = false := fun o => (B6.2 _).trans (fresh_frozen (Nat.le_refl _)); have hr2 : isF r (nxF xs ys n P k).1 := (by unfold nxF; rw [hjd]; exact hr); cases hl : ltK .f64 r far))
          · refine ⟨⟨k + 1, x, y, by omega, by go_num, B6, b0, b1, .inr ⟨by omega, far, _, rfl, rfl, ?_⟩⟩, by simp [intOf]; omega⟩
            have hF : ltK .f64 (nxF xs ys n P k).1 (plF xs ys n P k).1.1 = false := (lt_is hr2 hf).symm.trans hl
            rw [pl_s1, pl_s2, pkF_no hF, pkF_no hF]
            exact ⟨hf, hxy, rfl⟩
          · have hT : ltK .f64 (nxF xs ys n P k).1 (plF xs ys n P k).1.1 = true := (lt_is hr2 hf).symm.trans hl
            obtain ⟨X, hX, r0, r1, -, bX⟩ := put2_all (p := .float .f64 x1) (q := .float .f64 y1) b0 b1
            rw [← hX]
            refine ⟨⟨k + 1, x1, y1, by omega, by go_num, bX w2 B6 (Nat.le_refl _), r0, r1, .inr ⟨by omega, r, k, by first | rfl | go_num, rfl, ?_⟩⟩, by simp [intOf]; omega⟩
            rw [pl_s1, pl_s2, pkF_yes hT, pkF_yes hT]
            refine ⟨hr2, ?_, rfl⟩
            show isP x1 y1 (ptF (sdA xs ys k) (sdA xs ys ((k + 1) % n)) P).1
            rw [hjd]
            exact hq1
    · obtain rfl : k = n := by omega
      rcases hD with ⟨k00, -, -⟩ | ⟨kp, far, _, rfl, rfl, hf, hxy, rfl⟩
      · omega
      have kI : ¬ (k : Int) < (k : Int) := by omega
      replace z0_0 := keep hB z0_0; replace z0_1 := keep hB z0_1; replace z1_0 := keep hB z1_0; replace z1_1 := keep hB z1_1
      replace BF := bl_trans BF hB
      have fE := fun o => (BF.2 _).trans (fR o)
      go_wp2
      refine bodyPost_ret (v := .tuple #[.agg #[.float .f64 x, .float .f64 y], .int .i64 ((plF xs ys k P k).2 : Int), .int .i64 0]) (by simp [z1_0, z1_1, results, Try.results17, go_sem] <;> (first | exact ⟨⟨rfl, rfl⟩, rfl⟩ | exact ⟨rfl, rfl, rfl, rfl⟩ | exact ⟨rfl, rfl, rfl⟩ | exact ⟨rfl, rfl⟩ | rfl)) rfl ⟨_, _, _, fun _ => ⟨hxy, rfl⟩, fun q => absurd (unhide he1) q, by rw [unhide he1], ?_⟩
      have B := bl_trans B0 BF
      repeat (first | exact bl_refl _ | assumption | apply bl_drewN | apply bl_drew | apply bl_alloc | refine bl_set ?_ (by simp <;> omega) | refine bl_trans ?_ (by assumption))

end Go.Proofs.Ytpnkmflkjokhlaa
