/-
  What each function of package poly answers, and what the reference of its chapter answers: one contract a function, for every float: the answer stands in the relation of its formula to what was given; of the memory that was there nothing has turned.
-/
import Derived.Test.YtoofbfjlgablkaaVec
import Derived.Test.YtoofbfjlgablkaaMb
import Derived.Test.YtoofbfjlgablkaaPd
import Derived.Laws.MakeOwn
import Derived.Below
import Derived.WalkKit
import Derived.WalkLawsBesides
import Derived.WalkSpells
import Derived.ProofKit
import Derived.OpenShut
import Derived.Deep.RegionHeld3
namespace Go.Proofs.Ytoofbfjlgablkaa
open Go.ChangeShapes Go.WideShapes Go.ChangeAt Go.RowKit
set_option linter.unusedVariables false
set_option linter.unusedSimpArgs false


theorem make_fl (n : Nat) (hn : n ≤ 1000000) (W : World) : (Instr.makeSlice 67 (.int .i64 n) (.int .i64 n)).run Try.prog W = .ok (.slice (some ⟨W.heap.size, 0, none⟩) n n) (W.alloc (.cells (madeCells #[.float .f64 0] n) 24)) := by
  have h := run_make (P := Try.prog) W 67 24 Try.t24 (.float .f64 0) Try.underlying67 (by kernel_rfl) (by kernel_rfl) .i64 .i64 n n (by omega) (by omega) (by show ((8 : Nat) : Int) * n ≤ _; omega) (by omega)
  rw [show Try.t24.size = 1 by kernel_rfl, Nat.mul_one] at h
  exact h
theorem made_fl (W : World) (t : TypeId) (n q : Nat) (hq : q < n) : (W.alloc (.cells (madeCells #[.float .f64 0] n) t)).cell? ⟨W.heap.size, q, none⟩ = some (.float .f64 0) := by
  simp [madeCells, hq, Nat.mod_one]
theorem sum_some (b off n cap : Nat) (xs : Nat → Nat) (w : World) (hn : n + 1 ≤ maxLen) (hcap : n + 1 ≤ cap) (hc : ∀ i, i < n + 1 → w.cell? ⟨b, off + i, none⟩ = some (.float .f64 (xs i))) :
    Calls Try.prog 42 #[.slice (some ⟨b, off, none⟩) (n + 1) cap] w fun e w' => ∃ s m, accR (xs 0) (fun i => xs (i + 1)) n s ∧ e = .returned (.float .f64 s) ∧ w' = w.drewN m := by
  unfold maxLen at hn
  have q := run_add Try.prog
  have h0 := hc 0 (by omega)
  have hz : (((n : Int) + 1) == 0) = false := by simp; omega
  simp only [Nat.add_zero] at h0
  by_cases hcap1 : cap = 1
  · have hn0 : n = 0 := by omega
    subst hn0
    go_enter Try.func42, Try.ntmps42
    go_wp2
    go_loopw [3, 15] (fun s i wr => i = .int .i64 0 ∧ s = .float .f64 (xs 0) ∧ wr = w) (fun _ i _ => 0)
    case atStart => exact ⟨rfl, rfl, rfl⟩
    case round =>
      obtain ⟨rfl, rfl, rfl⟩ := hrel
      go_wp2
      go_ret
      exact ⟨xs 0, 0, accR_zero _ _, rfl, rfl⟩
  · go_enter Try.func42, Try.ntmps42
    go_wp2
    go_loopw [3, 15] (fun s i wr => ∃ k a m : Nat, k ≤ n ∧ i = .int .i64 k ∧ s = .float .f64 a ∧ wr = w.drewN m ∧ accR (xs 0) (fun i => xs (i + 1)) k a) (fun _ i _ => n - (intOf i).toNat)
    case atStart => exact ⟨0, xs 0, 0, by omega, rfl, rfl, rfl, accR_zero _ _⟩
    case round =>
      obtain ⟨k, a, m, hk, rfl, rfl, rfl, hacc⟩ := hrel
      by_cases hlt : k < n
      · have hcx := hc (k + 1) (by omega)
        rw [show off + (k + 1) = off + 1 + k by omega] at hcx
        go_wp2
        exact ⟨⟨k + 1, _, _, by omega, by go_num, rfl, rfl, accR_succ hacc (fv_res _ _ _ _ _)⟩, by simp [intOf]; omega⟩
      · have hkn : k = n := by omega
        subst hkn
        go_wp2
        go_ret
        exact ⟨a, m, hacc, rfl, rfl⟩

theorem sum_none (v : Option Addr) (cap : Nat) (w : World) :
    Calls Try.prog 42 #[.slice v 0 cap] w fun e w' => e = .returned (.float .f64 0) ∧ w' = w := by
  go_enter Try.func42, Try.ntmps42
  go_wp2
  go_ret
  exact ⟨rfl, rfl⟩


set_option maxRecDepth 100000 in
set_option maxHeartbeats 4000000 in
theorem spread_any (b off n cap : Nat) (xs ys : Nat → Nat) (cx cy : Nat) (w : World) (sl : Sl w b off n xs ys) (hp : 0 < n) (hn : n ≤ 1000) (hcap : n ≤ cap) : Calls Try.prog 55 #[.slice (some ⟨b, off, none⟩) n cap, .agg #[.float .f64 cx, .float .f64 cy]] w fun e w' => ∃ r, SpreadR xs ys n cx cy r ∧ e = .returned (.float .f64 r) ∧ Bel w w' := by
  have lb := sl.lt hp
  have hmk := make_fl n (by omega)
  go_enter Try.func55, Try.ntmps55
  go_wp2
  go_loopw [14] (fun i' wr => ∃ (k : Nat) (ts : Nat → Nat), k ≤ n ∧ i' = .int .i64 k ∧ Bel w wr ∧ TermsR xs ys n cx cy k ts ∧ (∀ q, q < n → wr.cell? ⟨w.heap.size + 1, q, none⟩ = some (.float .f64 (if q < k then ts q else 0))) ∧ wr.cell? ⟨w.heap.size, 0, none⟩ = some (.float .f64 cx) ∧ wr.cell? ⟨w.heap.size, 1, none⟩ = some (.float .f64 cy)) (fun i' _ => n - (intOf i').toNat)
  case atStart =>
    refine ⟨0, fun _ => 0, by omega, rfl, bl_alloc (bl_alloc (bl_refl w) _ _) _ _, fun q hq => by omega, fun q hq => ?_, up_alloc (by rw [World.cell?_alloc_new]; rfl), up_alloc (by rw [World.cell?_alloc_new]; rfl)⟩
    have h := made_fl (w.alloc (.cells #[.float .f64 cx, .float .f64 cy] 26)) 24 n q hq
    rw [World.size_alloc] at h
    simpa using h
  case round =>
    obtain ⟨k, ts, hk, rfl, hB, hts, hRs, z0, z1⟩ := hrel
    by_cases hlt : k < n
    · have k1 : (k : Int) < (n : Int) := by omega
      have hbb : b < wr.heap.size := Nat.lt_of_lt_of_le lb hB.size
      have slr := sl.bel hB
      obtain ⟨j, ej⟩ : ∃ j, j = (k + 1) % n := ⟨_, rfl⟩
      have hj : j < n := by rw [ej]; exact Nat.mod_lt _ hp
      have et : ((k : Int) + 1).tmod (n : Int) = (j : Int) := by rw [ej]; exact tmod_nat2 k 1 n
      have ejH := hide ej
      clear ej
      have hnI : ¬ (n : Int) = 0 := by omega
      have wi : IntKind.wrap .i64 ((k : Int) + 1) = (k : Int) + 1 := by rw [IntKind.wrap_i64]; omega
      have j0 : (0 : Int) ≤ (j : Int) := by omega
      have j1 : (j : Int) < (n : Int) := by omega
      have lR := World.block_lt_of_cell? _ _ (hRs k hlt)
      simp only at lR
      go_wp2
      refine wp_region_multiA 18 (fun i v => match i with | 0 => v = .slice (some ⟨b, off, none⟩) n cap | 1 => v = .int .i64 (k : Int) | 2 => v = .pointer (some ⟨b, off + k * 2, none⟩) | 3 => v = .agg #[.float .f64 (xs k), .float .f64 (ys k)] | 4 => v = .agg #[.float .f64 cx, .float .f64 cy] | 5 => ∃ x y, SubR (xs k) (ys k) cx cy x y ∧ v = .agg #[.float .f64 x, .float .f64 y] | 6 => v = .slice (some ⟨b, off, none⟩) n cap | 7 => v = .int .i64 (k : Int) | 8 => v = .int .i64 ((k : Int) + 1) | 9 => v = .slice (some ⟨b, off, none⟩) n cap | 10 => v = .int .i64 (n : Int) | 11 => v = .int .i64 (j : Int) | 12 => v = .pointer (some ⟨b, off + j * 2, none⟩) | 13 => v = .agg #[.float .f64 (xs j), .float .f64 (ys j)] | 14 => v = .agg #[.float .f64 cx, .float .f64 cy] | 15 => ∃ x y, SubR (xs j) (ys j) cx cy x y ∧ v = .agg #[.float .f64 x, .float .f64 y] | 16 => ∃ b, v = .pointer (some ⟨b, 0, none⟩) | 17 => ∃ b, v = .pointer (some ⟨b, 0, none⟩) | _ => False) (fun i => match i with | 16 => some (Obj.cells #[.float .f64 0, .float .f64 0] 26) | 17 => some (Obj.cells #[.float .f64 0, .float .f64 0] 26) | _ => none) ?A_wf (by kernel_rfl) (by kernel_rfl) ?hA_wf ?ha_wf ?hq_wf [18, 19] rfl ?ht_wf
      case hA_wf =>
        intro s
        simp only [putL, dstO, Act.put, List.getElem?_toArray, List.getElem?_cons_zero, List.getElem?_cons_succ, Option.bind_some, List.setIfInBounds_toArray, List.set_cons_zero, List.set_cons_succ, if_true]
        all_goals exact rfl
      case ha_wf =>
        intro i o ob hi ho hal
        rcases (show i = 0 ∨ i = 1 ∨ i = 2 ∨ i = 3 ∨ i = 4 ∨ i = 5 ∨ i = 6 ∨ i = 7 ∨ i = 8 ∨ i = 9 ∨ i = 10 ∨ i = 11 ∨ i = 12 ∨ i = 13 ∨ i = 14 ∨ i = 15 ∨ i = 16 ∨ i = 17 by omega) with rfl | rfl | rfl | rfl | rfl | rfl | rfl | rfl | rfl | rfl | rfl | rfl | rfl | rfl | rfl | rfl | rfl | rfl
        · cases hal
        · cases hal
        · cases hal
        · cases hal
        · cases hal
        · cases hal
        · cases hal
        · cases hal
        · cases hal
        · cases hal
        · cases hal
        · cases hal
        · cases hal
        · cases hal
        · cases hal
        · cases hal
        · cases ho; cases hal; exact ⟨fun v hv => ⟨_, hv.choose_spec.2⟩, ⟨_, _, rfl⟩, fun A W => by go_simp⟩
        · cases ho; cases hal; exact ⟨fun v hv => ⟨_, hv.choose_spec.2⟩, ⟨_, _, rfl⟩, fun A W => by go_simp⟩
      case hq_wf =>
        intro i o hi ho hal s hs W hb K hK
        have hs2 := slr.bel hb; obtain ⟨a0, a1⟩ := hs2 k hlt; obtain ⟨c0, c1⟩ := hs2 j hj; have u0 := keep hb z0; have u1 := keep hb z1; have hbb : b < W.heap.size := Nat.lt_of_lt_of_le hbb hb.size
        rcases (show i = 0 ∨ i = 1 ∨ i = 2 ∨ i = 3 ∨ i = 4 ∨ i = 5 ∨ i = 6 ∨ i = 7 ∨ i = 8 ∨ i = 9 ∨ i = 10 ∨ i = 11 ∨ i = 12 ∨ i = 13 ∨ i = 14 ∨ i = 15 ∨ i = 16 ∨ i = 17 by omega) with rfl | rfl | rfl | rfl | rfl | rfl | rfl | rfl | rfl | rfl | rfl | rfl | rfl | rfl | rfl | rfl | rfl | rfl
        · cases ho
          simp only [Act.put, List.setIfInBounds_toArray, List.set_cons_zero, List.set_cons_succ] at hK
          clear hs
          go_simp
          all_goals (try go_wp2_with (first | (go_at_call 44; refine (vSub_any _ _ _ _ _).mono ?_; rintro e w' ⟨x, y, hS, rfl, hb1⟩)))
          all_goals first | exact hK.out _ _ ⟨_, _, hS, rfl⟩ hb1 | exact hK.out _ _ rfl (bl_refl _) | exact hK.out _ _ rfl (by assumption) | exact hK.out _ _ (by assumption) (by assumption)
        · cases ho
          simp only [Act.put, List.setIfInBounds_toArray, List.set_cons_zero, List.set_cons_succ] at hK
          clear hs
          go_simp
          all_goals (try go_wp2_with (first | (go_at_call 44; refine (vSub_any _ _ _ _ _).mono ?_; rintro e w' ⟨x, y, hS, rfl, hb1⟩)))
          all_goals first | exact hK.out _ _ ⟨_, _, hS, rfl⟩ hb1 | exact hK.out _ _ rfl (bl_refl _) | exact hK.out _ _ rfl (by assumption) | exact hK.out _ _ (by assumption) (by assumption)
        · cases ho
          have e0 : s 0 = _ := hs 0 (by decide) (by kernel_rfl)
          have e1 : s 1 = _ := hs 1 (by decide) (by kernel_rfl)
          simp only [e0, e1] at hK ⊢
          simp only [Act.put, List.setIfInBounds_toArray, List.set_cons_zero, List.set_cons_succ] at hK
          clear hs
          go_simp
          all_goals (try go_wp2_with (first | (go_at_call 44; refine (vSub_any _ _ _ _ _).mono ?_; rintro e w' ⟨x, y, hS, rfl, hb1⟩)))
          all_goals first | exact hK.out _ _ ⟨_, _, hS, rfl⟩ hb1 | exact hK.out _ _ rfl (bl_refl _) | exact hK.out _ _ rfl (by assumption) | exact hK.out _ _ (by assumption) (by assumption)
        · cases ho
          have e2 : s 2 = _ := hs 2 (by decide) (by kernel_rfl)
          simp only [e2] at hK ⊢
          simp only [Act.put, List.setIfInBounds_toArray, List.set_cons_zero, List.set_cons_succ] at hK
          clear hs
          go_simp
          all_goals (try go_wp2_with (first | (go_at_call 44; refine (vSub_any _ _ _ _ _).mono ?_; rintro e w' ⟨x, y, hS, rfl, hb1⟩)))
          all_goals first | exact hK.out _ _ ⟨_, _, hS, rfl⟩ hb1 | exact hK.out _ _ rfl (bl_refl _) | exact hK.out _ _ rfl (by assumption) | exact hK.out _ _ (by assumption) (by assumption)
        · cases ho
          simp only [Act.put, List.setIfInBounds_toArray, List.set_cons_zero, List.set_cons_succ] at hK
          clear hs
          go_simp
          all_goals (try go_wp2_with (first | (go_at_call 44; refine (vSub_any _ _ _ _ _).mono ?_; rintro e w' ⟨x, y, hS, rfl, hb1⟩)))
          all_goals first | exact hK.out _ _ ⟨_, _, hS, rfl⟩ hb1 | exact hK.out _ _ rfl (bl_refl _) | exact hK.out _ _ rfl (by assumption) | exact hK.out _ _ (by assumption) (by assumption)
        · cases ho
          have e3 : s 3 = _ := hs 3 (by decide) (by kernel_rfl)
          have e4 : s 4 = _ := hs 4 (by decide) (by kernel_rfl)
          simp only [e3, e4] at hK ⊢
          simp only [Act.put, List.setIfInBounds_toArray, List.set_cons_zero, List.set_cons_succ] at hK
          clear hs
          go_simp
          all_goals (try go_wp2_with (first | (go_at_call 44; refine (vSub_any _ _ _ _ _).mono ?_; rintro e w' ⟨x, y, hS, rfl, hb1⟩)))
          all_goals first | exact hK.out _ _ ⟨_, _, hS, rfl⟩ hb1 | exact hK.out _ _ rfl (bl_refl _) | exact hK.out _ _ rfl (by assumption) | exact hK.out _ _ (by assumption) (by assumption)
        · cases ho
          simp only [Act.put, List.setIfInBounds_toArray, List.set_cons_zero, List.set_cons_succ] at hK
          clear hs
          go_simp
          all_goals (try go_wp2_with (first | (go_at_call 44; refine (vSub_any _ _ _ _ _).mono ?_; rintro e w' ⟨x, y, hS, rfl, hb1⟩)))
          all_goals first | exact hK.out _ _ ⟨_, _, hS, rfl⟩ hb1 | exact hK.out _ _ rfl (bl_refl _) | exact hK.out _ _ rfl (by assumption) | exact hK.out _ _ (by assumption) (by assumption)
        · cases ho
          simp only [Act.put, List.setIfInBounds_toArray, List.set_cons_zero, List.set_cons_succ] at hK
          clear hs
          go_simp
          all_goals (try go_wp2_with (first | (go_at_call 44; refine (vSub_any _ _ _ _ _).mono ?_; rintro e w' ⟨x, y, hS, rfl, hb1⟩)))
          all_goals first | exact hK.out _ _ ⟨_, _, hS, rfl⟩ hb1 | exact hK.out _ _ rfl (bl_refl _) | exact hK.out _ _ rfl (by assumption) | exact hK.out _ _ (by assumption) (by assumption)
        · cases ho
          have e7 : s 7 = _ := hs 7 (by decide) (by kernel_rfl)
          simp only [e7] at hK ⊢
          simp only [Act.put, List.setIfInBounds_toArray, List.set_cons_zero, List.set_cons_succ] at hK
          clear hs
          go_simp
          all_goals (try go_wp2_with (first | (go_at_call 44; refine (vSub_any _ _ _ _ _).mono ?_; rintro e w' ⟨x, y, hS, rfl, hb1⟩)))
          all_goals first | exact hK.out _ _ ⟨_, _, hS, rfl⟩ hb1 | exact hK.out _ _ rfl (bl_refl _) | exact hK.out _ _ rfl (by assumption) | exact hK.out _ _ (by assumption) (by assumption)
        · cases ho
          simp only [Act.put, List.setIfInBounds_toArray, List.set_cons_zero, List.set_cons_succ] at hK
          clear hs
          go_simp
          all_goals (try go_wp2_with (first | (go_at_call 44; refine (vSub_any _ _ _ _ _).mono ?_; rintro e w' ⟨x, y, hS, rfl, hb1⟩)))
          all_goals first | exact hK.out _ _ ⟨_, _, hS, rfl⟩ hb1 | exact hK.out _ _ rfl (bl_refl _) | exact hK.out _ _ rfl (by assumption) | exact hK.out _ _ (by assumption) (by assumption)
        · cases ho
          have e9 : s 9 = _ := hs 9 (by decide) (by kernel_rfl)
          simp only [e9] at hK ⊢
          simp only [Act.put, List.setIfInBounds_toArray, List.set_cons_zero, List.set_cons_succ] at hK
          clear hs
          go_simp
          all_goals (try go_wp2_with (first | (go_at_call 44; refine (vSub_any _ _ _ _ _).mono ?_; rintro e w' ⟨x, y, hS, rfl, hb1⟩)))
          all_goals first | exact hK.out _ _ ⟨_, _, hS, rfl⟩ hb1 | exact hK.out _ _ rfl (bl_refl _) | exact hK.out _ _ rfl (by assumption) | exact hK.out _ _ (by assumption) (by assumption)
        · cases ho
          have e8 : s 8 = _ := hs 8 (by decide) (by kernel_rfl)
          have e10 : s 10 = _ := hs 10 (by decide) (by kernel_rfl)
          simp only [e8, e10] at hK ⊢
          simp only [Act.put, List.setIfInBounds_toArray, List.set_cons_zero, List.set_cons_succ] at hK
          clear hs
          go_simp
          all_goals (try go_wp2_with (first | (go_at_call 44; refine (vSub_any _ _ _ _ _).mono ?_; rintro e w' ⟨x, y, hS, rfl, hb1⟩)))
          all_goals first | exact hK.out _ _ ⟨_, _, hS, rfl⟩ hb1 | exact hK.out _ _ rfl (bl_refl _) | exact hK.out _ _ rfl (by assumption) | exact hK.out _ _ (by assumption) (by assumption)
        · cases ho
          have e6 : s 6 = _ := hs 6 (by decide) (by kernel_rfl)
          have e11 : s 11 = _ := hs 11 (by decide) (by kernel_rfl)
          simp only [e6, e11] at hK ⊢
          simp only [Act.put, List.setIfInBounds_toArray, List.set_cons_zero, List.set_cons_succ] at hK
          clear hs
          go_simp
          all_goals (try go_wp2_with (first | (go_at_call 44; refine (vSub_any _ _ _ _ _).mono ?_; rintro e w' ⟨x, y, hS, rfl, hb1⟩)))
          all_goals first | exact hK.out _ _ ⟨_, _, hS, rfl⟩ hb1 | exact hK.out _ _ rfl (bl_refl _) | exact hK.out _ _ rfl (by assumption) | exact hK.out _ _ (by assumption) (by assumption)
        · cases ho
          have e12 : s 12 = _ := hs 12 (by decide) (by kernel_rfl)
          simp only [e12] at hK ⊢
          simp only [Act.put, List.setIfInBounds_toArray, List.set_cons_zero, List.set_cons_succ] at hK
          clear hs
          go_simp
          all_goals (try go_wp2_with (first | (go_at_call 44; refine (vSub_any _ _ _ _ _).mono ?_; rintro e w' ⟨x, y, hS, rfl, hb1⟩)))
          all_goals first | exact hK.out _ _ ⟨_, _, hS, rfl⟩ hb1 | exact hK.out _ _ rfl (bl_refl _) | exact hK.out _ _ rfl (by assumption) | exact hK.out _ _ (by assumption) (by assumption)
        · cases ho
          simp only [Act.put, List.setIfInBounds_toArray, List.set_cons_zero, List.set_cons_succ] at hK
          clear hs
          go_simp
          all_goals (try go_wp2_with (first | (go_at_call 44; refine (vSub_any _ _ _ _ _).mono ?_; rintro e w' ⟨x, y, hS, rfl, hb1⟩)))
          all_goals first | exact hK.out _ _ ⟨_, _, hS, rfl⟩ hb1 | exact hK.out _ _ rfl (bl_refl _) | exact hK.out _ _ rfl (by assumption) | exact hK.out _ _ (by assumption) (by assumption)
        · cases ho
          have e13 : s 13 = _ := hs 13 (by decide) (by kernel_rfl)
          have e14 : s 14 = _ := hs 14 (by decide) (by kernel_rfl)
          simp only [e13, e14] at hK ⊢
          simp only [Act.put, List.setIfInBounds_toArray, List.set_cons_zero, List.set_cons_succ] at hK
          clear hs
          go_simp
          all_goals (try go_wp2_with (first | (go_at_call 44; refine (vSub_any _ _ _ _ _).mono ?_; rintro e w' ⟨x, y, hS, rfl, hb1⟩)))
          all_goals first | exact hK.out _ _ ⟨_, _, hS, rfl⟩ hb1 | exact hK.out _ _ rfl (bl_refl _) | exact hK.out _ _ rfl (by assumption) | exact hK.out _ _ (by assumption) (by assumption)
        · cases hal
        · cases hal
      case ht_wf =>
        intro s hs W hb hJ
        have e0 : s 0 = _ := hs 0 (by decide)
        have e1 : s 1 = _ := hs 1 (by decide)
        have e2 : s 2 = _ := hs 2 (by decide)
        have e3 : s 3 = _ := hs 3 (by decide)
        have e4 : s 4 = _ := hs 4 (by decide)
        obtain ⟨ax, ay, hA1, e5⟩ := hs 5 (by decide)
        have e6 : s 6 = _ := hs 6 (by decide)
        have e7 : s 7 = _ := hs 7 (by decide)
        have e8 : s 8 = _ := hs 8 (by decide)
        have e9 : s 9 = _ := hs 9 (by decide)
        have e10 : s 10 = _ := hs 10 (by decide)
        have e11 : s 11 = _ := hs 11 (by decide)
        have e12 : s 12 = _ := hs 12 (by decide)
        have e13 : s 13 = _ := hs 13 (by decide)
        have e14 : s 14 = _ := hs 14 (by decide)
        obtain ⟨bx, b_y, hA2, e15⟩ := hs 15 (by decide)
        obtain ⟨p16, e16, n16, h16⟩ := laid_at hJ 16 (by decide) rfl
        obtain ⟨p17, e17, n17, h17⟩ := laid_at hJ 17 (by decide) rfl
        have ne1617 := laid_ne hJ 16 17 (by decide) (by decide) (by decide) rfl rfl e16 e17
        have c160 : W.cell? ⟨p16, 0, none⟩ = some (.float .f64 0) := heap_cell h16 rfl
        have c161 : W.cell? ⟨p16, 1, none⟩ = some (.float .f64 0) := heap_cell h16 rfl
        have f16 := fun k => heap_frozen (i := k) h16
        have c170 : W.cell? ⟨p17, 0, none⟩ = some (.float .f64 0) := heap_cell h17 rfl
        have c171 : W.cell? ⟨p17, 1, none⟩ = some (.float .f64 0) := heap_cell h17 rfl
        have f17 := fun k => heap_frozen (i := k) h17
        simp only [e0, e1, e2, e3, e4, e5, e6, e7, e8, e9, e10, e11, e12, e13, e14, e15, e16, e17]
        clear hs
        refine tail_step rfl (fun K hK => ?_)
        go_simp
        refine hK.out _ _ ?_
        clear hK K
        refine tail_step rfl (fun K hK => ?_)
        go_simp
        refine hK.out _ _ ?_
        clear hK K
        refine tail_end ?_
        have ne1716 := ne1617.symm
        (try simp at n16 n17)
        have BW : Bel wr W := by refine bl_trans (b := _) ?_ hb; repeat (first | exact bl_refl wr | apply bl_alloc | apply bl_drew)
        have BW0 := BW
        obtain ⟨wf0, hN, d160, d161, fr0, bN⟩ := put2_all (p := .float .f64 ax) (q := .float .f64 ay) c160 c161
        rw [← hN]
        replace BW := bN wr BW (by omega)
        replace c170 := (fr0 _ 0 (.inl ne1716)).trans c170
        replace c171 := (fr0 _ 1 (.inl ne1716)).trans c171
        clear hN fr0 bN
        obtain ⟨wf, hN, d170, d171, fr1, bN⟩ := put2_all (p := .float .f64 bx) (q := .float .f64 b_y) c170 c171
        rw [← hN]
        replace BW := bN wr BW (by omega)
        replace d160 := (fr1 _ 0 (.inl ne1617)).trans d160
        replace d161 := (fr1 _ 1 (.inl ne1617)).trans d161
        clear hN fr1 bN
        have k_p16_0 : wf.cell? ⟨p16, 0, none⟩ = some (.float .f64 ax) := d160
        have k_p16_1 : wf.cell? ⟨p16, 1, none⟩ = some (.float .f64 ay) := d161
        clear d160 d161
        have k_p17_0 : wf.cell? ⟨p17, 0, none⟩ = some (.float .f64 bx) := d170
        have k_p17_1 : wf.cell? ⟨p17, 1, none⟩ = some (.float .f64 b_y) := d171
        clear d170 d171
        have l16 : p16 < wf.heap.size := World.block_lt_of_cell? wf _ k_p16_0
        have l17 : p17 < wf.heap.size := World.block_lt_of_cell? wf _ k_p17_0
        have z_p16 := fun k => (BW.2 _).trans ((BW0.2 ⟨p16, k, none⟩).symm.trans (f16 k))
        have z_p17 := fun k => (BW.2 _).trans ((BW0.2 ⟨p17, k, none⟩).symm.trans (f17 k))
        have B := hide BW
        clear BW BW0 hJ h16 h17 f16 f17 e0 e1 e2 e3 e4 e5 e6 e7 e8 e9 e10 e11 e12 e13 e14 e15 e16 e17
        have BF := unhide B
        have BG := bl_trans hB BF
        have lw := BF.size
        have fR : ∀ o, wf.frozen? ⟨w.heap.size + 1, o, none⟩ = false := fun o => (BG.2 _).trans (fresh_frozen (by omega))
        have cRk := keep BF (hRs k hlt)
        rw [if_neg (Nat.lt_irrefl k)] at cRk
        have zz0 := keep BF z0
        have zz1 := keep BF z1
        go_wp2
        refine wp_region_ret 19 18 16 rfl (fun i v => match i with | 0 => v = .slice (some ⟨w.heap.size + 1, 0, none⟩) n n | 1 => v = .int .i64 (k : Int) | 2 => v = .agg #[.float .f64 ax, .float .f64 ay] | 3 => v = .agg #[.float .f64 bx, .float .f64 b_y] | 4 => ∃ c, CrossR ax ay bx b_y c ∧ v = .float .f64 c | 5 => v = .agg #[.float .f64 ax, .float .f64 ay] | 6 => v = .agg #[.float .f64 ax, .float .f64 ay] | 7 => ∃ d1, DotR ax ay ax ay d1 ∧ v = .float .f64 d1 | 8 => v = .agg #[.float .f64 ax, .float .f64 ay] | 9 => v = .agg #[.float .f64 bx, .float .f64 b_y] | 10 => ∃ d2, DotR ax ay bx b_y d2 ∧ v = .float .f64 d2 | 11 => ∃ d1 d2 g, DotR ax ay ax ay d1 ∧ DotR ax ay bx b_y d2 ∧ resK .add .f64 d1 d2 g ∧ v = .float .f64 g | 12 => v = .agg #[.float .f64 bx, .float .f64 b_y] | 13 => v = .agg #[.float .f64 bx, .float .f64 b_y] | 14 => ∃ d3, DotR bx b_y bx b_y d3 ∧ v = .float .f64 d3 | 15 => ∃ d1 d2 g d3 h, DotR ax ay ax ay d1 ∧ DotR ax ay bx b_y d2 ∧ resK .add .f64 d1 d2 g ∧ DotR bx b_y bx b_y d3 ∧ resK .add .f64 g d3 h ∧ v = .float .f64 h | 16 => ∃ t, TermR (xs k) (ys k) (xs j) (ys j) cx cy t ∧ v = .float .f64 t | 17 => v = .pointer (some ⟨w.heap.size + 1, k, none⟩) | _ => False) (put1 (w.heap.size + 1) k) ?A_wo (by kernel_rfl) (by kernel_rfl) (by kernel_rfl) (by decide) (by decide) ?hA_wo ?hst_wo ?hq_wo ?ht_wo
        case hA_wo =>
          intro s
          simp only [putL, dstO, Act.put, List.getElem?_toArray, List.getElem?_cons_zero, List.getElem?_cons_succ, Option.bind_some, List.setIfInBounds_toArray, List.set_cons_zero, List.set_cons_succ, if_true]
          all_goals exact rfl
        case hst_wo =>
          intro o ho s hs W hb K hK
          cases ho
          have u0 := keep hb cRk; have u1 := fun o => (hb.2 ⟨w.heap.size + 1, o, none⟩).trans (fR o)
          have e17 : s 17 = _ := hs 17 (by decide) (by kernel_rfl)
          obtain ⟨t, hT, e16⟩ := hs 16 (by decide) (by kernel_rfl)
          simp only [e17, e16] at hK ⊢
          clear hs
          go_simp
          exact hK.out
        case hq_wo =>
          intro i o hi hne ho s hs W hb K hK
          have q1 := run_mul Try.prog; have q2 := run_add Try.prog; have u160 := once_keep1 hb k_p16_0 (.inl (by simp only; omega)); have u161 := once_keep1 hb k_p16_1 (.inl (by simp only; omega)); have u170 := once_keep1 hb k_p17_0 (.inl (by simp only; omega)); have u171 := once_keep1 hb k_p17_1 (.inl (by simp only; omega))
          rcases (show i = 0 ∨ i = 1 ∨ i = 2 ∨ i = 3 ∨ i = 4 ∨ i = 5 ∨ i = 6 ∨ i = 7 ∨ i = 8 ∨ i = 9 ∨ i = 10 ∨ i = 11 ∨ i = 12 ∨ i = 13 ∨ i = 14 ∨ i = 15 ∨ i = 16 ∨ i = 17 ∨ i = 18 by omega) with rfl | rfl | rfl | rfl | rfl | rfl | rfl | rfl | rfl | rfl | rfl | rfl | rfl | rfl | rfl | rfl | rfl | rfl | rfl
          · cases ho
            simp only [Act.put, List.setIfInBounds_toArray, List.set_cons_zero, List.set_cons_succ] at hK
            clear hs hne
            go_simp
            all_goals (try go_wp2_with (first | (go_at_call 61; refine (vCross_any _ _ _ _ _).mono ?_; rintro e w' ⟨x, hX, rfl, hb1⟩) | (go_at_call 56; refine (vDot_any _ _ _ _ _).mono ?_; rintro e w' ⟨x, hX, rfl, hb1⟩)))
            all_goals first | exact hK.out _ _ ⟨_, hX, rfl⟩ hb1 | exact hK.out _ _ ⟨_, _, _, hD1, hD2, fv_res .add .f64 _ _ _, rfl⟩ (by first | exact bl_refl _ | exact bl_drewN (bl_refl _) _) | exact hK.out _ _ ⟨_, _, _, _, _, hD1, hD2, hG, hD3, fv_res .add .f64 _ _ _, rfl⟩ (by first | exact bl_refl _ | exact bl_drewN (bl_refl _) _) | exact hK.out _ _ ⟨_, ⟨_, _, _, _, _, _, _, _, _, _, hA1, hA2, hC, hD1, hD2, hD3, hG, hH, fv_res .mul .f64 _ _ _⟩, rfl⟩ (by first | exact bl_refl _ | exact bl_drewN (bl_refl _) _) | exact hK.out _ _ rfl (bl_refl _) | exact hK.out _ _ rfl (by assumption) | exact hK.out _ _ (by assumption) (by assumption)
          · cases ho
            simp only [Act.put, List.setIfInBounds_toArray, List.set_cons_zero, List.set_cons_succ] at hK
            clear hs hne
            go_simp
            all_goals (try go_wp2_with (first | (go_at_call 61; refine (vCross_any _ _ _ _ _).mono ?_; rintro e w' ⟨x, hX, rfl, hb1⟩) | (go_at_call 56; refine (vDot_any _ _ _ _ _).mono ?_; rintro e w' ⟨x, hX, rfl, hb1⟩)))
            all_goals first | exact hK.out _ _ ⟨_, hX, rfl⟩ hb1 | exact hK.out _ _ ⟨_, _, _, hD1, hD2, fv_res .add .f64 _ _ _, rfl⟩ (by first | exact bl_refl _ | exact bl_drewN (bl_refl _) _) | exact hK.out _ _ ⟨_, _, _, _, _, hD1, hD2, hG, hD3, fv_res .add .f64 _ _ _, rfl⟩ (by first | exact bl_refl _ | exact bl_drewN (bl_refl _) _) | exact hK.out _ _ ⟨_, ⟨_, _, _, _, _, _, _, _, _, _, hA1, hA2, hC, hD1, hD2, hD3, hG, hH, fv_res .mul .f64 _ _ _⟩, rfl⟩ (by first | exact bl_refl _ | exact bl_drewN (bl_refl _) _) | exact hK.out _ _ rfl (bl_refl _) | exact hK.out _ _ rfl (by assumption) | exact hK.out _ _ (by assumption) (by assumption)
          · cases ho
            simp only [Act.put, List.setIfInBounds_toArray, List.set_cons_zero, List.set_cons_succ] at hK
            clear hs hne
            go_simp
            all_goals (try go_wp2_with (first | (go_at_call 61; refine (vCross_any _ _ _ _ _).mono ?_; rintro e w' ⟨x, hX, rfl, hb1⟩) | (go_at_call 56; refine (vDot_any _ _ _ _ _).mono ?_; rintro e w' ⟨x, hX, rfl, hb1⟩)))
            all_goals first | exact hK.out _ _ ⟨_, hX, rfl⟩ hb1 | exact hK.out _ _ ⟨_, _, _, hD1, hD2, fv_res .add .f64 _ _ _, rfl⟩ (by first | exact bl_refl _ | exact bl_drewN (bl_refl _) _) | exact hK.out _ _ ⟨_, _, _, _, _, hD1, hD2, hG, hD3, fv_res .add .f64 _ _ _, rfl⟩ (by first | exact bl_refl _ | exact bl_drewN (bl_refl _) _) | exact hK.out _ _ ⟨_, ⟨_, _, _, _, _, _, _, _, _, _, hA1, hA2, hC, hD1, hD2, hD3, hG, hH, fv_res .mul .f64 _ _ _⟩, rfl⟩ (by first | exact bl_refl _ | exact bl_drewN (bl_refl _) _) | exact hK.out _ _ rfl (bl_refl _) | exact hK.out _ _ rfl (by assumption) | exact hK.out _ _ (by assumption) (by assumption)
          · cases ho
            simp only [Act.put, List.setIfInBounds_toArray, List.set_cons_zero, List.set_cons_succ] at hK
            clear hs hne
            go_simp
            all_goals (try go_wp2_with (first | (go_at_call 61; refine (vCross_any _ _ _ _ _).mono ?_; rintro e w' ⟨x, hX, rfl, hb1⟩) | (go_at_call 56; refine (vDot_any _ _ _ _ _).mono ?_; rintro e w' ⟨x, hX, rfl, hb1⟩)))
            all_goals first | exact hK.out _ _ ⟨_, hX, rfl⟩ hb1 | exact hK.out _ _ ⟨_, _, _, hD1, hD2, fv_res .add .f64 _ _ _, rfl⟩ (by first | exact bl_refl _ | exact bl_drewN (bl_refl _) _) | exact hK.out _ _ ⟨_, _, _, _, _, hD1, hD2, hG, hD3, fv_res .add .f64 _ _ _, rfl⟩ (by first | exact bl_refl _ | exact bl_drewN (bl_refl _) _) | exact hK.out _ _ ⟨_, ⟨_, _, _, _, _, _, _, _, _, _, hA1, hA2, hC, hD1, hD2, hD3, hG, hH, fv_res .mul .f64 _ _ _⟩, rfl⟩ (by first | exact bl_refl _ | exact bl_drewN (bl_refl _) _) | exact hK.out _ _ rfl (bl_refl _) | exact hK.out _ _ rfl (by assumption) | exact hK.out _ _ (by assumption) (by assumption)
          · cases ho
            have e2 : s 2 = _ := hs 2 (by decide) (by decide) (by kernel_rfl)
            have e3 : s 3 = _ := hs 3 (by decide) (by decide) (by kernel_rfl)
            simp only [e2, e3] at hK ⊢
            simp only [Act.put, List.setIfInBounds_toArray, List.set_cons_zero, List.set_cons_succ] at hK
            clear hs hne
            go_simp
            all_goals (try go_wp2_with (first | (go_at_call 61; refine (vCross_any _ _ _ _ _).mono ?_; rintro e w' ⟨x, hX, rfl, hb1⟩) | (go_at_call 56; refine (vDot_any _ _ _ _ _).mono ?_; rintro e w' ⟨x, hX, rfl, hb1⟩)))
            all_goals first | exact hK.out _ _ ⟨_, hX, rfl⟩ hb1 | exact hK.out _ _ ⟨_, _, _, hD1, hD2, fv_res .add .f64 _ _ _, rfl⟩ (by first | exact bl_refl _ | exact bl_drewN (bl_refl _) _) | exact hK.out _ _ ⟨_, _, _, _, _, hD1, hD2, hG, hD3, fv_res .add .f64 _ _ _, rfl⟩ (by first | exact bl_refl _ | exact bl_drewN (bl_refl _) _) | exact hK.out _ _ ⟨_, ⟨_, _, _, _, _, _, _, _, _, _, hA1, hA2, hC, hD1, hD2, hD3, hG, hH, fv_res .mul .f64 _ _ _⟩, rfl⟩ (by first | exact bl_refl _ | exact bl_drewN (bl_refl _) _) | exact hK.out _ _ rfl (bl_refl _) | exact hK.out _ _ rfl (by assumption) | exact hK.out _ _ (by assumption) (by assumption)
          · cases ho
            simp only [Act.put, List.setIfInBounds_toArray, List.set_cons_zero, List.set_cons_succ] at hK
            clear hs hne
            go_simp
            all_goals (try go_wp2_with (first | (go_at_call 61; refine (vCross_any _ _ _ _ _).mono ?_; rintro e w' ⟨x, hX, rfl, hb1⟩) | (go_at_call 56; refine (vDot_any _ _ _ _ _).mono ?_; rintro e w' ⟨x, hX, rfl, hb1⟩)))
            all_goals first | exact hK.out _ _ ⟨_, hX, rfl⟩ hb1 | exact hK.out _ _ ⟨_, _, _, hD1, hD2, fv_res .add .f64 _ _ _, rfl⟩ (by first | exact bl_refl _ | exact bl_drewN (bl_refl _) _) | exact hK.out _ _ ⟨_, _, _, _, _, hD1, hD2, hG, hD3, fv_res .add .f64 _ _ _, rfl⟩ (by first | exact bl_refl _ | exact bl_drewN (bl_refl _) _) | exact hK.out _ _ ⟨_, ⟨_, _, _, _, _, _, _, _, _, _, hA1, hA2, hC, hD1, hD2, hD3, hG, hH, fv_res .mul .f64 _ _ _⟩, rfl⟩ (by first | exact bl_refl _ | exact bl_drewN (bl_refl _) _) | exact hK.out _ _ rfl (bl_refl _) | exact hK.out _ _ rfl (by assumption) | exact hK.out _ _ (by assumption) (by assumption)
          · cases ho
            simp only [Act.put, List.setIfInBounds_toArray, List.set_cons_zero, List.set_cons_succ] at hK
            clear hs hne
            go_simp
            all_goals (try go_wp2_with (first | (go_at_call 61; refine (vCross_any _ _ _ _ _).mono ?_; rintro e w' ⟨x, hX, rfl, hb1⟩) | (go_at_call 56; refine (vDot_any _ _ _ _ _).mono ?_; rintro e w' ⟨x, hX, rfl, hb1⟩)))
            all_goals first | exact hK.out _ _ ⟨_, hX, rfl⟩ hb1 | exact hK.out _ _ ⟨_, _, _, hD1, hD2, fv_res .add .f64 _ _ _, rfl⟩ (by first | exact bl_refl _ | exact bl_drewN (bl_refl _) _) | exact hK.out _ _ ⟨_, _, _, _, _, hD1, hD2, hG, hD3, fv_res .add .f64 _ _ _, rfl⟩ (by first | exact bl_refl _ | exact bl_drewN (bl_refl _) _) | exact hK.out _ _ ⟨_, ⟨_, _, _, _, _, _, _, _, _, _, hA1, hA2, hC, hD1, hD2, hD3, hG, hH, fv_res .mul .f64 _ _ _⟩, rfl⟩ (by first | exact bl_refl _ | exact bl_drewN (bl_refl _) _) | exact hK.out _ _ rfl (bl_refl _) | exact hK.out _ _ rfl (by assumption) | exact hK.out _ _ (by assumption) (by assumption)
          · cases ho
            have e5 : s 5 = _ := hs 5 (by decide) (by decide) (by kernel_rfl)
            have e6 : s 6 = _ := hs 6 (by decide) (by decide) (by kernel_rfl)
            simp only [e5, e6] at hK ⊢
            simp only [Act.put, List.setIfInBounds_toArray, List.set_cons_zero, List.set_cons_succ] at hK
            clear hs hne
            go_simp
            all_goals (try go_wp2_with (first | (go_at_call 61; refine (vCross_any _ _ _ _ _).mono ?_; rintro e w' ⟨x, hX, rfl, hb1⟩) | (go_at_call 56; refine (vDot_any _ _ _ _ _).mono ?_; rintro e w' ⟨x, hX, rfl, hb1⟩)))
            all_goals first | exact hK.out _ _ ⟨_, hX, rfl⟩ hb1 | exact hK.out _ _ ⟨_, _, _, hD1, hD2, fv_res .add .f64 _ _ _, rfl⟩ (by first | exact bl_refl _ | exact bl_drewN (bl_refl _) _) | exact hK.out _ _ ⟨_, _, _, _, _, hD1, hD2, hG, hD3, fv_res .add .f64 _ _ _, rfl⟩ (by first | exact bl_refl _ | exact bl_drewN (bl_refl _) _) | exact hK.out _ _ ⟨_, ⟨_, _, _, _, _, _, _, _, _, _, hA1, hA2, hC, hD1, hD2, hD3, hG, hH, fv_res .mul .f64 _ _ _⟩, rfl⟩ (by first | exact bl_refl _ | exact bl_drewN (bl_refl _) _) | exact hK.out _ _ rfl (bl_refl _) | exact hK.out _ _ rfl (by assumption) | exact hK.out _ _ (by assumption) (by assumption)
          · cases ho
            simp only [Act.put, List.setIfInBounds_toArray, List.set_cons_zero, List.set_cons_succ] at hK
            clear hs hne
            go_simp
            all_goals (try go_wp2_with (first | (go_at_call 61; refine (vCross_any _ _ _ _ _).mono ?_; rintro e w' ⟨x, hX, rfl, hb1⟩) | (go_at_call 56; refine (vDot_any _ _ _ _ _).mono ?_; rintro e w' ⟨x, hX, rfl, hb1⟩)))
            all_goals first | exact hK.out _ _ ⟨_, hX, rfl⟩ hb1 | exact hK.out _ _ ⟨_, _, _, hD1, hD2, fv_res .add .f64 _ _ _, rfl⟩ (by first | exact bl_refl _ | exact bl_drewN (bl_refl _) _) | exact hK.out _ _ ⟨_, _, _, _, _, hD1, hD2, hG, hD3, fv_res .add .f64 _ _ _, rfl⟩ (by first | exact bl_refl _ | exact bl_drewN (bl_refl _) _) | exact hK.out _ _ ⟨_, ⟨_, _, _, _, _, _, _, _, _, _, hA1, hA2, hC, hD1, hD2, hD3, hG, hH, fv_res .mul .f64 _ _ _⟩, rfl⟩ (by first | exact bl_refl _ | exact bl_drewN (bl_refl _) _) | exact hK.out _ _ rfl (bl_refl _) | exact hK.out _ _ rfl (by assumption) | exact hK.out _ _ (by assumption) (by assumption)
          · cases ho
            simp only [Act.put, List.setIfInBounds_toArray, List.set_cons_zero, List.set_cons_succ] at hK
            clear hs hne
            go_simp
            all_goals (try go_wp2_with (first | (go_at_call 61; refine (vCross_any _ _ _ _ _).mono ?_; rintro e w' ⟨x, hX, rfl, hb1⟩) | (go_at_call 56; refine (vDot_any _ _ _ _ _).mono ?_; rintro e w' ⟨x, hX, rfl, hb1⟩)))
            all_goals first | exact hK.out _ _ ⟨_, hX, rfl⟩ hb1 | exact hK.out _ _ ⟨_, _, _, hD1, hD2, fv_res .add .f64 _ _ _, rfl⟩ (by first | exact bl_refl _ | exact bl_drewN (bl_refl _) _) | exact hK.out _ _ ⟨_, _, _, _, _, hD1, hD2, hG, hD3, fv_res .add .f64 _ _ _, rfl⟩ (by first | exact bl_refl _ | exact bl_drewN (bl_refl _) _) | exact hK.out _ _ ⟨_, ⟨_, _, _, _, _, _, _, _, _, _, hA1, hA2, hC, hD1, hD2, hD3, hG, hH, fv_res .mul .f64 _ _ _⟩, rfl⟩ (by first | exact bl_refl _ | exact bl_drewN (bl_refl _) _) | exact hK.out _ _ rfl (bl_refl _) | exact hK.out _ _ rfl (by assumption) | exact hK.out _ _ (by assumption) (by assumption)
          · cases ho
            have e8 : s 8 = _ := hs 8 (by decide) (by decide) (by kernel_rfl)
            have e9 : s 9 = _ := hs 9 (by decide) (by decide) (by kernel_rfl)
            simp only [e8, e9] at hK ⊢
            simp only [Act.put, List.setIfInBounds_toArray, List.set_cons_zero, List.set_cons_succ] at hK
            clear hs hne
            go_simp
            all_goals (try go_wp2_with (first | (go_at_call 61; refine (vCross_any _ _ _ _ _).mono ?_; rintro e w' ⟨x, hX, rfl, hb1⟩) | (go_at_call 56; refine (vDot_any _ _ _ _ _).mono ?_; rintro e w' ⟨x, hX, rfl, hb1⟩)))
            all_goals first | exact hK.out _ _ ⟨_, hX, rfl⟩ hb1 | exact hK.out _ _ ⟨_, _, _, hD1, hD2, fv_res .add .f64 _ _ _, rfl⟩ (by first | exact bl_refl _ | exact bl_drewN (bl_refl _) _) | exact hK.out _ _ ⟨_, _, _, _, _, hD1, hD2, hG, hD3, fv_res .add .f64 _ _ _, rfl⟩ (by first | exact bl_refl _ | exact bl_drewN (bl_refl _) _) | exact hK.out _ _ ⟨_, ⟨_, _, _, _, _, _, _, _, _, _, hA1, hA2, hC, hD1, hD2, hD3, hG, hH, fv_res .mul .f64 _ _ _⟩, rfl⟩ (by first | exact bl_refl _ | exact bl_drewN (bl_refl _) _) | exact hK.out _ _ rfl (bl_refl _) | exact hK.out _ _ rfl (by assumption) | exact hK.out _ _ (by assumption) (by assumption)
          · cases ho
            obtain ⟨d1, hD1, e7⟩ := hs 7 (by decide) (by decide) (by kernel_rfl)
            obtain ⟨d2, hD2, e10⟩ := hs 10 (by decide) (by decide) (by kernel_rfl)
            simp only [e7, e10] at hK ⊢
            simp only [Act.put, List.setIfInBounds_toArray, List.set_cons_zero, List.set_cons_succ] at hK
            clear hs hne
            go_simp
            all_goals (try go_wp2_with (first | (go_at_call 61; refine (vCross_any _ _ _ _ _).mono ?_; rintro e w' ⟨x, hX, rfl, hb1⟩) | (go_at_call 56; refine (vDot_any _ _ _ _ _).mono ?_; rintro e w' ⟨x, hX, rfl, hb1⟩)))
            all_goals first | exact hK.out _ _ ⟨_, hX, rfl⟩ hb1 | exact hK.out _ _ ⟨_, _, _, hD1, hD2, fv_res .add .f64 _ _ _, rfl⟩ (by first | exact bl_refl _ | exact bl_drewN (bl_refl _) _) | exact hK.out _ _ ⟨_, _, _, _, _, hD1, hD2, hG, hD3, fv_res .add .f64 _ _ _, rfl⟩ (by first | exact bl_refl _ | exact bl_drewN (bl_refl _) _) | exact hK.out _ _ ⟨_, ⟨_, _, _, _, _, _, _, _, _, _, hA1, hA2, hC, hD1, hD2, hD3, hG, hH, fv_res .mul .f64 _ _ _⟩, rfl⟩ (by first | exact bl_refl _ | exact bl_drewN (bl_refl _) _) | exact hK.out _ _ rfl (bl_refl _) | exact hK.out _ _ rfl (by assumption) | exact hK.out _ _ (by assumption) (by assumption)
          · cases ho
            simp only [Act.put, List.setIfInBounds_toArray, List.set_cons_zero, List.set_cons_succ] at hK
            clear hs hne
            go_simp
            all_goals (try go_wp2_with (first | (go_at_call 61; refine (vCross_any _ _ _ _ _).mono ?_; rintro e w' ⟨x, hX, rfl, hb1⟩) | (go_at_call 56; refine (vDot_any _ _ _ _ _).mono ?_; rintro e w' ⟨x, hX, rfl, hb1⟩)))
            all_goals first | exact hK.out _ _ ⟨_, hX, rfl⟩ hb1 | exact hK.out _ _ ⟨_, _, _, hD1, hD2, fv_res .add .f64 _ _ _, rfl⟩ (by first | exact bl_refl _ | exact bl_drewN (bl_refl _) _) | exact hK.out _ _ ⟨_, _, _, _, _, hD1, hD2, hG, hD3, fv_res .add .f64 _ _ _, rfl⟩ (by first | exact bl_refl _ | exact bl_drewN (bl_refl _) _) | exact hK.out _ _ ⟨_, ⟨_, _, _, _, _, _, _, _, _, _, hA1, hA2, hC, hD1, hD2, hD3, hG, hH, fv_res .mul .f64 _ _ _⟩, rfl⟩ (by first | exact bl_refl _ | exact bl_drewN (bl_refl _) _) | exact hK.out _ _ rfl (bl_refl _) | exact hK.out _ _ rfl (by assumption) | exact hK.out _ _ (by assumption) (by assumption)
          · cases ho
            simp only [Act.put, List.setIfInBounds_toArray, List.set_cons_zero, List.set_cons_succ] at hK
            clear hs hne
            go_simp
            all_goals (try go_wp2_with (first | (go_at_call 61; refine (vCross_any _ _ _ _ _).mono ?_; rintro e w' ⟨x, hX, rfl, hb1⟩) | (go_at_call 56; refine (vDot_any _ _ _ _ _).mono ?_; rintro e w' ⟨x, hX, rfl, hb1⟩)))
            all_goals first | exact hK.out _ _ ⟨_, hX, rfl⟩ hb1 | exact hK.out _ _ ⟨_, _, _, hD1, hD2, fv_res .add .f64 _ _ _, rfl⟩ (by first | exact bl_refl _ | exact bl_drewN (bl_refl _) _) | exact hK.out _ _ ⟨_, _, _, _, _, hD1, hD2, hG, hD3, fv_res .add .f64 _ _ _, rfl⟩ (by first | exact bl_refl _ | exact bl_drewN (bl_refl _) _) | exact hK.out _ _ ⟨_, ⟨_, _, _, _, _, _, _, _, _, _, hA1, hA2, hC, hD1, hD2, hD3, hG, hH, fv_res .mul .f64 _ _ _⟩, rfl⟩ (by first | exact bl_refl _ | exact bl_drewN (bl_refl _) _) | exact hK.out _ _ rfl (bl_refl _) | exact hK.out _ _ rfl (by assumption) | exact hK.out _ _ (by assumption) (by assumption)
          · cases ho
            have e12 : s 12 = _ := hs 12 (by decide) (by decide) (by kernel_rfl)
            have e13 : s 13 = _ := hs 13 (by decide) (by decide) (by kernel_rfl)
            simp only [e12, e13] at hK ⊢
            simp only [Act.put, List.setIfInBounds_toArray, List.set_cons_zero, List.set_cons_succ] at hK
            clear hs hne
            go_simp
            all_goals (try go_wp2_with (first | (go_at_call 61; refine (vCross_any _ _ _ _ _).mono ?_; rintro e w' ⟨x, hX, rfl, hb1⟩) | (go_at_call 56; refine (vDot_any _ _ _ _ _).mono ?_; rintro e w' ⟨x, hX, rfl, hb1⟩)))
            all_goals first | exact hK.out _ _ ⟨_, hX, rfl⟩ hb1 | exact hK.out _ _ ⟨_, _, _, hD1, hD2, fv_res .add .f64 _ _ _, rfl⟩ (by first | exact bl_refl _ | exact bl_drewN (bl_refl _) _) | exact hK.out _ _ ⟨_, _, _, _, _, hD1, hD2, hG, hD3, fv_res .add .f64 _ _ _, rfl⟩ (by first | exact bl_refl _ | exact bl_drewN (bl_refl _) _) | exact hK.out _ _ ⟨_, ⟨_, _, _, _, _, _, _, _, _, _, hA1, hA2, hC, hD1, hD2, hD3, hG, hH, fv_res .mul .f64 _ _ _⟩, rfl⟩ (by first | exact bl_refl _ | exact bl_drewN (bl_refl _) _) | exact hK.out _ _ rfl (bl_refl _) | exact hK.out _ _ rfl (by assumption) | exact hK.out _ _ (by assumption) (by assumption)
          · cases ho
            obtain ⟨d1, d2, g, hD1, hD2, hG, e11⟩ := hs 11 (by decide) (by decide) (by kernel_rfl)
            obtain ⟨d3, hD3, e14⟩ := hs 14 (by decide) (by decide) (by kernel_rfl)
            simp only [e11, e14] at hK ⊢
            simp only [Act.put, List.setIfInBounds_toArray, List.set_cons_zero, List.set_cons_succ] at hK
            clear hs hne
            go_simp
            all_goals (try go_wp2_with (first | (go_at_call 61; refine (vCross_any _ _ _ _ _).mono ?_; rintro e w' ⟨x, hX, rfl, hb1⟩) | (go_at_call 56; refine (vDot_any _ _ _ _ _).mono ?_; rintro e w' ⟨x, hX, rfl, hb1⟩)))
            all_goals first | exact hK.out _ _ ⟨_, hX, rfl⟩ hb1 | exact hK.out _ _ ⟨_, _, _, hD1, hD2, fv_res .add .f64 _ _ _, rfl⟩ (by first | exact bl_refl _ | exact bl_drewN (bl_refl _) _) | exact hK.out _ _ ⟨_, _, _, _, _, hD1, hD2, hG, hD3, fv_res .add .f64 _ _ _, rfl⟩ (by first | exact bl_refl _ | exact bl_drewN (bl_refl _) _) | exact hK.out _ _ ⟨_, ⟨_, _, _, _, _, _, _, _, _, _, hA1, hA2, hC, hD1, hD2, hD3, hG, hH, fv_res .mul .f64 _ _ _⟩, rfl⟩ (by first | exact bl_refl _ | exact bl_drewN (bl_refl _) _) | exact hK.out _ _ rfl (bl_refl _) | exact hK.out _ _ rfl (by assumption) | exact hK.out _ _ (by assumption) (by assumption)
          · cases ho
            obtain ⟨c, hC, e4⟩ := hs 4 (by decide) (by decide) (by kernel_rfl)
            obtain ⟨d1, d2, g, d3, h, hD1, hD2, hG, hD3, hH, e15⟩ := hs 15 (by decide) (by decide) (by kernel_rfl)
            simp only [e4, e15] at hK ⊢
            simp only [Act.put, List.setIfInBounds_toArray, List.set_cons_zero, List.set_cons_succ] at hK
            clear hs hne
            go_simp
            all_goals (try go_wp2_with (first | (go_at_call 61; refine (vCross_any _ _ _ _ _).mono ?_; rintro e w' ⟨x, hX, rfl, hb1⟩) | (go_at_call 56; refine (vDot_any _ _ _ _ _).mono ?_; rintro e w' ⟨x, hX, rfl, hb1⟩)))
            all_goals first | exact hK.out _ _ ⟨_, hX, rfl⟩ hb1 | exact hK.out _ _ ⟨_, _, _, hD1, hD2, fv_res .add .f64 _ _ _, rfl⟩ (by first | exact bl_refl _ | exact bl_drewN (bl_refl _) _) | exact hK.out _ _ ⟨_, _, _, _, _, hD1, hD2, hG, hD3, fv_res .add .f64 _ _ _, rfl⟩ (by first | exact bl_refl _ | exact bl_drewN (bl_refl _) _) | exact hK.out _ _ ⟨_, ⟨_, _, _, _, _, _, _, _, _, _, hA1, hA2, hC, hD1, hD2, hD3, hG, hH, fv_res .mul .f64 _ _ _⟩, rfl⟩ (by first | exact bl_refl _ | exact bl_drewN (bl_refl _) _) | exact hK.out _ _ rfl (bl_refl _) | exact hK.out _ _ rfl (by assumption) | exact hK.out _ _ (by assumption) (by assumption)
          · cases ho
            have e0 : s 0 = _ := hs 0 (by decide) (by decide) (by kernel_rfl)
            have e1 : s 1 = _ := hs 1 (by decide) (by decide) (by kernel_rfl)
            simp only [e0, e1] at hK ⊢
            simp only [Act.put, List.setIfInBounds_toArray, List.set_cons_zero, List.set_cons_succ] at hK
            clear hs hne
            go_simp
            all_goals (try go_wp2_with (first | (go_at_call 61; refine (vCross_any _ _ _ _ _).mono ?_; rintro e w' ⟨x, hX, rfl, hb1⟩) | (go_at_call 56; refine (vDot_any _ _ _ _ _).mono ?_; rintro e w' ⟨x, hX, rfl, hb1⟩)))
            all_goals first | exact hK.out _ _ ⟨_, hX, rfl⟩ hb1 | exact hK.out _ _ ⟨_, _, _, hD1, hD2, fv_res .add .f64 _ _ _, rfl⟩ (by first | exact bl_refl _ | exact bl_drewN (bl_refl _) _) | exact hK.out _ _ ⟨_, _, _, _, _, hD1, hD2, hG, hD3, fv_res .add .f64 _ _ _, rfl⟩ (by first | exact bl_refl _ | exact bl_drewN (bl_refl _) _) | exact hK.out _ _ ⟨_, ⟨_, _, _, _, _, _, _, _, _, _, hA1, hA2, hC, hD1, hD2, hD3, hG, hH, fv_res .mul .f64 _ _ _⟩, rfl⟩ (by first | exact bl_refl _ | exact bl_drewN (bl_refl _) _) | exact hK.out _ _ rfl (bl_refl _) | exact hK.out _ _ rfl (by assumption) | exact hK.out _ _ (by assumption) (by assumption)
          · exact absurd rfl hne
        case ht_wo =>
          intro s hs W0 W hb0 hb
          have e0 : s 0 = _ := hs 0 (by decide) (by decide)
          have e1 : s 1 = _ := hs 1 (by decide) (by decide)
          have e2 : s 2 = _ := hs 2 (by decide) (by decide)
          have e3 : s 3 = _ := hs 3 (by decide) (by decide)
          obtain ⟨_, _, e4⟩ := hs 4 (by decide) (by decide)
          have e5 : s 5 = _ := hs 5 (by decide) (by decide)
          have e6 : s 6 = _ := hs 6 (by decide) (by decide)
          obtain ⟨_, _, e7⟩ := hs 7 (by decide) (by decide)
          have e8 : s 8 = _ := hs 8 (by decide) (by decide)
          have e9 : s 9 = _ := hs 9 (by decide) (by decide)
          obtain ⟨_, _, e10⟩ := hs 10 (by decide) (by decide)
          obtain ⟨_, _, _, _, _, _, e11⟩ := hs 11 (by decide) (by decide)
          have e12 : s 12 = _ := hs 12 (by decide) (by decide)
          have e13 : s 13 = _ := hs 13 (by decide) (by decide)
          obtain ⟨_, _, e14⟩ := hs 14 (by decide) (by decide)
          obtain ⟨_, _, _, _, _, _, _, _, _, _, e15⟩ := hs 15 (by decide) (by decide)
          obtain ⟨t, hT, e16⟩ := hs 16 (by decide) (by decide)
          have e17 : s 17 = _ := hs 17 (by decide) (by decide)
          simp only [e0, e1, e2, e3, e4, e5, e6, e7, e8, e9, e10, e11, e12, e13, e14, e15, e16, e17]
          rw [e16] at hb
          clear hs e0 e1 e2 e3 e4 e5 e6 e7 e8 e9 e10 e11 e12 e13 e14 e15 e16 e17
          have hk0 : Bel w W := bl_trans (put1_bel (bl_trans BG hb0) (by omega)) hb
          go_wp2
          refine ⟨⟨k + 1, fun q => if q = k then t else ts q, by omega, by go_num, hk0, ?_, ?_, ?_, ?_⟩, by simp [intOf]; omega⟩
          · intro q hq
            by_cases e : q = k
            · subst e; simp only [if_true]; rw [← unhide ejH]; exact hT
            · simp only [if_neg e]; exact hts q (by omega)
          · intro q hq
            by_cases e : q = k
            · subst e
              simp only [if_pos (Nat.lt_succ_self q), if_true]
              exact keep hb (World.cell?_setCell_same _ _ _ (keep hb0 cRk))
            · refine keep hb ((put1_far (.inr e)).trans (keep hb0 (keep BF ((hRs q hq).trans ?_))))
              by_cases h : q < k
              · simp only [if_pos h, if_pos (show q < k + 1 by omega), if_neg e]
              · simp only [if_neg h, if_neg (show ¬ q < k + 1 by omega)]
          · exact keep hb ((put1_far (.inl (by simp only; omega))).trans (keep hb0 zz0))
          · exact keep hb ((put1_far (.inl (by simp only; omega))).trans (keep hb0 zz1))
    · have hkn : k = n := by omega
      subst hkn
      obtain ⟨p, rfl⟩ : ∃ p, k = p + 1 := ⟨k - 1, by omega⟩
      have hc : ∀ q, q < p + 1 → wr.cell? ⟨w.heap.size + 1, 0 + q, none⟩ = some (.float .f64 (ts q)) := fun q hq => by
        have h := hRs q hq
        rw [if_pos hq] at h
        rw [Nat.zero_add]
        exact h
      go_wp2_with (first | (go_at_call 42; refine (sum_some _ 0 p _ ts _ (by unfold maxLen; omega) (by omega) hc).mono ?_; rintro e w' ⟨r, m, hr, rfl, rfl⟩))
      go_ret
      exact ⟨r, ⟨ts, hts, hr⟩, rfl, bl_drewN hB _⟩

end Go.Proofs.Ytoofbfjlgablkaa
