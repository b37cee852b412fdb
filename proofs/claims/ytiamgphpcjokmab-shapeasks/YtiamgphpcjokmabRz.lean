/-
  What each function of package poly answers, and what the reference of its chapter answers: one contract a function, for every float: the answer stands in the relation of its formula to what was given; of the memory that was there nothing has turned.
-/
import Derived.Test.YtiamgphpcjokmabVec
import Derived.Test.YtiamgphpcjokmabRu
import Derived.Below
import Derived.WalkKit
import Derived.WalkLawsBesides
import Derived.WalkSpells
import Derived.ProofKit
import Derived.OpenShut
import Derived.Deep.RegionHeld3
namespace Go.Proofs.Ytiamgphpcjokmab
open Go.ChangeShapes Go.WideShapes Go.ChangeAt Go.RowKit
set_option linter.unusedVariables false
set_option linter.unusedSimpArgs false


theorem set01 {W : World} {n : Nat} {p q p0 q0 : Value} (h0 : W.cell? ⟨n, 0, none⟩ = some p0) (h1 : W.cell? ⟨n, 1, none⟩ = some q0) : ((W.setCell ⟨n, 0, none⟩ p).setCell ⟨n, 1, none⟩ q).cell? ⟨n, 0, none⟩ = some p ∧ ((W.setCell ⟨n, 0, none⟩ p).setCell ⟨n, 1, none⟩ q).cell? ⟨n, 1, none⟩ = some q := set2 h0 h1
theorem set23 {W : World} {n : Nat} {p q p0 q0 : Value} (h0 : W.cell? ⟨n, 2, none⟩ = some p0) (h1 : W.cell? ⟨n, 3, none⟩ = some q0) : ((W.setCell ⟨n, 2, none⟩ p).setCell ⟨n, 3, none⟩ q).cell? ⟨n, 2, none⟩ = some p ∧ ((W.setCell ⟨n, 2, none⟩ p).setCell ⟨n, 3, none⟩ q).cell? ⟨n, 3, none⟩ = some q := by
  constructor
  · rw [far_off (by decide)]; apply World.cell?_setCell_same; exact h0
  · apply World.cell?_setCell_same; exact (far_off (by decide)).trans h1
theorem lo_ok {f : Nat → Nat} {n : Nat} (h : ∀ i, i < n → okK .f64 (f i)) : ∀ k, k < n → okK .f64 (lowK f k) ∧ okK .f64 (highK f k)
  | 0, hk => ⟨h 0 hk, h 0 hk⟩
  | k + 1, hk => by
    obtain ⟨a, b⟩ := lo_ok h k (by omega)
    have c := h (k + 1) hk
    unfold lowK highK
    constructor
    · rcases lea_or (lowK f k) (f (k + 1)) with e | e <;> rw [e] <;> assumption
    · rcases mos_or (highK f k) (f (k + 1)) with e | e <;> rw [e] <;> assumption
set_option maxHeartbeats 8000000 in
theorem rBox7 (V : Value) (n : Nat) (xs ys : Nat → Nat) (k : Int) (r : Nat) (w : World) (h : AnyS w V n xs ys) (hr : okK .f64 r) : Calls Try.prog 9 #[.agg #[.int .u8 k, .float .f64 r, V]] w fun e w' => e = .returned (.tuple #[boxA k r xs ys n, .int .i64 (shE k r xs ys n)]) ∧ Bel w w' := by
  obtain ⟨a, c, rfl, hcc, hm, _, o, hA⟩ := id h
  by_cases hz : shE k r xs ys n = 0
  · obtain ⟨g, hn1, _, hrb⟩ := sh_gd o hr hz
    obtain ⟨hp, b, off, rfl, hsl⟩ : 0 < n ∧ ∃ b off, a = some ⟨b, off, none⟩ ∧ Sl w b off n xs ys := by
      rcases hA with e | e
      · omega
      · exact e
    have hb0 := hsl.lt hp
    have hp' : (0 : Int) < (n : Int) := by omega
    obtain ⟨l1, l3⟩ := low_bd (f := xs) (m := 40) (n - 1) (fun i hi => (g i (by omega)).1)
    obtain ⟨l2, l4⟩ := low_bd (f := ys) (m := 40) (n - 1) (fun i hi => (g i (by omega)).2)
    have q1 := fun t W => run_sub_dv Try.prog t (lowK xs (n - 1)) r W l1.2.1 hrb.2.1 hrb.1
    have q2 := fun t W => run_sub_dv Try.prog t (lowK ys (n - 1)) r W l2.2.1 hrb.2.1 hrb.1
    have q3 := fun t W => run_add_dv Try.prog t (highK xs (n - 1)) r W l3.2.1 hrb.2.1
    have q4 := fun t W => run_add_dv Try.prog t (highK ys (n - 1)) r W l4.2.1 hrb.2.1
    have z0_0 : (w.alloc (.cells #[.int .u8 k, .float .f64 r, .slice (some ⟨b, off, none⟩) n c] 25)).cell? ⟨w.heap.size, 0, none⟩ = some (.int .u8 k) := by rw [World.cell?_alloc_new]; rfl
    replace z0_0 := up_alloc (o := .cells #[.float .f64 0, .float .f64 0, .float .f64 0, .float .f64 0] 31) z0_0
    have z0_1 : (w.alloc (.cells #[.int .u8 k, .float .f64 r, .slice (some ⟨b, off, none⟩) n c] 25)).cell? ⟨w.heap.size, 1, none⟩ = some (.float .f64 r) := by rw [World.cell?_alloc_new]; rfl
    replace z0_1 := up_alloc (o := .cells #[.float .f64 0, .float .f64 0, .float .f64 0, .float .f64 0] 31) z0_1
    have z0_2 : (w.alloc (.cells #[.int .u8 k, .float .f64 r, .slice (some ⟨b, off, none⟩) n c] 25)).cell? ⟨w.heap.size, 2, none⟩ = some (.slice (some ⟨b, off, none⟩) n c) := by rw [World.cell?_alloc_new]; rfl
    replace z0_2 := up_alloc (o := .cells #[.float .f64 0, .float .f64 0, .float .f64 0, .float .f64 0] 31) z0_2
    have z1_0 : ((w.alloc (.cells #[.int .u8 k, .float .f64 r, .slice (some ⟨b, off, none⟩) n c] 25)).alloc (.cells #[.float .f64 0, .float .f64 0, .float .f64 0, .float .f64 0] 31)).cell? ⟨w.heap.size + 1, 0, none⟩ = some (.float .f64 0) := by rw [← (show (w.alloc (.cells #[.int .u8 k, .float .f64 r, .slice (some ⟨b, off, none⟩) n c] 25)).heap.size = w.heap.size + 1 by simp only [World.size_alloc]), World.cell?_alloc_new]; rfl
    have z1_1 : ((w.alloc (.cells #[.int .u8 k, .float .f64 r, .slice (some ⟨b, off, none⟩) n c] 25)).alloc (.cells #[.float .f64 0, .float .f64 0, .float .f64 0, .float .f64 0] 31)).cell? ⟨w.heap.size + 1, 1, none⟩ = some (.float .f64 0) := by rw [← (show (w.alloc (.cells #[.int .u8 k, .float .f64 r, .slice (some ⟨b, off, none⟩) n c] 25)).heap.size = w.heap.size + 1 by simp only [World.size_alloc]), World.cell?_alloc_new]; rfl
    have z1_2 : ((w.alloc (.cells #[.int .u8 k, .float .f64 r, .slice (some ⟨b, off, none⟩) n c] 25)).alloc (.cells #[.float .f64 0, .float .f64 0, .float .f64 0, .float .f64 0] 31)).cell? ⟨w.heap.size + 1, 2, none⟩ = some (.float .f64 0) := by rw [← (show (w.alloc (.cells #[.int .u8 k, .float .f64 r, .slice (some ⟨b, off, none⟩) n c] 25)).heap.size = w.heap.size + 1 by simp only [World.size_alloc]), World.cell?_alloc_new]; rfl
    have z1_3 : ((w.alloc (.cells #[.int .u8 k, .float .f64 r, .slice (some ⟨b, off, none⟩) n c] 25)).alloc (.cells #[.float .f64 0, .float .f64 0, .float .f64 0, .float .f64 0] 31)).cell? ⟨w.heap.size + 1, 3, none⟩ = some (.float .f64 0) := by rw [← (show (w.alloc (.cells #[.int .u8 k, .float .f64 r, .slice (some ⟨b, off, none⟩) n c] 25)).heap.size = w.heap.size + 1 by simp only [World.size_alloc]), World.cell?_alloc_new]; rfl
    have B0 : Bel w ((w.alloc (.cells #[.int .u8 k, .float .f64 r, .slice (some ⟨b, off, none⟩) n c] 25)).alloc (.cells #[.float .f64 0, .float .f64 0, .float .f64 0, .float .f64 0] 31)) := bl_alloc (bl_alloc (bl_refl w) _ _) _ _
    have h1 := h.bel B0
    go_enter Try.func9, Try.ntmps9
    go_wp2_with (first | (go_at_call 40; refine (rchk7 _ _ xs ys k r _ h1).mono ?_; rintro e wc ⟨rfl, hb⟩; rw [hz]; have Bc := bl_trans B0 hb; have S0 := keep hb z0_0; have S1 := keep hb z0_1; have S2 := keep hb z0_2; have R0 := keep hb z1_0; have R1 := keep hb z1_1; have R2 := keep hb z1_2; have R3 := keep hb z1_3; have hbc := hb.size; (try simp only [World.size_alloc] at hbc)))
    obtain ⟨x0, x1⟩ := (hsl.bel Bc) 0 hp
    rw [show off + 0 * 2 = off by omega] at x0 x1
    have hbb := Nat.lt_of_lt_of_le hb0 Bc.size
    refine wp_region_multiA 10 (fun i v => match i with | 0 => v = .pointer (some ⟨w.heap.size, 2, none⟩) | 1 => v = .slice (some ⟨b, off, none⟩) n c | 2 => v = .pointer (some ⟨b, off, none⟩) | 3 => v = .agg #[.float .f64 (xs 0), .float .f64 (ys 0)] | 4 => v = .pointer (some ⟨w.heap.size, 2, none⟩) | 5 => v = .slice (some ⟨b, off, none⟩) n c | 6 => v = .pointer (some ⟨b, off, none⟩) | 7 => v = .agg #[.float .f64 (xs 0), .float .f64 (ys 0)] | 8 => v = .agg #[.float .f64 (xs 0), .float .f64 (ys 0), .float .f64 (xs 0), .float .f64 (ys 0)] | 9 => ∃ b, v = .pointer (some ⟨b, 0, none⟩) | _ => False) (fun i => match i with | 9 => some (Obj.cells #[.float .f64 0, .float .f64 0, .float .f64 0, .float .f64 0] 31) | _ => none) ?A_wf (by kernel_rfl) (by kernel_rfl) ?hA_wf ?ha_wf ?hq_wf [10] rfl ?ht_wf
    case hA_wf =>
      intro s
      simp only [putL, dstO, Act.put, List.getElem?_toArray, List.getElem?_cons_zero, List.getElem?_cons_succ, Option.bind_some, List.setIfInBounds_toArray, List.set_cons_zero, List.set_cons_succ, if_true]
      all_goals exact rfl
    case ha_wf =>
      intro i o ob hi ho hal
      rcases (show i = 0 ∨ i = 1 ∨ i = 2 ∨ i = 3 ∨ i = 4 ∨ i = 5 ∨ i = 6 ∨ i = 7 ∨ i = 8 ∨ i = 9 by omega) with rfl | rfl | rfl | rfl | rfl | rfl | rfl | rfl | rfl | rfl
      · cases hal
      · cases hal
      · cases hal
      · cases hal
      · cases hal
      · cases hal
      · cases hal
      · cases hal
      · cases hal
      · cases ho; cases hal; exact ⟨fun v hv => ⟨_, hv.choose_spec.2⟩, ⟨_, _, rfl⟩, fun A W => by go_simp⟩
    case hq_wf =>
      intro i o hi ho hal s hs W hb K hK
      have y0 := keep hb S2; have y3 := keep hb x0; have y4 := keep hb x1; have hbb2 := Nat.lt_of_lt_of_le hbb hb.size
      rcases (show i = 0 ∨ i = 1 ∨ i = 2 ∨ i = 3 ∨ i = 4 ∨ i = 5 ∨ i = 6 ∨ i = 7 ∨ i = 8 ∨ i = 9 by omega) with rfl | rfl | rfl | rfl | rfl | rfl | rfl | rfl | rfl | rfl
      · cases ho
        simp only [Act.put, List.setIfInBounds_toArray, List.set_cons_zero, List.set_cons_succ] at hK
        clear hs
        go_simp
        all_goals (try go_wp2_with (first | fail))
        all_goals first | exact hK.out _ _ rfl (bl_refl _) | exact hK.out _ _ rfl (by assumption) | exact hK.out _ _ (by assumption) (by assumption)
      · cases ho
        have e0 : s 0 = _ := hs 0 (by decide) (by kernel_rfl)
        simp only [e0] at hK ⊢
        simp only [Act.put, List.setIfInBounds_toArray, List.set_cons_zero, List.set_cons_succ] at hK
        clear hs
        go_simp
        all_goals (try go_wp2_with (first | fail))
        all_goals first | exact hK.out _ _ rfl (bl_refl _) | exact hK.out _ _ rfl (by assumption) | exact hK.out _ _ (by assumption) (by assumption)
      · cases ho
        have e1 : s 1 = _ := hs 1 (by decide) (by kernel_rfl)
        simp only [e1] at hK ⊢
        simp only [Act.put, List.setIfInBounds_toArray, List.set_cons_zero, List.set_cons_succ] at hK
        clear hs
        go_simp
        all_goals (try go_wp2_with (first | fail))
        all_goals first | exact hK.out _ _ rfl (bl_refl _) | exact hK.out _ _ rfl (by assumption) | exact hK.out _ _ (by assumption) (by assumption)
      · cases ho
        have e2 : s 2 = _ := hs 2 (by decide) (by kernel_rfl)
        simp only [e2] at hK ⊢
        simp only [Act.put, List.setIfInBounds_toArray, List.set_cons_zero, List.set_cons_succ] at hK
        clear hs
        go_simp
        all_goals (try go_wp2_with (first | fail))
        all_goals first | exact hK.out _ _ rfl (bl_refl _) | exact hK.out _ _ rfl (by assumption) | exact hK.out _ _ (by assumption) (by assumption)
      · cases ho
        simp only [Act.put, List.setIfInBounds_toArray, List.set_cons_zero, List.set_cons_succ] at hK
        clear hs
        go_simp
        all_goals (try go_wp2_with (first | fail))
        all_goals first | exact hK.out _ _ rfl (bl_refl _) | exact hK.out _ _ rfl (by assumption) | exact hK.out _ _ (by assumption) (by assumption)
      · cases ho
        have e4 : s 4 = _ := hs 4 (by decide) (by kernel_rfl)
        simp only [e4] at hK ⊢
        simp only [Act.put, List.setIfInBounds_toArray, List.set_cons_zero, List.set_cons_succ] at hK
        clear hs
        go_simp
        all_goals (try go_wp2_with (first | fail))
        all_goals first | exact hK.out _ _ rfl (bl_refl _) | exact hK.out _ _ rfl (by assumption) | exact hK.out _ _ (by assumption) (by assumption)
      · cases ho
        have e5 : s 5 = _ := hs 5 (by decide) (by kernel_rfl)
        simp only [e5] at hK ⊢
        simp only [Act.put, List.setIfInBounds_toArray, List.set_cons_zero, List.set_cons_succ] at hK
        clear hs
        go_simp
        all_goals (try go_wp2_with (first | fail))
        all_goals first | exact hK.out _ _ rfl (bl_refl _) | exact hK.out _ _ rfl (by assumption) | exact hK.out _ _ (by assumption) (by assumption)
      · cases ho
        have e6 : s 6 = _ := hs 6 (by decide) (by kernel_rfl)
        simp only [e6] at hK ⊢
        simp only [Act.put, List.setIfInBounds_toArray, List.set_cons_zero, List.set_cons_succ] at hK
        clear hs
        go_simp
        all_goals (try go_wp2_with (first | fail))
        all_goals first | exact hK.out _ _ rfl (bl_refl _) | exact hK.out _ _ rfl (by assumption) | exact hK.out _ _ (by assumption) (by assumption)
      · cases ho
        have e3 : s 3 = _ := hs 3 (by decide) (by kernel_rfl)
        have e7 : s 7 = _ := hs 7 (by decide) (by kernel_rfl)
        simp only [e3, e7] at hK ⊢
        simp only [Act.put, List.setIfInBounds_toArray, List.set_cons_zero, List.set_cons_succ] at hK
        clear hs
        go_simp
        all_goals (try go_wp2_with (first | fail))
        all_goals first | exact hK.out _ _ rfl (bl_refl _) | exact hK.out _ _ rfl (by assumption) | exact hK.out _ _ (by assumption) (by assumption)
      · cases hal
    case ht_wf =>
      intro s hs W hb hJ
      have e0 : s 0 = _ := hs 0 (by decide)
      have e1 : s 1 = _ := hs 1 (by decide)
      have e2 : s 2 = _ := hs 2 (by decide)
      have e3 : s 3 = _ := hs 3 (by decide)
      have e4 : s 4 = _ := hs 4 (by decide)
      have e5 : s 5 = _ := hs 5 (by decide)
      have e6 : s 6 = _ := hs 6 (by decide)
      have e7 : s 7 = _ := hs 7 (by decide)
      have e8 : s 8 = _ := hs 8 (by decide)
      obtain ⟨p9, e9, n9, h9⟩ := laid_at hJ 9 (by decide) rfl
      have c90 : W.cell? ⟨p9, 0, none⟩ = some (.float .f64 0) := heap_cell h9 rfl
      have c91 : W.cell? ⟨p9, 1, none⟩ = some (.float .f64 0) := heap_cell h9 rfl
      have c92 : W.cell? ⟨p9, 2, none⟩ = some (.float .f64 0) := heap_cell h9 rfl
      have c93 : W.cell? ⟨p9, 3, none⟩ = some (.float .f64 0) := heap_cell h9 rfl
      have f9 := fun k => heap_frozen (i := k) h9
      simp only [e0, e1, e2, e3, e4, e5, e6, e7, e8, e9]
      clear hs
      refine tail_step rfl (fun K hK => ?_)
      go_simp
      refine hK.out _ _ ?_
      clear hK K
      refine tail_end ?_
      (try simp at n9)
      have BW : Bel w W := by refine bl_trans (b := _) ?_ hb; repeat (first | exact Bc | apply bl_alloc | apply bl_drew)
      have BW0 := BW
      have ol0 := World.block_lt_of_cell? _ _ S0
      have od0 := keep hb S0
      have ol1 := World.block_lt_of_cell? _ _ S1
      have od1 := keep hb S1
      have ol2 := World.block_lt_of_cell? _ _ S2
      have od2 := keep hb S2
      have ol3 := World.block_lt_of_cell? _ _ R0
      have od3 := keep hb R0
      have ol4 := World.block_lt_of_cell? _ _ R1
      have od4 := keep hb R1
      have ol5 := World.block_lt_of_cell? _ _ R2
      have od5 := keep hb R2
      have ol6 := World.block_lt_of_cell? _ _ R3
      have od6 := keep hb R3
      simp only at ol0 ol1 ol2 ol3 ol4 ol5 ol6
      obtain ⟨wf, hN, d90, d91, d92, d93, fr0, bN⟩ := put4_all (p := .float .f64 (xs 0)) (q := .float .f64 (ys 0)) (r := .float .f64 (xs 0)) (s := .float .f64 (ys 0)) c90 c91 c92 c93
      rw [← hN]
      replace BW := bN w BW (by omega)
      replace od0 := (fr0 (w.heap.size) 0 (.inl (by omega))).trans od0
      replace od1 := (fr0 (w.heap.size) 1 (.inl (by omega))).trans od1
      replace od2 := (fr0 (w.heap.size) 2 (.inl (by omega))).trans od2
      replace od3 := (fr0 (w.heap.size + 1) 0 (.inl (by omega))).trans od3
      replace od4 := (fr0 (w.heap.size + 1) 1 (.inl (by omega))).trans od4
      replace od5 := (fr0 (w.heap.size + 1) 2 (.inl (by omega))).trans od5
      replace od6 := (fr0 (w.heap.size + 1) 3 (.inl (by omega))).trans od6
      clear hN fr0 bN
      have k_p9_0 : wf.cell? ⟨p9, 0, none⟩ = some (.float .f64 (xs 0)) := d90
      have k_p9_1 : wf.cell? ⟨p9, 1, none⟩ = some (.float .f64 (ys 0)) := d91
      have k_p9_2 : wf.cell? ⟨p9, 2, none⟩ = some (.float .f64 (xs 0)) := d92
      have k_p9_3 : wf.cell? ⟨p9, 3, none⟩ = some (.float .f64 (ys 0)) := d93
      clear d90 d91 d92 d93
      replace S0 := od0
      replace S1 := od1
      replace S2 := od2
      replace R0 := od3
      replace R1 := od4
      replace R2 := od5
      replace R3 := od6
      clear od0
      clear od1
      clear od2
      clear od3
      clear od4
      clear od5
      clear od6
      have l9 : p9 < wf.heap.size := World.block_lt_of_cell? wf _ k_p9_0
      have z_p9 := fun k => (BW.2 _).trans ((BW0.2 ⟨p9, k, none⟩).symm.trans (f9 k))
      have B := hide BW
      clear BW BW0 hJ h9 f9 e0 e1 e2 e3 e4 e5 e6 e7 e8 e9
      replace Bc := unhide B
      clear B
      obtain ⟨bb, hbbe⟩ : ∃ bb, bb = p9 := ⟨_, rfl⟩
      rw [← hbbe] at k_p9_0 k_p9_1 k_p9_2 k_p9_3 n9 ⊢
      clear hbbe
      have lw : w.heap.size ≤ bb := by omega
      have neH : bb ≠ w.heap.size := by omega
      have neR : bb ≠ w.heap.size + 1 := by omega
      go_wp2
      go_loopw [6] (fun i' wr => ∃ j : Nat, 1 ≤ j ∧ j ≤ n ∧ i' = .int .i64 j ∧ Bel w wr ∧ wr.cell? ⟨w.heap.size, 0, none⟩ = some (.int .u8 k) ∧ wr.cell? ⟨w.heap.size, 1, none⟩ = some (.float .f64 r) ∧ wr.cell? ⟨w.heap.size, 2, none⟩ = some (.slice (some ⟨b, off, none⟩) n c) ∧ wr.cell? ⟨w.heap.size + 1, 0, none⟩ = some (.float .f64 0) ∧ wr.cell? ⟨w.heap.size + 1, 1, none⟩ = some (.float .f64 0) ∧ wr.cell? ⟨w.heap.size + 1, 2, none⟩ = some (.float .f64 0) ∧ wr.cell? ⟨w.heap.size + 1, 3, none⟩ = some (.float .f64 0) ∧ wr.cell? ⟨bb, 0, none⟩ = some (.float .f64 (lowK xs (j - 1))) ∧ wr.cell? ⟨bb, 1, none⟩ = some (.float .f64 (lowK ys (j - 1))) ∧ wr.cell? ⟨bb, 2, none⟩ = some (.float .f64 (highK xs (j - 1))) ∧ wr.cell? ⟨bb, 3, none⟩ = some (.float .f64 (highK ys (j - 1)))) (fun i' _ => n - (intOf i').toNat)
      case atStart => exact ⟨1, by omega, by omega, rfl, Bc, S0, S1, S2, R0, R1, R2, R3, k_p9_0, k_p9_1, k_p9_2, k_p9_3⟩
      case round =>
        clear S0 S1 S2 R0 R1 R2 R3 k_p9_0 k_p9_1 k_p9_2 k_p9_3 Bc hb
        obtain ⟨j, hj1, hj, rfl, Bc, S0, S1, S2, R0, R1, R2, R3, C0, C1, C2, C3⟩ := hrel
        by_cases hlt : j < n
        · have k1 : (j : Int) < (n : Int) := by omega
          obtain ⟨x0, x1⟩ := (hsl.bel Bc) j hlt
          have hbr : b < wr.heap.size := Nat.lt_of_lt_of_le hb0 Bc.size
          have neP : bb ≠ wr.heap.size := by have := World.block_lt_of_cell? _ _ C0; simp only at this; omega
          obtain ⟨o1, o2⟩ := o j hlt
          have lo1 := (lo_ok (f := xs) (n := n) (fun i hi => (o i hi).1) (j - 1) (by omega))
          have lo2 := (lo_ok (f := ys) (n := n) (fun i hi => (o i hi).2) (j - 1) (by omega))
          obtain ⟨lo3, lo5⟩ := lo1
          obtain ⟨lo4, lo6⟩ := lo2
          have est : ∀ (z : Nat) (f : Nat → Nat), lowK f j = leastK .f64 (lowK f (j - 1)) (f j) := fun _ f => by obtain ⟨i, rfl⟩ : ∃ i, j = i + 1 := ⟨j - 1, by omega⟩; rfl
          have esm : ∀ (z : Nat) (f : Nat → Nat), highK f j = mostK .f64 (highK f (j - 1)) (f j) := fun _ f => by obtain ⟨i, rfl⟩ : ∃ i, j = i + 1 := ⟨j - 1, by omega⟩; rfl
          have zn := True.intro
          have C0' := up_alloc (o := .cells #[.float .f64 (xs j), .float .f64 (ys j)] 27) C0
          have C1' := up_alloc (o := .cells #[.float .f64 (xs j), .float .f64 (ys j)] 27) C1
          have C2' := up_alloc (o := .cells #[.float .f64 (xs j), .float .f64 (ys j)] 27) C2
          have C3' := up_alloc (o := .cells #[.float .f64 (xs j), .float .f64 (ys j)] 27) C3
          have S0' := up_alloc (o := .cells #[.float .f64 (xs j), .float .f64 (ys j)] 27) S0
          have S1' := up_alloc (o := .cells #[.float .f64 (xs j), .float .f64 (ys j)] 27) S1
          have S2' := up_alloc (o := .cells #[.float .f64 (xs j), .float .f64 (ys j)] 27) S2
          have R0' := up_alloc (o := .cells #[.float .f64 (xs j), .float .f64 (ys j)] 27) R0
          have R1' := up_alloc (o := .cells #[.float .f64 (xs j), .float .f64 (ys j)] 27) R1
          have R2' := up_alloc (o := .cells #[.float .f64 (xs j), .float .f64 (ys j)] 27) R2
          have R3' := up_alloc (o := .cells #[.float .f64 (xs j), .float .f64 (ys j)] 27) R3
          obtain ⟨P0, P1, _⟩ := new2 wr 27 (.float .f64 (xs j)) (.float .f64 (ys j))
          have BcA := bl_alloc Bc #[.float .f64 (xs j), .float .f64 (ys j)] 27
          go_wp2_with fail
          clear C0; have C0 := C0'; clear C0'
          clear C1; have C1 := C1'; clear C1'
          clear C2; have C2 := C2'; clear C2'
          clear C3; have C3 := C3'; clear C3'
          clear S0; have S0 := S0'; clear S0'
          clear S1; have S1 := S1'; clear S1'
          clear S2; have S2 := S2'; clear S2'
          clear R0; have R0 := R0'; clear R0'
          clear R1; have R1 := R1'; clear R1'
          clear R2; have R2 := R2'; clear R2'
          clear R3; have R3 := R3'; clear R3'
          clear Bc; have Bc := BcA; clear BcA
          refine wp_region_multiA 14 (fun i v => match i with | 0 => v = .pointer (some ⟨bb, 0, none⟩) | 1 => v = .pointer (some ⟨bb, 0, none⟩) | 2 => v = .float .f64 (lowK xs (j - 1)) | 3 => v = .pointer (some ⟨wr.heap.size, 0, none⟩) | 4 => v = .float .f64 (xs j) | 5 => v = .float .f64 (leastK .f64 (lowK xs (j - 1)) (xs j)) | 6 => v = .pointer (some ⟨bb, 0, none⟩) | 7 => v = .pointer (some ⟨bb, 1, none⟩) | 8 => v = .float .f64 (lowK ys (j - 1)) | 9 => v = .pointer (some ⟨wr.heap.size, 1, none⟩) | 10 => v = .float .f64 (ys j) | 11 => v = .float .f64 (leastK .f64 (lowK ys (j - 1)) (ys j)) | 12 => v = .agg #[.float .f64 (leastK .f64 (lowK xs (j - 1)) (xs j)), .float .f64 (leastK .f64 (lowK ys (j - 1)) (ys j))] | 13 => v = .pointer (some ⟨bb, 0, none⟩) | _ => False) (fun i => match i with  | _ => none) ?A_wy (by kernel_rfl) (by kernel_rfl) ?hA_wy ?ha_wy ?hq_wy [14] rfl ?ht_wy
          case hA_wy =>
            intro s
            simp only [putL, dstO, Act.put, List.getElem?_toArray, List.getElem?_cons_zero, List.getElem?_cons_succ, Option.bind_some, List.setIfInBounds_toArray, List.set_cons_zero, List.set_cons_succ, if_true]
            all_goals exact rfl
          case ha_wy =>
            intro i o ob hi ho hal
            rcases (show i = 0 ∨ i = 1 ∨ i = 2 ∨ i = 3 ∨ i = 4 ∨ i = 5 ∨ i = 6 ∨ i = 7 ∨ i = 8 ∨ i = 9 ∨ i = 10 ∨ i = 11 ∨ i = 12 ∨ i = 13 by omega) with rfl | rfl | rfl | rfl | rfl | rfl | rfl | rfl | rfl | rfl | rfl | rfl | rfl | rfl
            · cases hal
            · cases hal
            · cases hal
            · cases hal
            · cases hal
            · cases hal
            · cases hal
            · cases hal
            · cases hal
            · cases hal
            · cases hal
            · cases hal
            · cases hal
            · cases hal
          case hq_wy =>
            intro i o hi ho hal s hs W hb K hK
            have y0 := keep hb C0; have y1 := keep hb C1; have y2 := keep hb P0; have y3 := keep hb P1
            rcases (show i = 0 ∨ i = 1 ∨ i = 2 ∨ i = 3 ∨ i = 4 ∨ i = 5 ∨ i = 6 ∨ i = 7 ∨ i = 8 ∨ i = 9 ∨ i = 10 ∨ i = 11 ∨ i = 12 ∨ i = 13 by omega) with rfl | rfl | rfl | rfl | rfl | rfl | rfl | rfl | rfl | rfl | rfl | rfl | rfl | rfl
            · cases ho
              simp only [Act.put, List.setIfInBounds_toArray, List.set_cons_zero, List.set_cons_succ] at hK
              clear hs
              go_simp
              all_goals (try go_wp2_with (first | (go_at_call 41; refine (rLeast_any _ _ _ (by with_reducible assumption) (by with_reducible assumption)).mono ?_; rintro e w1 ⟨rfl, hw⟩; rw [hw]; have hb1 := bl_refl W)))
              all_goals first | exact hK.out _ _ rfl (bl_refl _) | exact hK.out _ _ rfl (by assumption) | exact hK.out _ _ (by assumption) (by assumption)
            · cases ho
              have e0 : s 0 = _ := hs 0 (by decide) (by kernel_rfl)
              simp only [e0] at hK ⊢
              simp only [Act.put, List.setIfInBounds_toArray, List.set_cons_zero, List.set_cons_succ] at hK
              clear hs
              go_simp
              all_goals (try go_wp2_with (first | (go_at_call 41; refine (rLeast_any _ _ _ (by with_reducible assumption) (by with_reducible assumption)).mono ?_; rintro e w1 ⟨rfl, hw⟩; rw [hw]; have hb1 := bl_refl W)))
              all_goals first | exact hK.out _ _ rfl (bl_refl _) | exact hK.out _ _ rfl (by assumption) | exact hK.out _ _ (by assumption) (by assumption)
            · cases ho
              have e1 : s 1 = _ := hs 1 (by decide) (by kernel_rfl)
              simp only [e1] at hK ⊢
              simp only [Act.put, List.setIfInBounds_toArray, List.set_cons_zero, List.set_cons_succ] at hK
              clear hs
              go_simp
              all_goals (try go_wp2_with (first | (go_at_call 41; refine (rLeast_any _ _ _ (by with_reducible assumption) (by with_reducible assumption)).mono ?_; rintro e w1 ⟨rfl, hw⟩; rw [hw]; have hb1 := bl_refl W)))
              all_goals first | exact hK.out _ _ rfl (bl_refl _) | exact hK.out _ _ rfl (by assumption) | exact hK.out _ _ (by assumption) (by assumption)
            · cases ho
              simp only [Act.put, List.setIfInBounds_toArray, List.set_cons_zero, List.set_cons_succ] at hK
              clear hs
              go_simp
              all_goals (try go_wp2_with (first | (go_at_call 41; refine (rLeast_any _ _ _ (by with_reducible assumption) (by with_reducible assumption)).mono ?_; rintro e w1 ⟨rfl, hw⟩; rw [hw]; have hb1 := bl_refl W)))
              all_goals first | exact hK.out _ _ rfl (bl_refl _) | exact hK.out _ _ rfl (by assumption) | exact hK.out _ _ (by assumption) (by assumption)
            · cases ho
              have e3 : s 3 = _ := hs 3 (by decide) (by kernel_rfl)
              simp only [e3] at hK ⊢
              simp only [Act.put, List.setIfInBounds_toArray, List.set_cons_zero, List.set_cons_succ] at hK
              clear hs
              go_simp
              all_goals (try go_wp2_with (first | (go_at_call 41; refine (rLeast_any _ _ _ (by with_reducible assumption) (by with_reducible assumption)).mono ?_; rintro e w1 ⟨rfl, hw⟩; rw [hw]; have hb1 := bl_refl W)))
              all_goals first | exact hK.out _ _ rfl (bl_refl _) | exact hK.out _ _ rfl (by assumption) | exact hK.out _ _ (by assumption) (by assumption)
            · cases ho
              have e2 : s 2 = _ := hs 2 (by decide) (by kernel_rfl)
              have e4 : s 4 = _ := hs 4 (by decide) (by kernel_rfl)
              simp only [e2, e4] at hK ⊢
              simp only [Act.put, List.setIfInBounds_toArray, List.set_cons_zero, List.set_cons_succ] at hK
              clear hs
              go_simp
              all_goals (try go_wp2_with (first | (go_at_call 41; refine (rLeast_any _ _ _ (by with_reducible assumption) (by with_reducible assumption)).mono ?_; rintro e w1 ⟨rfl, hw⟩; rw [hw]; have hb1 := bl_refl W)))
              all_goals first | exact hK.out _ _ rfl (bl_refl _) | exact hK.out _ _ rfl (by assumption) | exact hK.out _ _ (by assumption) (by assumption)
            · cases ho
              simp only [Act.put, List.setIfInBounds_toArray, List.set_cons_zero, List.set_cons_succ] at hK
              clear hs
              go_simp
              all_goals (try go_wp2_with (first | (go_at_call 41; refine (rLeast_any _ _ _ (by with_reducible assumption) (by with_reducible assumption)).mono ?_; rintro e w1 ⟨rfl, hw⟩; rw [hw]; have hb1 := bl_refl W)))
              all_goals first | exact hK.out _ _ rfl (bl_refl _) | exact hK.out _ _ rfl (by assumption) | exact hK.out _ _ (by assumption) (by assumption)
            · cases ho
              have e6 : s 6 = _ := hs 6 (by decide) (by kernel_rfl)
              simp only [e6] at hK ⊢
              simp only [Act.put, List.setIfInBounds_toArray, List.set_cons_zero, List.set_cons_succ] at hK
              clear hs
              go_simp
              all_goals (try go_wp2_with (first | (go_at_call 41; refine (rLeast_any _ _ _ (by with_reducible assumption) (by with_reducible assumption)).mono ?_; rintro e w1 ⟨rfl, hw⟩; rw [hw]; have hb1 := bl_refl W)))
              all_goals first | exact hK.out _ _ rfl (bl_refl _) | exact hK.out _ _ rfl (by assumption) | exact hK.out _ _ (by assumption) (by assumption)
            · cases ho
              have e7 : s 7 = _ := hs 7 (by decide) (by kernel_rfl)
              simp only [e7] at hK ⊢
              simp only [Act.put, List.setIfInBounds_toArray, List.set_cons_zero, List.set_cons_succ] at hK
              clear hs
              go_simp
              all_goals (try go_wp2_with (first | (go_at_call 41; refine (rLeast_any _ _ _ (by with_reducible assumption) (by with_reducible assumption)).mono ?_; rintro e w1 ⟨rfl, hw⟩; rw [hw]; have hb1 := bl_refl W)))
              all_goals first | exact hK.out _ _ rfl (bl_refl _) | exact hK.out _ _ rfl (by assumption) | exact hK.out _ _ (by assumption) (by assumption)
            · cases ho
              simp only [Act.put, List.setIfInBounds_toArray, List.set_cons_zero, List.set_cons_succ] at hK
              clear hs
              go_simp
              all_goals (try go_wp2_with (first | (go_at_call 41; refine (rLeast_any _ _ _ (by with_reducible assumption) (by with_reducible assumption)).mono ?_; rintro e w1 ⟨rfl, hw⟩; rw [hw]; have hb1 := bl_refl W)))
              all_goals first | exact hK.out _ _ rfl (bl_refl _) | exact hK.out _ _ rfl (by assumption) | exact hK.out _ _ (by assumption) (by assumption)
            · cases ho
              have e9 : s 9 = _ := hs 9 (by decide) (by kernel_rfl)
              simp only [e9] at hK ⊢
              simp only [Act.put, List.setIfInBounds_toArray, List.set_cons_zero, List.set_cons_succ] at hK
              clear hs
              go_simp
              all_goals (try go_wp2_with (first | (go_at_call 41; refine (rLeast_any _ _ _ (by with_reducible assumption) (by with_reducible assumption)).mono ?_; rintro e w1 ⟨rfl, hw⟩; rw [hw]; have hb1 := bl_refl W)))
              all_goals first | exact hK.out _ _ rfl (bl_refl _) | exact hK.out _ _ rfl (by assumption) | exact hK.out _ _ (by assumption) (by assumption)
            · cases ho
              have e8 : s 8 = _ := hs 8 (by decide) (by kernel_rfl)
              have e10 : s 10 = _ := hs 10 (by decide) (by kernel_rfl)
              simp only [e8, e10] at hK ⊢
              simp only [Act.put, List.setIfInBounds_toArray, List.set_cons_zero, List.set_cons_succ] at hK
              clear hs
              go_simp
              all_goals (try go_wp2_with (first | (go_at_call 41; refine (rLeast_any _ _ _ (by with_reducible assumption) (by with_reducible assumption)).mono ?_; rintro e w1 ⟨rfl, hw⟩; rw [hw]; have hb1 := bl_refl W)))
              all_goals first | exact hK.out _ _ rfl (bl_refl _) | exact hK.out _ _ rfl (by assumption) | exact hK.out _ _ (by assumption) (by assumption)
            · cases ho
              have e5 : s 5 = _ := hs 5 (by decide) (by kernel_rfl)
              have e11 : s 11 = _ := hs 11 (by decide) (by kernel_rfl)
              simp only [e5, e11] at hK ⊢
              simp only [Act.put, List.setIfInBounds_toArray, List.set_cons_zero, List.set_cons_succ] at hK
              clear hs
              go_simp
              all_goals (try go_wp2_with (first | (go_at_call 41; refine (rLeast_any _ _ _ (by with_reducible assumption) (by with_reducible assumption)).mono ?_; rintro e w1 ⟨rfl, hw⟩; rw [hw]; have hb1 := bl_refl W)))
              all_goals first | exact hK.out _ _ rfl (bl_refl _) | exact hK.out _ _ rfl (by assumption) | exact hK.out _ _ (by assumption) (by assumption)
            · cases ho
              simp only [Act.put, List.setIfInBounds_toArray, List.set_cons_zero, List.set_cons_succ] at hK
              clear hs
              go_simp
              all_goals (try go_wp2_with (first | (go_at_call 41; refine (rLeast_any _ _ _ (by with_reducible assumption) (by with_reducible assumption)).mono ?_; rintro e w1 ⟨rfl, hw⟩; rw [hw]; have hb1 := bl_refl W)))
              all_goals first | exact hK.out _ _ rfl (bl_refl _) | exact hK.out _ _ rfl (by assumption) | exact hK.out _ _ (by assumption) (by assumption)
          case ht_wy =>
            intro s hs W hb hJ
            have e0 : s 0 = _ := hs 0 (by decide)
            have e1 : s 1 = _ := hs 1 (by decide)
            have e2 : s 2 = _ := hs 2 (by decide)
            have e3 : s 3 = _ := hs 3 (by decide)
            have e4 : s 4 = _ := hs 4 (by decide)
            have e5 : s 5 = _ := hs 5 (by decide)
            have e6 : s 6 = _ := hs 6 (by decide)
            have e7 : s 7 = _ := hs 7 (by decide)
            have e8 : s 8 = _ := hs 8 (by decide)
            have e9 : s 9 = _ := hs 9 (by decide)
            have e10 : s 10 = _ := hs 10 (by decide)
            have e11 : s 11 = _ := hs 11 (by decide)
            have e12 : s 12 = _ := hs 12 (by decide)
            have e13 : s 13 = _ := hs 13 (by decide)
            simp only [e0, e1, e2, e3, e4, e5, e6, e7, e8, e9, e10, e11, e12, e13]
            clear hs
            replace C0 := keep hb C0; replace C1 := keep hb C1; replace C2 := keep hb C2; replace C3 := keep hb C3; replace P0 := keep hb P0; replace P1 := keep hb P1; replace S0 := keep hb S0; replace S1 := keep hb S1; replace S2 := keep hb S2; replace R0 := keep hb R0; replace R1 := keep hb R1; replace R2 := keep hb R2; replace R3 := keep hb R3; replace Bc := bl_trans Bc hb; have ZB := fun o => (Bc.2 ⟨bb, o, none⟩).trans (fresh_frozen (by show _ ≤ _; omega))
            refine tail_step rfl (fun K hK => ?_)
            go_simp
            refine hK.out _ _ ?_
            clear hK K
            refine tail_end ?_
            obtain ⟨D0, D1⟩ := set01 (p := (.float .f64 (leastK .f64 (lowK xs (j - 1)) (xs j)))) (q := (.float .f64 (leastK .f64 (lowK ys (j - 1)) (ys j)))) C0 C1
            replace C2 := (far_off (n := bb) (o := 1) (v := (.float .f64 (leastK .f64 (lowK ys (j - 1)) (ys j)))) (by decide)).trans ((far_off (n := bb) (o := 0) (v := (.float .f64 (leastK .f64 (lowK xs (j - 1)) (xs j)))) (by decide)).trans C2)
            replace C3 := (far_off (n := bb) (o := 1) (v := (.float .f64 (leastK .f64 (lowK ys (j - 1)) (ys j)))) (by decide)).trans ((far_off (n := bb) (o := 0) (v := (.float .f64 (leastK .f64 (lowK xs (j - 1)) (xs j)))) (by decide)).trans C3)
            replace P0 := up_set2 (o := 1) (x := (.float .f64 (leastK .f64 (lowK ys (j - 1)) (ys j)))) neP (up_set2 (o := 0) (x := (.float .f64 (leastK .f64 (lowK xs (j - 1)) (xs j)))) neP P0)
            replace P1 := up_set2 (o := 1) (x := (.float .f64 (leastK .f64 (lowK ys (j - 1)) (ys j)))) neP (up_set2 (o := 0) (x := (.float .f64 (leastK .f64 (lowK xs (j - 1)) (xs j)))) neP P1)
            replace S0 := up_set2 (o := 1) (x := (.float .f64 (leastK .f64 (lowK ys (j - 1)) (ys j)))) neH (up_set2 (o := 0) (x := (.float .f64 (leastK .f64 (lowK xs (j - 1)) (xs j)))) neH S0)
            replace S1 := up_set2 (o := 1) (x := (.float .f64 (leastK .f64 (lowK ys (j - 1)) (ys j)))) neH (up_set2 (o := 0) (x := (.float .f64 (leastK .f64 (lowK xs (j - 1)) (xs j)))) neH S1)
            replace S2 := up_set2 (o := 1) (x := (.float .f64 (leastK .f64 (lowK ys (j - 1)) (ys j)))) neH (up_set2 (o := 0) (x := (.float .f64 (leastK .f64 (lowK xs (j - 1)) (xs j)))) neH S2)
            replace R0 := up_set2 (o := 1) (x := (.float .f64 (leastK .f64 (lowK ys (j - 1)) (ys j)))) neR (up_set2 (o := 0) (x := (.float .f64 (leastK .f64 (lowK xs (j - 1)) (xs j)))) neR R0)
            replace R1 := up_set2 (o := 1) (x := (.float .f64 (leastK .f64 (lowK ys (j - 1)) (ys j)))) neR (up_set2 (o := 0) (x := (.float .f64 (leastK .f64 (lowK xs (j - 1)) (xs j)))) neR R1)
            replace R2 := up_set2 (o := 1) (x := (.float .f64 (leastK .f64 (lowK ys (j - 1)) (ys j)))) neR (up_set2 (o := 0) (x := (.float .f64 (leastK .f64 (lowK xs (j - 1)) (xs j)))) neR R2)
            replace R3 := up_set2 (o := 1) (x := (.float .f64 (leastK .f64 (lowK ys (j - 1)) (ys j)))) neR (up_set2 (o := 0) (x := (.float .f64 (leastK .f64 (lowK xs (j - 1)) (xs j)))) neR R3)
            replace Bc := bl_set (p := ⟨bb, 1, none⟩) (v := (.float .f64 (leastK .f64 (lowK ys (j - 1)) (ys j)))) (bl_set (p := ⟨bb, 0, none⟩) (v := (.float .f64 (leastK .f64 (lowK xs (j - 1)) (xs j)))) Bc lw) lw
            clear C0 C1
            have C0 := D0
            have C1 := D1
            clear D0 D1 ZB hb
            go_wp2
            refine wp_region_multiA 14 (fun i v => match i with | 0 => v = .pointer (some ⟨bb, 2, none⟩) | 1 => v = .pointer (some ⟨bb, 2, none⟩) | 2 => v = .float .f64 (highK xs (j - 1)) | 3 => v = .pointer (some ⟨wr.heap.size, 0, none⟩) | 4 => v = .float .f64 (xs j) | 5 => v = .float .f64 (mostK .f64 (highK xs (j - 1)) (xs j)) | 6 => v = .pointer (some ⟨bb, 2, none⟩) | 7 => v = .pointer (some ⟨bb, 3, none⟩) | 8 => v = .float .f64 (highK ys (j - 1)) | 9 => v = .pointer (some ⟨wr.heap.size, 1, none⟩) | 10 => v = .float .f64 (ys j) | 11 => v = .float .f64 (mostK .f64 (highK ys (j - 1)) (ys j)) | 12 => v = .agg #[.float .f64 (mostK .f64 (highK xs (j - 1)) (xs j)), .float .f64 (mostK .f64 (highK ys (j - 1)) (ys j))] | 13 => v = .pointer (some ⟨bb, 2, none⟩) | _ => False) (fun i => match i with  | _ => none) ?A_wz (by kernel_rfl) (by kernel_rfl) ?hA_wz ?ha_wz ?hq_wz [14] rfl ?ht_wz
            case hA_wz =>
              intro s
              simp only [putL, dstO, Act.put, List.getElem?_toArray, List.getElem?_cons_zero, List.getElem?_cons_succ, Option.bind_some, List.setIfInBounds_toArray, List.set_cons_zero, List.set_cons_succ, if_true]
              all_goals exact rfl
            case ha_wz =>
              intro i o ob hi ho hal
              rcases (show i = 0 ∨ i = 1 ∨ i = 2 ∨ i = 3 ∨ i = 4 ∨ i = 5 ∨ i = 6 ∨ i = 7 ∨ i = 8 ∨ i = 9 ∨ i = 10 ∨ i = 11 ∨ i = 12 ∨ i = 13 by omega) with rfl | rfl | rfl | rfl | rfl | rfl | rfl | rfl | rfl | rfl | rfl | rfl | rfl | rfl
              · cases hal
              · cases hal
              · cases hal
              · cases hal
              · cases hal
              · cases hal
              · cases hal
              · cases hal
              · cases hal
              · cases hal
              · cases hal
              · cases hal
              · cases hal
              · cases hal
            case hq_wz =>
              intro i o hi ho hal s hs W hb K hK
              have y0 := keep hb C2; have y1 := keep hb C3; have y2 := keep hb P0; have y3 := keep hb P1
              rcases (show i = 0 ∨ i = 1 ∨ i = 2 ∨ i = 3 ∨ i = 4 ∨ i = 5 ∨ i = 6 ∨ i = 7 ∨ i = 8 ∨ i = 9 ∨ i = 10 ∨ i = 11 ∨ i = 12 ∨ i = 13 by omega) with rfl | rfl | rfl | rfl | rfl | rfl | rfl | rfl | rfl | rfl | rfl | rfl | rfl | rfl
              · cases ho
                simp only [Act.put, List.setIfInBounds_toArray, List.set_cons_zero, List.set_cons_succ] at hK
                clear hs
                go_simp
                all_goals (try go_wp2_with (first | (go_at_call 42; refine (rMost_any _ _ _ (by with_reducible assumption) (by with_reducible assumption)).mono ?_; rintro e w1 ⟨rfl, hw⟩; rw [hw]; have hb1 := bl_refl W)))
                all_goals first | exact hK.out _ _ rfl (bl_refl _) | exact hK.out _ _ rfl (by assumption) | exact hK.out _ _ (by assumption) (by assumption)
              · cases ho
                have e0 : s 0 = _ := hs 0 (by decide) (by kernel_rfl)
                simp only [e0] at hK ⊢
                simp only [Act.put, List.setIfInBounds_toArray, List.set_cons_zero, List.set_cons_succ] at hK
                clear hs
                go_simp
                all_goals (try go_wp2_with (first | (go_at_call 42; refine (rMost_any _ _ _ (by with_reducible assumption) (by with_reducible assumption)).mono ?_; rintro e w1 ⟨rfl, hw⟩; rw [hw]; have hb1 := bl_refl W)))
                all_goals first | exact hK.out _ _ rfl (bl_refl _) | exact hK.out _ _ rfl (by assumption) | exact hK.out _ _ (by assumption) (by assumption)
              · cases ho
                have e1 : s 1 = _ := hs 1 (by decide) (by kernel_rfl)
                simp only [e1] at hK ⊢
                simp only [Act.put, List.setIfInBounds_toArray, List.set_cons_zero, List.set_cons_succ] at hK
                clear hs
                go_simp
                all_goals (try go_wp2_with (first | (go_at_call 42; refine (rMost_any _ _ _ (by with_reducible assumption) (by with_reducible assumption)).mono ?_; rintro e w1 ⟨rfl, hw⟩; rw [hw]; have hb1 := bl_refl W)))
                all_goals first | exact hK.out _ _ rfl (bl_refl _) | exact hK.out _ _ rfl (by assumption) | exact hK.out _ _ (by assumption) (by assumption)
              · cases ho
                simp only [Act.put, List.setIfInBounds_toArray, List.set_cons_zero, List.set_cons_succ] at hK
                clear hs
                go_simp
                all_goals (try go_wp2_with (first | (go_at_call 42; refine (rMost_any _ _ _ (by with_reducible assumption) (by with_reducible assumption)).mono ?_; rintro e w1 ⟨rfl, hw⟩; rw [hw]; have hb1 := bl_refl W)))
                all_goals first | exact hK.out _ _ rfl (bl_refl _) | exact hK.out _ _ rfl (by assumption) | exact hK.out _ _ (by assumption) (by assumption)
              · cases ho
                have e3 : s 3 = _ := hs 3 (by decide) (by kernel_rfl)
                simp only [e3] at hK ⊢
                simp only [Act.put, List.setIfInBounds_toArray, List.set_cons_zero, List.set_cons_succ] at hK
                clear hs
                go_simp
                all_goals (try go_wp2_with (first | (go_at_call 42; refine (rMost_any _ _ _ (by with_reducible assumption) (by with_reducible assumption)).mono ?_; rintro e w1 ⟨rfl, hw⟩; rw [hw]; have hb1 := bl_refl W)))
                all_goals first | exact hK.out _ _ rfl (bl_refl _) | exact hK.out _ _ rfl (by assumption) | exact hK.out _ _ (by assumption) (by assumption)
              · cases ho
                have e2 : s 2 = _ := hs 2 (by decide) (by kernel_rfl)
                have e4 : s 4 = _ := hs 4 (by decide) (by kernel_rfl)
                simp only [e2, e4] at hK ⊢
                simp only [Act.put, List.setIfInBounds_toArray, List.set_cons_zero, List.set_cons_succ] at hK
                clear hs
                go_simp
                all_goals (try go_wp2_with (first | (go_at_call 42; refine (rMost_any _ _ _ (by with_reducible assumption) (by with_reducible assumption)).mono ?_; rintro e w1 ⟨rfl, hw⟩; rw [hw]; have hb1 := bl_refl W)))
                all_goals first | exact hK.out _ _ rfl (bl_refl _) | exact hK.out _ _ rfl (by assumption) | exact hK.out _ _ (by assumption) (by assumption)
              · cases ho
                simp only [Act.put, List.setIfInBounds_toArray, List.set_cons_zero, List.set_cons_succ] at hK
                clear hs
                go_simp
                all_goals (try go_wp2_with (first | (go_at_call 42; refine (rMost_any _ _ _ (by with_reducible assumption) (by with_reducible assumption)).mono ?_; rintro e w1 ⟨rfl, hw⟩; rw [hw]; have hb1 := bl_refl W)))
                all_goals first | exact hK.out _ _ rfl (bl_refl _) | exact hK.out _ _ rfl (by assumption) | exact hK.out _ _ (by assumption) (by assumption)
              · cases ho
                have e6 : s 6 = _ := hs 6 (by decide) (by kernel_rfl)
                simp only [e6] at hK ⊢
                simp only [Act.put, List.setIfInBounds_toArray, List.set_cons_zero, List.set_cons_succ] at hK
                clear hs
                go_simp
                all_goals (try go_wp2_with (first | (go_at_call 42; refine (rMost_any _ _ _ (by with_reducible assumption) (by with_reducible assumption)).mono ?_; rintro e w1 ⟨rfl, hw⟩; rw [hw]; have hb1 := bl_refl W)))
                all_goals first | exact hK.out _ _ rfl (bl_refl _) | exact hK.out _ _ rfl (by assumption) | exact hK.out _ _ (by assumption) (by assumption)
              · cases ho
                have e7 : s 7 = _ := hs 7 (by decide) (by kernel_rfl)
                simp only [e7] at hK ⊢
                simp only [Act.put, List.setIfInBounds_toArray, List.set_cons_zero, List.set_cons_succ] at hK
                clear hs
                go_simp
                all_goals (try go_wp2_with (first | (go_at_call 42; refine (rMost_any _ _ _ (by with_reducible assumption) (by with_reducible assumption)).mono ?_; rintro e w1 ⟨rfl, hw⟩; rw [hw]; have hb1 := bl_refl W)))
                all_goals first | exact hK.out _ _ rfl (bl_refl _) | exact hK.out _ _ rfl (by assumption) | exact hK.out _ _ (by assumption) (by assumption)
              · cases ho
                simp only [Act.put, List.setIfInBounds_toArray, List.set_cons_zero, List.set_cons_succ] at hK
                clear hs
                go_simp
                all_goals (try go_wp2_with (first | (go_at_call 42; refine (rMost_any _ _ _ (by with_reducible assumption) (by with_reducible assumption)).mono ?_; rintro e w1 ⟨rfl, hw⟩; rw [hw]; have hb1 := bl_refl W)))
                all_goals first | exact hK.out _ _ rfl (bl_refl _) | exact hK.out _ _ rfl (by assumption) | exact hK.out _ _ (by assumption) (by assumption)
              · cases ho
                have e9 : s 9 = _ := hs 9 (by decide) (by kernel_rfl)
                simp only [e9] at hK ⊢
                simp only [Act.put, List.setIfInBounds_toArray, List.set_cons_zero, List.set_cons_succ] at hK
                clear hs
                go_simp
                all_goals (try go_wp2_with (first | (go_at_call 42; refine (rMost_any _ _ _ (by with_reducible assumption) (by with_reducible assumption)).mono ?_; rintro e w1 ⟨rfl, hw⟩; rw [hw]; have hb1 := bl_refl W)))
                all_goals first | exact hK.out _ _ rfl (bl_refl _) | exact hK.out _ _ rfl (by assumption) | exact hK.out _ _ (by assumption) (by assumption)
              · cases ho
                have e8 : s 8 = _ := hs 8 (by decide) (by kernel_rfl)
                have e10 : s 10 = _ := hs 10 (by decide) (by kernel_rfl)
                simp only [e8, e10] at hK ⊢
                simp only [Act.put, List.setIfInBounds_toArray, List.set_cons_zero, List.set_cons_succ] at hK
                clear hs
                go_simp
                all_goals (try go_wp2_with (first | (go_at_call 42; refine (rMost_any _ _ _ (by with_reducible assumption) (by with_reducible assumption)).mono ?_; rintro e w1 ⟨rfl, hw⟩; rw [hw]; have hb1 := bl_refl W)))
                all_goals first | exact hK.out _ _ rfl (bl_refl _) | exact hK.out _ _ rfl (by assumption) | exact hK.out _ _ (by assumption) (by assumption)
              · cases ho
                have e5 : s 5 = _ := hs 5 (by decide) (by kernel_rfl)
                have e11 : s 11 = _ := hs 11 (by decide) (by kernel_rfl)
                simp only [e5, e11] at hK ⊢
                simp only [Act.put, List.setIfInBounds_toArray, List.set_cons_zero, List.set_cons_succ] at hK
                clear hs
                go_simp
                all_goals (try go_wp2_with (first | (go_at_call 42; refine (rMost_any _ _ _ (by with_reducible assumption) (by with_reducible assumption)).mono ?_; rintro e w1 ⟨rfl, hw⟩; rw [hw]; have hb1 := bl_refl W)))
                all_goals first | exact hK.out _ _ rfl (bl_refl _) | exact hK.out _ _ rfl (by assumption) | exact hK.out _ _ (by assumption) (by assumption)
              · cases ho
                simp only [Act.put, List.setIfInBounds_toArray, List.set_cons_zero, List.set_cons_succ] at hK
                clear hs
                go_simp
                all_goals (try go_wp2_with (first | (go_at_call 42; refine (rMost_any _ _ _ (by with_reducible assumption) (by with_reducible assumption)).mono ?_; rintro e w1 ⟨rfl, hw⟩; rw [hw]; have hb1 := bl_refl W)))
                all_goals first | exact hK.out _ _ rfl (bl_refl _) | exact hK.out _ _ rfl (by assumption) | exact hK.out _ _ (by assumption) (by assumption)
            case ht_wz =>
              intro s hs W hb hJ
              have e0 : s 0 = _ := hs 0 (by decide)
              have e1 : s 1 = _ := hs 1 (by decide)
              have e2 : s 2 = _ := hs 2 (by decide)
              have e3 : s 3 = _ := hs 3 (by decide)
              have e4 : s 4 = _ := hs 4 (by decide)
              have e5 : s 5 = _ := hs 5 (by decide)
              have e6 : s 6 = _ := hs 6 (by decide)
              have e7 : s 7 = _ := hs 7 (by decide)
              have e8 : s 8 = _ := hs 8 (by decide)
              have e9 : s 9 = _ := hs 9 (by decide)
              have e10 : s 10 = _ := hs 10 (by decide)
              have e11 : s 11 = _ := hs 11 (by decide)
              have e12 : s 12 = _ := hs 12 (by decide)
              have e13 : s 13 = _ := hs 13 (by decide)
              simp only [e0, e1, e2, e3, e4, e5, e6, e7, e8, e9, e10, e11, e12, e13]
              clear hs
              replace C0 := keep hb C0; replace C1 := keep hb C1; replace C2 := keep hb C2; replace C3 := keep hb C3; replace P0 := keep hb P0; replace P1 := keep hb P1; replace S0 := keep hb S0; replace S1 := keep hb S1; replace S2 := keep hb S2; replace R0 := keep hb R0; replace R1 := keep hb R1; replace R2 := keep hb R2; replace R3 := keep hb R3; replace Bc := bl_trans Bc hb; have ZB := fun o => (Bc.2 ⟨bb, o, none⟩).trans (fresh_frozen (by show _ ≤ _; omega))
              refine tail_step rfl (fun K hK => ?_)
              go_simp
              refine hK.out _ _ ?_
              clear hK K
              refine tail_end ?_
              obtain ⟨D2, D3⟩ := set23 (p := (.float .f64 (mostK .f64 (highK xs (j - 1)) (xs j)))) (q := (.float .f64 (mostK .f64 (highK ys (j - 1)) (ys j)))) C2 C3
              replace C0 := (far_off (n := bb) (o := 3) (v := (.float .f64 (mostK .f64 (highK ys (j - 1)) (ys j)))) (by decide)).trans ((far_off (n := bb) (o := 2) (v := (.float .f64 (mostK .f64 (highK xs (j - 1)) (xs j)))) (by decide)).trans C0)
              replace C1 := (far_off (n := bb) (o := 3) (v := (.float .f64 (mostK .f64 (highK ys (j - 1)) (ys j)))) (by decide)).trans ((far_off (n := bb) (o := 2) (v := (.float .f64 (mostK .f64 (highK xs (j - 1)) (xs j)))) (by decide)).trans C1)
              replace P0 := up_set2 (o := 3) (x := (.float .f64 (mostK .f64 (highK ys (j - 1)) (ys j)))) neP (up_set2 (o := 2) (x := (.float .f64 (mostK .f64 (highK xs (j - 1)) (xs j)))) neP P0)
              replace P1 := up_set2 (o := 3) (x := (.float .f64 (mostK .f64 (highK ys (j - 1)) (ys j)))) neP (up_set2 (o := 2) (x := (.float .f64 (mostK .f64 (highK xs (j - 1)) (xs j)))) neP P1)
              replace S0 := up_set2 (o := 3) (x := (.float .f64 (mostK .f64 (highK ys (j - 1)) (ys j)))) neH (up_set2 (o := 2) (x := (.float .f64 (mostK .f64 (highK xs (j - 1)) (xs j)))) neH S0)
              replace S1 := up_set2 (o := 3) (x := (.float .f64 (mostK .f64 (highK ys (j - 1)) (ys j)))) neH (up_set2 (o := 2) (x := (.float .f64 (mostK .f64 (highK xs (j - 1)) (xs j)))) neH S1)
              replace S2 := up_set2 (o := 3) (x := (.float .f64 (mostK .f64 (highK ys (j - 1)) (ys j)))) neH (up_set2 (o := 2) (x := (.float .f64 (mostK .f64 (highK xs (j - 1)) (xs j)))) neH S2)
              replace R0 := up_set2 (o := 3) (x := (.float .f64 (mostK .f64 (highK ys (j - 1)) (ys j)))) neR (up_set2 (o := 2) (x := (.float .f64 (mostK .f64 (highK xs (j - 1)) (xs j)))) neR R0)
              replace R1 := up_set2 (o := 3) (x := (.float .f64 (mostK .f64 (highK ys (j - 1)) (ys j)))) neR (up_set2 (o := 2) (x := (.float .f64 (mostK .f64 (highK xs (j - 1)) (xs j)))) neR R1)
              replace R2 := up_set2 (o := 3) (x := (.float .f64 (mostK .f64 (highK ys (j - 1)) (ys j)))) neR (up_set2 (o := 2) (x := (.float .f64 (mostK .f64 (highK xs (j - 1)) (xs j)))) neR R2)
              replace R3 := up_set2 (o := 3) (x := (.float .f64 (mostK .f64 (highK ys (j - 1)) (ys j)))) neR (up_set2 (o := 2) (x := (.float .f64 (mostK .f64 (highK xs (j - 1)) (xs j)))) neR R3)
              replace Bc := bl_set (p := ⟨bb, 3, none⟩) (v := (.float .f64 (mostK .f64 (highK ys (j - 1)) (ys j)))) (bl_set (p := ⟨bb, 2, none⟩) (v := (.float .f64 (mostK .f64 (highK xs (j - 1)) (xs j)))) Bc lw) lw
              clear C2 C3
              have C2 := D2
              have C3 := D3
              clear D2 D3 ZB hb
              go_wp2
              refine ⟨⟨j + 1, by omega, by omega, by go_num, Bc, S0, S1, S2, R0, R1, R2, R3, ?_⟩, by simp [intOf]; omega⟩
              rw [Nat.add_sub_cancel, est 0 xs, est 0 ys, esm 0 xs, esm 0 ys]
              exact ⟨C0, C1, C2, C3⟩
        · have hkn : j = n := by omega
          subst hkn
          have lr : w.heap.size ≤ w.heap.size + 1 := by omega
          by_cases hk3 : k = 3
          · have ZR := fun o => (Bc.2 ⟨w.heap.size + 1, o, none⟩).trans (fresh_frozen (by show _ ≤ _; omega))
            go_wp2
            obtain ⟨F0, F1, F2, F3⟩ := set4 (p := .float .f64 (lowK xs (j - 1))) (q := .float .f64 (lowK ys (j - 1))) (r := .float .f64 (highK xs (j - 1))) (s := .float .f64 (highK ys (j - 1))) R0 R1 R2 R3 rfl
            refine bodyPost_ret (v := .tuple #[.agg #[.float .f64 (lowK xs (j - 1)), .float .f64 (lowK ys (j - 1)), .float .f64 (highK xs (j - 1)), .float .f64 (highK ys (j - 1))], .int .i64 0]) (by simp [F0, F1, F2, F3, results, Try.results9, go_sem] <;> (first | exact ⟨⟨rfl, rfl⟩, rfl⟩ | exact ⟨rfl, rfl, rfl, rfl⟩ | exact ⟨rfl, rfl, rfl⟩ | exact ⟨rfl, rfl⟩ | rfl)) rfl ⟨by unfold boxA bxL bxH; rw [if_pos hz, hz]; rw [if_pos hk3, if_pos hk3, if_pos hk3, if_pos hk3], bl_set (bl_set (bl_set (bl_set Bc lr) lr) lr) lr⟩
          · have ZR := fun o => (Bc.2 ⟨w.heap.size + 1, o, none⟩).trans (fresh_frozen (by show _ ≤ _; omega))
            go_wp2
            obtain ⟨F0, F1, F2, F3⟩ := set4 (p := .float .f64 (Dv .sub (lowK xs (j - 1)) r)) (q := .float .f64 (Dv .sub (lowK ys (j - 1)) r)) (r := .float .f64 (Dv .add (highK xs (j - 1)) r)) (s := .float .f64 (Dv .add (highK ys (j - 1)) r)) R0 R1 R2 R3 rfl
            refine bodyPost_ret (v := .tuple #[.agg #[.float .f64 (Dv .sub (lowK xs (j - 1)) r), .float .f64 (Dv .sub (lowK ys (j - 1)) r), .float .f64 (Dv .add (highK xs (j - 1)) r), .float .f64 (Dv .add (highK ys (j - 1)) r)], .int .i64 0]) (by simp [F0, F1, F2, F3, results, Try.results9, go_sem] <;> (first | exact ⟨⟨rfl, rfl⟩, rfl⟩ | exact ⟨rfl, rfl, rfl, rfl⟩ | exact ⟨rfl, rfl, rfl⟩ | exact ⟨rfl, rfl⟩ | rfl)) rfl ⟨by unfold boxA bxL bxH; rw [if_pos hz, hz]; rw [if_neg hk3, if_neg hk3, if_neg hk3, if_neg hk3], bl_set (bl_set (bl_set (bl_set Bc lr) lr) lr) lr⟩
  · obtain ⟨v, hv⟩ : ∃ v, shE k r xs ys n = v := ⟨_, rfl⟩
    have hz0 := hz
    rw [hv] at hz
    have z0_0 : (w.alloc (.cells #[.int .u8 k, .float .f64 r, .slice a n c] 25)).cell? ⟨w.heap.size, 0, none⟩ = some (.int .u8 k) := by rw [World.cell?_alloc_new]; rfl
    replace z0_0 := up_alloc (o := .cells #[.float .f64 0, .float .f64 0, .float .f64 0, .float .f64 0] 31) z0_0
    have z0_1 : (w.alloc (.cells #[.int .u8 k, .float .f64 r, .slice a n c] 25)).cell? ⟨w.heap.size, 1, none⟩ = some (.float .f64 r) := by rw [World.cell?_alloc_new]; rfl
    replace z0_1 := up_alloc (o := .cells #[.float .f64 0, .float .f64 0, .float .f64 0, .float .f64 0] 31) z0_1
    have z0_2 : (w.alloc (.cells #[.int .u8 k, .float .f64 r, .slice a n c] 25)).cell? ⟨w.heap.size, 2, none⟩ = some (.slice a n c) := by rw [World.cell?_alloc_new]; rfl
    replace z0_2 := up_alloc (o := .cells #[.float .f64 0, .float .f64 0, .float .f64 0, .float .f64 0] 31) z0_2
    have z1_0 : ((w.alloc (.cells #[.int .u8 k, .float .f64 r, .slice a n c] 25)).alloc (.cells #[.float .f64 0, .float .f64 0, .float .f64 0, .float .f64 0] 31)).cell? ⟨w.heap.size + 1, 0, none⟩ = some (.float .f64 0) := by rw [← (show (w.alloc (.cells #[.int .u8 k, .float .f64 r, .slice a n c] 25)).heap.size = w.heap.size + 1 by simp only [World.size_alloc]), World.cell?_alloc_new]; rfl
    have z1_1 : ((w.alloc (.cells #[.int .u8 k, .float .f64 r, .slice a n c] 25)).alloc (.cells #[.float .f64 0, .float .f64 0, .float .f64 0, .float .f64 0] 31)).cell? ⟨w.heap.size + 1, 1, none⟩ = some (.float .f64 0) := by rw [← (show (w.alloc (.cells #[.int .u8 k, .float .f64 r, .slice a n c] 25)).heap.size = w.heap.size + 1 by simp only [World.size_alloc]), World.cell?_alloc_new]; rfl
    have z1_2 : ((w.alloc (.cells #[.int .u8 k, .float .f64 r, .slice a n c] 25)).alloc (.cells #[.float .f64 0, .float .f64 0, .float .f64 0, .float .f64 0] 31)).cell? ⟨w.heap.size + 1, 2, none⟩ = some (.float .f64 0) := by rw [← (show (w.alloc (.cells #[.int .u8 k, .float .f64 r, .slice a n c] 25)).heap.size = w.heap.size + 1 by simp only [World.size_alloc]), World.cell?_alloc_new]; rfl
    have z1_3 : ((w.alloc (.cells #[.int .u8 k, .float .f64 r, .slice a n c] 25)).alloc (.cells #[.float .f64 0, .float .f64 0, .float .f64 0, .float .f64 0] 31)).cell? ⟨w.heap.size + 1, 3, none⟩ = some (.float .f64 0) := by rw [← (show (w.alloc (.cells #[.int .u8 k, .float .f64 r, .slice a n c] 25)).heap.size = w.heap.size + 1 by simp only [World.size_alloc]), World.cell?_alloc_new]; rfl
    have B0 : Bel w ((w.alloc (.cells #[.int .u8 k, .float .f64 r, .slice a n c] 25)).alloc (.cells #[.float .f64 0, .float .f64 0, .float .f64 0, .float .f64 0] 31)) := bl_alloc (bl_alloc (bl_refl w) _ _) _ _
    have h1 := h.bel B0
    go_enter Try.func9, Try.ntmps9
    go_wp2_with (first | (go_at_call 40; refine (rchk7 _ _ xs ys k r _ h1).mono ?_; rintro e wc ⟨rfl, hb⟩; rw [hv]; have Bc := bl_trans B0 hb; have S0 := keep hb z0_0; have S1 := keep hb z0_1; have S2 := keep hb z0_2; have R0 := keep hb z1_0; have R1 := keep hb z1_1; have R2 := keep hb z1_2; have R3 := keep hb z1_3; have hbc := hb.size; (try simp only [World.size_alloc] at hbc); have ZR := fun o => (Bc.2 ⟨w.heap.size + 1, o, none⟩).trans (fresh_frozen (by show _ ≤ _; omega))))
    obtain ⟨F0, F1, F2, F3⟩ := set4 (p := .float .f64 0) (q := .float .f64 0) (r := .float .f64 0) (s := .float .f64 0) R0 R1 R2 R3 rfl
    have lr : w.heap.size ≤ w.heap.size + 1 := by omega
    refine bodyPost_ret (v := .tuple #[.agg #[.float .f64 0, .float .f64 0, .float .f64 0, .float .f64 0], .int .i64 v]) (by simp [F0, F1, F2, F3, results, Try.results9, go_sem] <;> (first | exact ⟨⟨rfl, rfl⟩, rfl⟩ | exact ⟨rfl, rfl, rfl, rfl⟩ | exact ⟨rfl, rfl, rfl⟩ | exact ⟨rfl, rfl⟩ | rfl)) rfl ⟨by unfold boxA; rw [if_neg hz0, hv], bl_set (bl_set (bl_set (bl_set Bc lr) lr) lr) lr⟩

end Go.Proofs.Ytiamgphpcjokmab
