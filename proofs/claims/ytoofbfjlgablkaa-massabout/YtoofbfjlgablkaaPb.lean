/-
  What each function of package poly answers, and what the reference of its chapter answers: one contract a function, for every float: the answer stands in the relation of its formula to what was given; of the memory that was there nothing has turned.
-/
import Derived.Test.YtoofbfjlgablkaaVec
import Derived.Test.YtoofbfjlgablkaaPa
import Derived.Test.YtoofbfjlgablkaaMulti
import Derived.Below
import Derived.WalkKit
import Derived.WalkLawsBesides
import Derived.WalkSpells
import Derived.ProofKit
import Derived.OpenShut
import Derived.Deep.RegionHeld3
namespace Go.Proofs.Ytoofbfjlgablkaa
open Go.ChangeShapes Go.WideShapes Go.ChangeAt Go.RowKit
set_option linter.unusedVariables false
set_option linter.unusedSimpArgs false


set_option maxHeartbeats 4000000 in
theorem triangle_d (fx fy px p_y qx qy : Nat) (w : World) (h1 : Bd 40 fx) (h2 : Bd 40 fy) (h3 : Bd 40 px) (h4 : Bd 40 p_y) (h5 : Bd 40 qx) (h6 : Bd 40 qy) : Calls Try.prog 64 #[.agg #[.float .f64 fx, .float .f64 fy], .agg #[.float .f64 px, .float .f64 p_y], .agg #[.float .f64 qx, .float .f64 qy]] w fun e w' => e = .returned (.agg #[.float .f64 (tA fx fy px p_y qx qy), .float .f64 (tX fx fy px p_y qx qy), .float .f64 (tY fx fy px p_y qx qy)]) ∧ Bel w w' := by
  have b1 : Bd 42 (Dv .sub px fx) := bd_sub h3 h1 (by decide)
  have b2 : Bd 42 (Dv .sub p_y fy) := bd_sub h4 h2 (by decide)
  have b3 : Bd 42 (Dv .sub qx fx) := bd_sub h5 h1 (by decide)
  have b4 : Bd 42 (Dv .sub qy fy) := bd_sub h6 h2 (by decide)
  have b5 := bd_cr b1 b2 b3 b4 (by decide)
  have b6 := bd_add b1 b3 (by decide)
  have b7 := bd_add b2 b4 (by decide)
  obtain ⟨z0, z1, z2⟩ : ((((w.alloc (.cells #[.float .f64 fx, .float .f64 fy] 26)).alloc (.cells #[.float .f64 px, .float .f64 p_y] 26)).alloc (.cells #[.float .f64 qx, .float .f64 qy] 26)).alloc (.cells #[.float .f64 0, .float .f64 0, .float .f64 0] 80)).cell? ⟨w.heap.size + 1 + 1 + 1, 0, none⟩ = some (.float .f64 0) ∧ ((((w.alloc (.cells #[.float .f64 fx, .float .f64 fy] 26)).alloc (.cells #[.float .f64 px, .float .f64 p_y] 26)).alloc (.cells #[.float .f64 qx, .float .f64 qy] 26)).alloc (.cells #[.float .f64 0, .float .f64 0, .float .f64 0] 80)).cell? ⟨w.heap.size + 1 + 1 + 1, 1, none⟩ = some (.float .f64 0) ∧ ((((w.alloc (.cells #[.float .f64 fx, .float .f64 fy] 26)).alloc (.cells #[.float .f64 px, .float .f64 p_y] 26)).alloc (.cells #[.float .f64 qx, .float .f64 qy] 26)).alloc (.cells #[.float .f64 0, .float .f64 0, .float .f64 0] 80)).cell? ⟨w.heap.size + 1 + 1 + 1, 2, none⟩ = some (.float .f64 0) := cell_own3 (by simp) _ _ _ _
  go_enter Try.func64, Try.ntmps64
  go_wp2
  refine wp_region_multiA 8 (fun i v => match i with | 0 => v = .agg #[.float .f64 px, .float .f64 p_y] | 1 => v = .agg #[.float .f64 fx, .float .f64 fy] | 2 => v = .agg #[.float .f64 (Dv .sub px fx), .float .f64 (Dv .sub p_y fy)] | 3 => v = .agg #[.float .f64 qx, .float .f64 qy] | 4 => v = .agg #[.float .f64 fx, .float .f64 fy] | 5 => v = .agg #[.float .f64 (Dv .sub qx fx), .float .f64 (Dv .sub qy fy)] | 6 => ∃ b, v = .pointer (some ⟨b, 0, none⟩) | 7 => ∃ b, v = .pointer (some ⟨b, 0, none⟩) | _ => False) (fun i => match i with | 6 => some (Obj.cells #[.float .f64 0, .float .f64 0] 26) | 7 => some (Obj.cells #[.float .f64 0, .float .f64 0] 26) | _ => none) ?A_wf (by kernel_rfl) (by kernel_rfl) ?hA_wf ?ha_wf ?hq_wf [8, 9] rfl ?ht_wf
  case hA_wf =>
    intro s
    simp only [putL, dstO, Act.put, List.getElem?_toArray, List.getElem?_cons_zero, List.getElem?_cons_succ, Option.bind_some, List.setIfInBounds_toArray, List.set_cons_zero, List.set_cons_succ, if_true]
    all_goals exact rfl
  case ha_wf =>
    intro i o ob hi ho hal
    rcases (show i = 0 ∨ i = 1 ∨ i = 2 ∨ i = 3 ∨ i = 4 ∨ i = 5 ∨ i = 6 ∨ i = 7 by omega) with rfl | rfl | rfl | rfl | rfl | rfl | rfl | rfl
    · cases hal
    · cases hal
    · cases hal
    · cases hal
    · cases hal
    · cases hal
    · cases ho; cases hal; exact ⟨fun v hv => ⟨_, hv.choose_spec.2⟩, ⟨_, _, rfl⟩, fun A W => by go_simp⟩
    · cases ho; cases hal; exact ⟨fun v hv => ⟨_, hv.choose_spec.2⟩, ⟨_, _, rfl⟩, fun A W => by go_simp⟩
  case hq_wf =>
    intro i o hi ho hal s hs W hb K hK
    obtain ⟨hc, hf⟩ := bcell hb; have hz := hb.size; (try simp at hz)
    rcases (show i = 0 ∨ i = 1 ∨ i = 2 ∨ i = 3 ∨ i = 4 ∨ i = 5 ∨ i = 6 ∨ i = 7 by omega) with rfl | rfl | rfl | rfl | rfl | rfl | rfl | rfl
    · cases ho
      simp only [Act.put, List.setIfInBounds_toArray, List.set_cons_zero, List.set_cons_succ] at hK
      clear hs
      go_simp
      all_goals (try go_wp2_with (first | (go_at_call 44; refine (vSub_d _ (by with_reducible assumption) (by with_reducible assumption) (by with_reducible assumption) (by with_reducible assumption)).mono ?_; rintro e w1 ⟨rfl, hb1⟩)))
      all_goals first | exact hK.out _ _ rfl (bl_refl _) | exact hK.out _ _ rfl (by assumption) | exact hK.out _ _ (by assumption) (by assumption)
    · cases ho
      simp only [Act.put, List.setIfInBounds_toArray, List.set_cons_zero, List.set_cons_succ] at hK
      clear hs
      go_simp
      all_goals (try go_wp2_with (first | (go_at_call 44; refine (vSub_d _ (by with_reducible assumption) (by with_reducible assumption) (by with_reducible assumption) (by with_reducible assumption)).mono ?_; rintro e w1 ⟨rfl, hb1⟩)))
      all_goals first | exact hK.out _ _ rfl (bl_refl _) | exact hK.out _ _ rfl (by assumption) | exact hK.out _ _ (by assumption) (by assumption)
    · cases ho
      have e0 : s 0 = _ := hs 0 (by decide) (by kernel_rfl)
      have e1 : s 1 = _ := hs 1 (by decide) (by kernel_rfl)
      simp only [e0, e1] at hK ⊢
      simp only [Act.put, List.setIfInBounds_toArray, List.set_cons_zero, List.set_cons_succ] at hK
      clear hs
      go_simp
      all_goals (try go_wp2_with (first | (go_at_call 44; refine (vSub_d _ (by with_reducible assumption) (by with_reducible assumption) (by with_reducible assumption) (by with_reducible assumption)).mono ?_; rintro e w1 ⟨rfl, hb1⟩)))
      all_goals first | exact hK.out _ _ rfl (bl_refl _) | exact hK.out _ _ rfl (by assumption) | exact hK.out _ _ (by assumption) (by assumption)
    · cases ho
      simp only [Act.put, List.setIfInBounds_toArray, List.set_cons_zero, List.set_cons_succ] at hK
      clear hs
      go_simp
      all_goals (try go_wp2_with (first | (go_at_call 44; refine (vSub_d _ (by with_reducible assumption) (by with_reducible assumption) (by with_reducible assumption) (by with_reducible assumption)).mono ?_; rintro e w1 ⟨rfl, hb1⟩)))
      all_goals first | exact hK.out _ _ rfl (bl_refl _) | exact hK.out _ _ rfl (by assumption) | exact hK.out _ _ (by assumption) (by assumption)
    · cases ho
      simp only [Act.put, List.setIfInBounds_toArray, List.set_cons_zero, List.set_cons_succ] at hK
      clear hs
      go_simp
      all_goals (try go_wp2_with (first | (go_at_call 44; refine (vSub_d _ (by with_reducible assumption) (by with_reducible assumption) (by with_reducible assumption) (by with_reducible assumption)).mono ?_; rintro e w1 ⟨rfl, hb1⟩)))
      all_goals first | exact hK.out _ _ rfl (bl_refl _) | exact hK.out _ _ rfl (by assumption) | exact hK.out _ _ (by assumption) (by assumption)
    · cases ho
      have e3 : s 3 = _ := hs 3 (by decide) (by kernel_rfl)
      have e4 : s 4 = _ := hs 4 (by decide) (by kernel_rfl)
      simp only [e3, e4] at hK ⊢
      simp only [Act.put, List.setIfInBounds_toArray, List.set_cons_zero, List.set_cons_succ] at hK
      clear hs
      go_simp
      all_goals (try go_wp2_with (first | (go_at_call 44; refine (vSub_d _ (by with_reducible assumption) (by with_reducible assumption) (by with_reducible assumption) (by with_reducible assumption)).mono ?_; rintro e w1 ⟨rfl, hb1⟩)))
      all_goals first | exact hK.out _ _ rfl (bl_refl _) | exact hK.out _ _ rfl (by assumption) | exact hK.out _ _ (by assumption) (by assumption)
    · cases hal
    · cases hal
  case ht_wf =>
    intro s hs W hb hJ
    have e0 : s 0 = _ := hs 0 (by decide)
    have e1 : s 1 = _ := hs 1 (by decide)
    have e2 : s 2 = _ := hs 2 (by decide)
    have e3 : s 3 = _ := hs 3 (by decide)
    have e4 : s 4 = _ := hs 4 (by decide)
    have e5 : s 5 = _ := hs 5 (by decide)
    obtain ⟨p6, e6, n6, h6⟩ := laid_at hJ 6 (by decide) rfl
    obtain ⟨p7, e7, n7, h7⟩ := laid_at hJ 7 (by decide) rfl
    have ne67 := laid_ne hJ 6 7 (by decide) (by decide) (by decide) rfl rfl e6 e7
    have c60 : W.cell? ⟨p6, 0, none⟩ = some (.float .f64 0) := heap_cell h6 rfl
    have c61 : W.cell? ⟨p6, 1, none⟩ = some (.float .f64 0) := heap_cell h6 rfl
    have f6 := fun k => heap_frozen (i := k) h6
    have c70 : W.cell? ⟨p7, 0, none⟩ = some (.float .f64 0) := heap_cell h7 rfl
    have c71 : W.cell? ⟨p7, 1, none⟩ = some (.float .f64 0) := heap_cell h7 rfl
    have f7 := fun k => heap_frozen (i := k) h7
    simp only [e0, e1, e2, e3, e4, e5, e6, e7]
    clear hs
    refine tail_step rfl (fun K hK => ?_)
    go_simp
    refine hK.out _ _ ?_
    clear hK K
    refine tail_step rfl (fun K hK => ?_)
    go_simp
    refine hK.out _ _ ?_
    clear hK K
    refine tail_end ?_
    have ne76 := ne67.symm
    (try simp at n6 n7)
    have BW : Bel w W := by refine bl_trans (b := _) ?_ hb; repeat (first | exact bl_refl w | apply bl_alloc | apply bl_drew)
    have BW0 := BW
    have ol0 := World.block_lt_of_cell? _ _ z0
    have od0 := keep hb z0
    have ol1 := World.block_lt_of_cell? _ _ z1
    have od1 := keep hb z1
    have ol2 := World.block_lt_of_cell? _ _ z2
    have od2 := keep hb z2
    simp only at ol0 ol1 ol2
    obtain ⟨wf0, hN, d60, d61, fr0, bN⟩ := put2_all (p := .float .f64 (Dv .sub px fx)) (q := .float .f64 (Dv .sub p_y fy)) c60 c61
    rw [← hN]
    replace BW := bN w BW (by omega)
    replace c70 := (fr0 _ 0 (.inl ne76)).trans c70
    replace c71 := (fr0 _ 1 (.inl ne76)).trans c71
    replace od0 := (fr0 (w.heap.size + 1 + 1 + 1) 0 (.inl (by omega))).trans od0
    replace od1 := (fr0 (w.heap.size + 1 + 1 + 1) 1 (.inl (by omega))).trans od1
    replace od2 := (fr0 (w.heap.size + 1 + 1 + 1) 2 (.inl (by omega))).trans od2
    clear hN fr0 bN
    obtain ⟨wf, hN, d70, d71, fr1, bN⟩ := put2_all (p := .float .f64 (Dv .sub qx fx)) (q := .float .f64 (Dv .sub qy fy)) c70 c71
    rw [← hN]
    replace BW := bN w BW (by omega)
    replace d60 := (fr1 _ 0 (.inl ne67)).trans d60
    replace d61 := (fr1 _ 1 (.inl ne67)).trans d61
    replace od0 := (fr1 (w.heap.size + 1 + 1 + 1) 0 (.inl (by omega))).trans od0
    replace od1 := (fr1 (w.heap.size + 1 + 1 + 1) 1 (.inl (by omega))).trans od1
    replace od2 := (fr1 (w.heap.size + 1 + 1 + 1) 2 (.inl (by omega))).trans od2
    clear hN fr1 bN
    have k_p6_0 : wf.cell? ⟨p6, 0, none⟩ = some (.float .f64 (Dv .sub px fx)) := d60
    have k_p6_1 : wf.cell? ⟨p6, 1, none⟩ = some (.float .f64 (Dv .sub p_y fy)) := d61
    clear d60 d61
    have k_p7_0 : wf.cell? ⟨p7, 0, none⟩ = some (.float .f64 (Dv .sub qx fx)) := d70
    have k_p7_1 : wf.cell? ⟨p7, 1, none⟩ = some (.float .f64 (Dv .sub qy fy)) := d71
    clear d70 d71
    replace z0 := od0
    replace z1 := od1
    replace z2 := od2
    clear od0
    clear od1
    clear od2
    have l6 : p6 < wf.heap.size := World.block_lt_of_cell? wf _ k_p6_0
    have l7 : p7 < wf.heap.size := World.block_lt_of_cell? wf _ k_p7_0
    have z_p6 := fun k => (BW.2 _).trans ((BW0.2 ⟨p6, k, none⟩).symm.trans (f6 k))
    have z_p7 := fun k => (BW.2 _).trans ((BW0.2 ⟨p7, k, none⟩).symm.trans (f7 k))
    have B := hide BW
    clear BW BW0 hJ h6 h7 f6 f7 e0 e1 e2 e3 e4 e5 e6 e7
    have FZ := fun o => ((unhide B).2 ⟨w.heap.size + 1 + 1 + 1, o, none⟩).trans (fresh_frozen (i := o) (by omega))
    have lz := World.block_lt_of_cell? wf _ z0
    simp only at lz
    go_wp2_with (first | (go_at_call 61; refine (vCross_d _ (by with_reducible assumption) (by with_reducible assumption) (by with_reducible assumption) (by with_reducible assumption) (by decide)).mono ?_; rintro e w_1 ⟨rfl, hb⟩; have C := hb; obtain ⟨hc, hf⟩ := bcell C; have hz := C.size) | (go_at_call 60; refine (vAdd_d _ (by with_reducible assumption) (by with_reducible assumption) (by with_reducible assumption) (by with_reducible assumption)).mono ?_; rintro e w_2 ⟨rfl, hb⟩; replace C := bl_trans C hb; clear hc hf hz; obtain ⟨hc, hf⟩ := bcell C; have hz := C.size) | (go_at_call 67; refine (vScale_d _ (by with_reducible assumption) (by with_reducible assumption) (by with_reducible assumption)).mono ?_; rintro e w_3 ⟨rfl, hb⟩; replace C := bl_trans C hb; clear hc hf hz; obtain ⟨hc, hf⟩ := bcell C; have hz := C.size; have K0 := keep C z0; have K1 := keep C z1; have K2 := keep C z2))
    obtain ⟨R0, R1, R2⟩ := set3 (p := .float .f64 (crK (Dv .sub px fx) (Dv .sub p_y fy) (Dv .sub qx fx) (Dv .sub qy fy))) (q := .float .f64 (Dv .mul (Dv .add (Dv .sub px fx) (Dv .sub qx fx)) (crK (Dv .sub px fx) (Dv .sub p_y fy) (Dv .sub qx fx) (Dv .sub qy fy)))) (r := .float .f64 (Dv .mul (Dv .add (Dv .sub p_y fy) (Dv .sub qy fy)) (crK (Dv .sub px fx) (Dv .sub p_y fy) (Dv .sub qx fx) (Dv .sub qy fy)))) K0 K1 K2
    refine bodyPost_ret (v := .agg #[.float .f64 (crK (Dv .sub px fx) (Dv .sub p_y fy) (Dv .sub qx fx) (Dv .sub qy fy)), .float .f64 (Dv .mul (Dv .add (Dv .sub px fx) (Dv .sub qx fx)) (crK (Dv .sub px fx) (Dv .sub p_y fy) (Dv .sub qx fx) (Dv .sub qy fy))), .float .f64 (Dv .mul (Dv .add (Dv .sub p_y fy) (Dv .sub qy fy)) (crK (Dv .sub px fx) (Dv .sub p_y fy) (Dv .sub qx fx) (Dv .sub qy fy)))]) (by simp [R0, R1, R2, results, Try.results64, go_sem] <;> (first | exact ⟨rfl, rfl, rfl⟩ | rfl)) rfl ⟨rfl, ?_⟩
    repeat (first | exact bl_refl _ | exact bl_trans (unhide B) C | assumption | apply bl_drewN | apply bl_drew | apply bl_alloc | refine bl_set ?_ (by simp <;> omega) | refine bl_trans ?_ (by assumption))

theorem fanOf_none (v : Option Addr) (cap : Nat) (xs ys : Nat → Nat) (w : World) : Calls Try.prog 59 #[.slice v 0 cap] w fun e w' => e = .returned (.tuple #[.agg #[.float .f64 0, .float .f64 0, .float .f64 0], .int .i64 60]) ∧ Bel w w' := by
  go_enter Try.func59, Try.ntmps59
  go_wp2_with (first | (go_at_call 63; refine (chk_none _ _ xs ys _).mono ?_; rintro e w' ⟨rfl, hb⟩; obtain ⟨hc, hf⟩ := bcell hb; have hz := hb.size; (try simp at hz)))
  refine bodyPost_ret (v := .tuple #[.agg #[.float .f64 0, .float .f64 0, .float .f64 0], .int .i64 60]) (by simp [hc, results, Try.results59, go_sem] <;> (first | exact ⟨⟨rfl, rfl⟩, rfl⟩ | exact ⟨rfl, rfl, rfl, rfl⟩ | exact ⟨rfl, rfl, rfl⟩ | exact ⟨rfl, rfl⟩ | rfl)) rfl ⟨rfl, ?_⟩
  repeat (first | exact bl_refl _ | assumption | apply bl_drewN | apply bl_drew | apply bl_alloc | refine bl_set ?_ (by simp <;> omega) | refine bl_trans ?_ (by assumption))
set_option maxHeartbeats 4000000 in
theorem fanOf_d (b off n cap : Nat) (xs ys : Nat → Nat) (w : World) (hs : Sl w b off n xs ys) (o : Oks xs ys n) (hp : 0 < n) (hn : n ≤ maxLen) (hcap : n ≤ cap) : Calls Try.prog 59 #[.slice (some ⟨b, off, none⟩) n cap] w fun e w' => e = .returned (.tuple #[.agg #[.float .f64 (fanA xs ys n), .float .f64 (fanX xs ys n), .float .f64 (fanY xs ys n)], .int .i64 (fanE xs ys n)]) ∧ Bel w w' := by
  obtain ⟨z0, z1, z2⟩ : (w.alloc (.cells #[.float .f64 0, .float .f64 0, .float .f64 0] 80)).cell? ⟨w.heap.size, 0, none⟩ = some (.float .f64 0) ∧ (w.alloc (.cells #[.float .f64 0, .float .f64 0, .float .f64 0] 80)).cell? ⟨w.heap.size, 1, none⟩ = some (.float .f64 0) ∧ (w.alloc (.cells #[.float .f64 0, .float .f64 0, .float .f64 0] 80)).cell? ⟨w.heap.size, 2, none⟩ = some (.float .f64 0) := cell_own3 (by simp) _ _ _ _
  by_cases hz : chkE xs ys n = 0
  · obtain ⟨g, h3, h64, _⟩ := chk_ok o hz
    have c1 := cmp_gt .f64
    have hb0 := hs.lt hp
    have n1 : (1 : Int) < (n : Int) := by omega
    have n2 : (2 : Int) < (n : Int) := by omega
    have n0 : (0 : Int) < (n : Int) := by omega
    obtain ⟨u0, u1⟩ := g 0 (by omega)
    obtain ⟨u2, u3⟩ := g 1 (by omega)
    obtain ⟨u4, u5⟩ := g 2 (by omega)
    go_enter Try.func59, Try.ntmps59
    go_wp2_with (first | (go_at_call 63; refine (chk_some _ _ _ _ _ _ _ (hs.bel (bl_alloc (bl_refl w) _ _)) o hp hn hcap).mono ?_; rintro e w_1 ⟨rfl, hb⟩; rw [hz]; have Bw0 := hb))
    have Bw : Bel w w_1 := bl_trans (bl_alloc (bl_refl w) _ _) Bw0
    have hs1 := hs.bel Bw
    replace z0 := keep Bw0 z0
    replace z1 := keep Bw0 z1
    replace z2 := keep Bw0 z2
    refine wp_region_multiA 11 (fun i v => match i with | 0 => v = .slice (some ⟨b, off, none⟩) n cap | 1 => v = .pointer (some ⟨b, off, none⟩) | 2 => v = .agg #[.float .f64 (xs 0), .float .f64 (ys 0)] | 3 => v = .slice (some ⟨b, off, none⟩) n cap | 4 => v = .pointer (some ⟨b, off + 2, none⟩) | 5 => v = .agg #[.float .f64 (xs 1), .float .f64 (ys 1)] | 6 => v = .slice (some ⟨b, off, none⟩) n cap | 7 => v = .pointer (some ⟨b, off + 2 * 2, none⟩) | 8 => v = .agg #[.float .f64 (xs 2), .float .f64 (ys 2)] | 9 => v = .agg #[.float .f64 (tA (xs 0) (ys 0) (xs 1) (ys 1) (xs 2) (ys 2)), .float .f64 (tX (xs 0) (ys 0) (xs 1) (ys 1) (xs 2) (ys 2)), .float .f64 (tY (xs 0) (ys 0) (xs 1) (ys 1) (xs 2) (ys 2))] | 10 => ∃ b, v = .pointer (some ⟨b, 0, none⟩) | _ => False) (fun i => match i with | 10 => some (Obj.cells #[.float .f64 0, .float .f64 0, .float .f64 0] 80) | _ => none) ?A_wf (by kernel_rfl) (by kernel_rfl) ?hA_wf ?ha_wf ?hq_wf [11] rfl ?ht_wf
    case hA_wf =>
      intro s
      simp only [putL, dstO, Act.put, List.getElem?_toArray, List.getElem?_cons_zero, List.getElem?_cons_succ, Option.bind_some, List.setIfInBounds_toArray, List.set_cons_zero, List.set_cons_succ, if_true]
      all_goals exact rfl
    case ha_wf =>
      intro i o ob hi ho hal
      rcases (show i = 0 ∨ i = 1 ∨ i = 2 ∨ i = 3 ∨ i = 4 ∨ i = 5 ∨ i = 6 ∨ i = 7 ∨ i = 8 ∨ i = 9 ∨ i = 10 by omega) with rfl | rfl | rfl | rfl | rfl | rfl | rfl | rfl | rfl | rfl | rfl
      · cases hal
      · cases hal
      · cases hal
      · cases hal
      · cases hal
      · cases hal
      · cases hal
      · cases hal
      · cases hal
      · cases hal
      · cases ho; cases hal; exact ⟨fun v hv => ⟨_, hv.choose_spec.2⟩, ⟨_, _, rfl⟩, fun A W => by go_simp⟩
    case hq_wf =>
      intro i o hi ho hal s hs W hb K hK
      have a0 := keep hb (hs1 0 (by omega)).1; have c0 := keep hb (hs1 0 (by omega)).2; have a1 := keep hb (hs1 1 (by omega)).1; have c1 := keep hb (hs1 1 (by omega)).2; have a2 := keep hb (hs1 2 (by omega)).1; have c2 := keep hb (hs1 2 (by omega)).2; (try simp only [Nat.zero_mul, Nat.one_mul, Nat.add_zero] at a0 c0 a1 c1 a2 c2)
      rcases (show i = 0 ∨ i = 1 ∨ i = 2 ∨ i = 3 ∨ i = 4 ∨ i = 5 ∨ i = 6 ∨ i = 7 ∨ i = 8 ∨ i = 9 ∨ i = 10 by omega) with rfl | rfl | rfl | rfl | rfl | rfl | rfl | rfl | rfl | rfl | rfl
      · cases ho
        simp only [Act.put, List.setIfInBounds_toArray, List.set_cons_zero, List.set_cons_succ] at hK
        clear hs
        go_simp
        all_goals (try go_wp2_with (first | (go_at_call 64; refine (triangle_d _ _ _ _ _ _ _ (by with_reducible assumption) (by with_reducible assumption) (by with_reducible assumption) (by with_reducible assumption) (by with_reducible assumption) (by with_reducible assumption)).mono ?_; rintro e w1 ⟨rfl, hb1⟩)))
        all_goals first | exact hK.out _ _ rfl (bl_refl _) | exact hK.out _ _ rfl (by assumption) | exact hK.out _ _ (by assumption) (by assumption)
      · cases ho
        have e0 : s 0 = _ := hs 0 (by decide) (by kernel_rfl)
        simp only [e0] at hK ⊢
        simp only [Act.put, List.setIfInBounds_toArray, List.set_cons_zero, List.set_cons_succ] at hK
        clear hs
        go_simp
        all_goals (try go_wp2_with (first | (go_at_call 64; refine (triangle_d _ _ _ _ _ _ _ (by with_reducible assumption) (by with_reducible assumption) (by with_reducible assumption) (by with_reducible assumption) (by with_reducible assumption) (by with_reducible assumption)).mono ?_; rintro e w1 ⟨rfl, hb1⟩)))
        all_goals first | exact hK.out _ _ rfl (bl_refl _) | exact hK.out _ _ rfl (by assumption) | exact hK.out _ _ (by assumption) (by assumption)
      · cases ho
        have e1 : s 1 = _ := hs 1 (by decide) (by kernel_rfl)
        simp only [e1] at hK ⊢
        simp only [Act.put, List.setIfInBounds_toArray, List.set_cons_zero, List.set_cons_succ] at hK
        clear hs
        go_simp
        all_goals (try go_wp2_with (first | (go_at_call 64; refine (triangle_d _ _ _ _ _ _ _ (by with_reducible assumption) (by with_reducible assumption) (by with_reducible assumption) (by with_reducible assumption) (by with_reducible assumption) (by with_reducible assumption)).mono ?_; rintro e w1 ⟨rfl, hb1⟩)))
        all_goals first | exact hK.out _ _ rfl (bl_refl _) | exact hK.out _ _ rfl (by assumption) | exact hK.out _ _ (by assumption) (by assumption)
      · cases ho
        simp only [Act.put, List.setIfInBounds_toArray, List.set_cons_zero, List.set_cons_succ] at hK
        clear hs
        go_simp
        all_goals (try go_wp2_with (first | (go_at_call 64; refine (triangle_d _ _ _ _ _ _ _ (by with_reducible assumption) (by with_reducible assumption) (by with_reducible assumption) (by with_reducible assumption) (by with_reducible assumption) (by with_reducible assumption)).mono ?_; rintro e w1 ⟨rfl, hb1⟩)))
        all_goals first | exact hK.out _ _ rfl (bl_refl _) | exact hK.out _ _ rfl (by assumption) | exact hK.out _ _ (by assumption) (by assumption)
      · cases ho
        have e3 : s 3 = _ := hs 3 (by decide) (by kernel_rfl)
        simp only [e3] at hK ⊢
        simp only [Act.put, List.setIfInBounds_toArray, List.set_cons_zero, List.set_cons_succ] at hK
        clear hs
        go_simp
        all_goals (try go_wp2_with (first | (go_at_call 64; refine (triangle_d _ _ _ _ _ _ _ (by with_reducible assumption) (by with_reducible assumption) (by with_reducible assumption) (by with_reducible assumption) (by with_reducible assumption) (by with_reducible assumption)).mono ?_; rintro e w1 ⟨rfl, hb1⟩)))
        all_goals first | exact hK.out _ _ rfl (bl_refl _) | exact hK.out _ _ rfl (by assumption) | exact hK.out _ _ (by assumption) (by assumption)
      · cases ho
        have e4 : s 4 = _ := hs 4 (by decide) (by kernel_rfl)
        simp only [e4] at hK ⊢
        simp only [Act.put, List.setIfInBounds_toArray, List.set_cons_zero, List.set_cons_succ] at hK
        clear hs
        go_simp
        all_goals (try go_wp2_with (first | (go_at_call 64; refine (triangle_d _ _ _ _ _ _ _ (by with_reducible assumption) (by with_reducible assumption) (by with_reducible assumption) (by with_reducible assumption) (by with_reducible assumption) (by with_reducible assumption)).mono ?_; rintro e w1 ⟨rfl, hb1⟩)))
        all_goals first | exact hK.out _ _ rfl (bl_refl _) | exact hK.out _ _ rfl (by assumption) | exact hK.out _ _ (by assumption) (by assumption)
      · cases ho
        simp only [Act.put, List.setIfInBounds_toArray, List.set_cons_zero, List.set_cons_succ] at hK
        clear hs
        go_simp
        all_goals (try go_wp2_with (first | (go_at_call 64; refine (triangle_d _ _ _ _ _ _ _ (by with_reducible assumption) (by with_reducible assumption) (by with_reducible assumption) (by with_reducible assumption) (by with_reducible assumption) (by with_reducible assumption)).mono ?_; rintro e w1 ⟨rfl, hb1⟩)))
        all_goals first | exact hK.out _ _ rfl (bl_refl _) | exact hK.out _ _ rfl (by assumption) | exact hK.out _ _ (by assumption) (by assumption)
      · cases ho
        have e6 : s 6 = _ := hs 6 (by decide) (by kernel_rfl)
        simp only [e6] at hK ⊢
        simp only [Act.put, List.setIfInBounds_toArray, List.set_cons_zero, List.set_cons_succ] at hK
        clear hs
        go_simp
        all_goals (try go_wp2_with (first | (go_at_call 64; refine (triangle_d _ _ _ _ _ _ _ (by with_reducible assumption) (by with_reducible assumption) (by with_reducible assumption) (by with_reducible assumption) (by with_reducible assumption) (by with_reducible assumption)).mono ?_; rintro e w1 ⟨rfl, hb1⟩)))
        all_goals first | exact hK.out _ _ rfl (bl_refl _) | exact hK.out _ _ rfl (by assumption) | exact hK.out _ _ (by assumption) (by assumption)
      · cases ho
        have e7 : s 7 = _ := hs 7 (by decide) (by kernel_rfl)
        simp only [e7] at hK ⊢
        simp only [Act.put, List.setIfInBounds_toArray, List.set_cons_zero, List.set_cons_succ] at hK
        clear hs
        go_simp
        all_goals (try go_wp2_with (first | (go_at_call 64; refine (triangle_d _ _ _ _ _ _ _ (by with_reducible assumption) (by with_reducible assumption) (by with_reducible assumption) (by with_reducible assumption) (by with_reducible assumption) (by with_reducible assumption)).mono ?_; rintro e w1 ⟨rfl, hb1⟩)))
        all_goals first | exact hK.out _ _ rfl (bl_refl _) | exact hK.out _ _ rfl (by assumption) | exact hK.out _ _ (by assumption) (by assumption)
      · cases ho
        have e2 : s 2 = _ := hs 2 (by decide) (by kernel_rfl)
        have e5 : s 5 = _ := hs 5 (by decide) (by kernel_rfl)
        have e8 : s 8 = _ := hs 8 (by decide) (by kernel_rfl)
        simp only [e2, e5, e8] at hK ⊢
        simp only [Act.put, List.setIfInBounds_toArray, List.set_cons_zero, List.set_cons_succ] at hK
        clear hs
        go_simp
        all_goals (try go_wp2_with (first | (go_at_call 64; refine (triangle_d _ _ _ _ _ _ _ (by with_reducible assumption) (by with_reducible assumption) (by with_reducible assumption) (by with_reducible assumption) (by with_reducible assumption) (by with_reducible assumption)).mono ?_; rintro e w1 ⟨rfl, hb1⟩)))
        all_goals first | exact hK.out _ _ rfl (bl_refl _) | exact hK.out _ _ rfl (by assumption) | exact hK.out _ _ (by assumption) (by assumption)
      · cases hal
    case ht_wf =>
      intro s hs W hb hJ
      have e0 : s 0 = _ := hs 0 (by decide)
      have e1 : s 1 = _ := hs 1 (by decide)
      have e2 : s 2 = _ := hs 2 (by decide)
      have e3 : s 3 = _ := hs 3 (by decide)
      have e4 : s 4 = _ := hs 4 (by decide)
      have e5 : s 5 = _ := hs 5 (by decide)
      have e6 : s 6 = _ := hs 6 (by decide)
      have e7 : s 7 = _ := hs 7 (by decide)
      have e8 : s 8 = _ := hs 8 (by decide)
      have e9 : s 9 = _ := hs 9 (by decide)
      obtain ⟨p10, e10, n10, h10⟩ := laid_at hJ 10 (by decide) rfl
      have c100 : W.cell? ⟨p10, 0, none⟩ = some (.float .f64 0) := heap_cell h10 rfl
      have c101 : W.cell? ⟨p10, 1, none⟩ = some (.float .f64 0) := heap_cell h10 rfl
      have c102 : W.cell? ⟨p10, 2, none⟩ = some (.float .f64 0) := heap_cell h10 rfl
      have f10 := fun k => heap_frozen (i := k) h10
      simp only [e0, e1, e2, e3, e4, e5, e6, e7, e8, e9, e10]
      clear hs
      refine tail_step rfl (fun K hK => ?_)
      go_simp
      refine hK.out _ _ ?_
      clear hK K
      refine tail_end ?_
      (try simp at n10)
      have BW : Bel w W := by refine bl_trans (b := _) ?_ hb; repeat (first | exact Bw | apply bl_alloc | apply bl_drew)
      have BW0 := BW
      have ol0 := World.block_lt_of_cell? _ _ z0
      have od0 := keep hb z0
      have ol1 := World.block_lt_of_cell? _ _ z1
      have od1 := keep hb z1
      have ol2 := World.block_lt_of_cell? _ _ z2
      have od2 := keep hb z2
      simp only at ol0 ol1 ol2
      obtain ⟨wf, hN, d100, d101, d102, fr0, bN⟩ := put3_all (p := .float .f64 (tA (xs 0) (ys 0) (xs 1) (ys 1) (xs 2) (ys 2))) (q := .float .f64 (tX (xs 0) (ys 0) (xs 1) (ys 1) (xs 2) (ys 2))) (r := .float .f64 (tY (xs 0) (ys 0) (xs 1) (ys 1) (xs 2) (ys 2))) c100 c101 c102
      rw [← hN]
      replace BW := bN w BW (by omega)
      replace od0 := (fr0 (w.heap.size) 0 (.inl (by omega))).trans od0
      replace od1 := (fr0 (w.heap.size) 1 (.inl (by omega))).trans od1
      replace od2 := (fr0 (w.heap.size) 2 (.inl (by omega))).trans od2
      clear hN fr0 bN
      have k_p10_0 : wf.cell? ⟨p10, 0, none⟩ = some (.float .f64 (tA (xs 0) (ys 0) (xs 1) (ys 1) (xs 2) (ys 2))) := d100
      have k_p10_1 : wf.cell? ⟨p10, 1, none⟩ = some (.float .f64 (tX (xs 0) (ys 0) (xs 1) (ys 1) (xs 2) (ys 2))) := d101
      have k_p10_2 : wf.cell? ⟨p10, 2, none⟩ = some (.float .f64 (tY (xs 0) (ys 0) (xs 1) (ys 1) (xs 2) (ys 2))) := d102
      clear d100 d101 d102
      replace z0 := od0
      replace z1 := od1
      replace z2 := od2
      clear od0
      clear od1
      clear od2
      have l10 : p10 < wf.heap.size := World.block_lt_of_cell? wf _ k_p10_0
      have z_p10 := fun k => (BW.2 _).trans ((BW0.2 ⟨p10, k, none⟩).symm.trans (f10 k))
      have B := hide BW
      clear BW BW0 hJ h10 f10 e0 e1 e2 e3 e4 e5 e6 e7 e8 e9 e10
      have n10 : w.heap.size ≤ p10 := Nat.le_trans Bw.size n10
      have Bf := unhide B
      clear B
      go_wp2
      go_loopw [6] (fun i' wr => ∃ j k : Nat, k + 2 = j ∧ j + 1 ≤ n ∧ i' = .int .i64 j ∧ Bel w wr ∧ wr.cell? ⟨p10, 0, none⟩ = some (.float .f64 (sA xs ys k)) ∧ wr.cell? ⟨p10, 1, none⟩ = some (.float .f64 (sX xs ys k)) ∧ wr.cell? ⟨p10, 2, none⟩ = some (.float .f64 (sY xs ys k)) ∧ wr.cell? ⟨w.heap.size, 0, none⟩ = some (.float .f64 0) ∧ wr.cell? ⟨w.heap.size, 1, none⟩ = some (.float .f64 0) ∧ wr.cell? ⟨w.heap.size, 2, none⟩ = some (.float .f64 0)) (fun i' _ => n - (intOf i').toNat)
      case atStart => exact ⟨2, 0, rfl, by omega, rfl, Bf, k_p10_0, k_p10_1, k_p10_2, z0, z1, z2⟩
      case round =>
        clear k_p10_0 k_p10_1 k_p10_2 z0 z1 z2 z_p10
        obtain ⟨j, k, hjk, hj, rfl, hB, d0, d1, d2, z0, z1, z2⟩ := hrel
        have wn : IntKind.wrap .i64 ((n : Int) - 1) = (n : Int) - 1 := by rw [IntKind.wrap_i64]; omega
        have lp := World.block_lt_of_cell? wr _ d0
        simp only at lp
        have FP := fun o => (hB.2 ⟨p10, o, none⟩).trans (fresh_frozen (i := o) n10)
        have FH := fun o => (hB.2 ⟨w.heap.size, o, none⟩).trans (fresh_frozen (i := o) (Nat.le_refl _))
        obtain ⟨sb1, sb2, sb3⟩ := s_bd g k (by omega) (by omega)
        by_cases hlt : j + 1 < n
        · have j1 : (j : Int) < (n : Int) - 1 := by omega
          have j2 : (j : Int) < (n : Int) := by omega
          have j3 : (0 : Int) ≤ (j : Int) + 1 := by omega
          have j4 : (j : Int) + 1 < (n : Int) := by omega
          have j5 : ((j : Int) + 1).toNat = j + 1 := by omega
          have wj : IntKind.wrap .i64 ((j : Int) + 1) = (j : Int) + 1 := by rw [IntKind.wrap_i64]; omega
          obtain ⟨v0, v1⟩ := g j (by omega)
          obtain ⟨v2, v3⟩ := g (j + 1) (by omega)
          have hs2 := hs.bel hB
          go_wp2
          refine wp_region_multiA 14 (fun i v => match i with | 0 => v = .slice (some ⟨b, off, none⟩) n cap | 1 => v = .pointer (some ⟨b, off, none⟩) | 2 => v = .agg #[.float .f64 (xs 0), .float .f64 (ys 0)] | 3 => v = .slice (some ⟨b, off, none⟩) n cap | 4 => v = .int .i64 (j : Int) | 5 => v = .pointer (some ⟨b, off + j * 2, none⟩) | 6 => v = .agg #[.float .f64 (xs j), .float .f64 (ys j)] | 7 => v = .slice (some ⟨b, off, none⟩) n cap | 8 => v = .int .i64 (j : Int) | 9 => v = .int .i64 ((j : Int) + 1) | 10 => v = .pointer (some ⟨b, off + (j + 1) * 2, none⟩) | 11 => v = .agg #[.float .f64 (xs (j + 1)), .float .f64 (ys (j + 1))] | 12 => v = .agg #[.float .f64 (tA (xs 0) (ys 0) (xs j) (ys j) (xs (j + 1)) (ys (j + 1))), .float .f64 (tX (xs 0) (ys 0) (xs j) (ys j) (xs (j + 1)) (ys (j + 1))), .float .f64 (tY (xs 0) (ys 0) (xs j) (ys j) (xs (j + 1)) (ys (j + 1)))] | 13 => ∃ b, v = .pointer (some ⟨b, 0, none⟩) | _ => False) (fun i => match i with | 13 => some (Obj.cells #[.float .f64 0, .float .f64 0, .float .f64 0] 80) | _ => none) ?A_wg (by kernel_rfl) (by kernel_rfl) ?hA_wg ?ha_wg ?hq_wg [14] rfl ?ht_wg
          case hA_wg =>
            intro s
            simp only [putL, dstO, Act.put, List.getElem?_toArray, List.getElem?_cons_zero, List.getElem?_cons_succ, Option.bind_some, List.setIfInBounds_toArray, List.set_cons_zero, List.set_cons_succ, if_true]
            all_goals exact rfl
          case ha_wg =>
            intro i o ob hi ho hal
            rcases (show i = 0 ∨ i = 1 ∨ i = 2 ∨ i = 3 ∨ i = 4 ∨ i = 5 ∨ i = 6 ∨ i = 7 ∨ i = 8 ∨ i = 9 ∨ i = 10 ∨ i = 11 ∨ i = 12 ∨ i = 13 by omega) with rfl | rfl | rfl | rfl | rfl | rfl | rfl | rfl | rfl | rfl | rfl | rfl | rfl | rfl
            · cases hal
            · cases hal
            · cases hal
            · cases hal
            · cases hal
            · cases hal
            · cases hal
            · cases hal
            · cases hal
            · cases hal
            · cases hal
            · cases hal
            · cases hal
            · cases ho; cases hal; exact ⟨fun v hv => ⟨_, hv.choose_spec.2⟩, ⟨_, _, rfl⟩, fun A W => by go_simp⟩
          case hq_wg =>
            intro i o hi ho hal s hs W hb K hK
            have a0 := keep hb (hs2 0 (by omega)).1; have c0 := keep hb (hs2 0 (by omega)).2; have a1 := keep hb (hs2 j (by omega)).1; have c1 := keep hb (hs2 j (by omega)).2; have a2 := keep hb (hs2 (j + 1) (by omega)).1; have c2 := keep hb (hs2 (j + 1) (by omega)).2; (try simp only [Nat.zero_mul, Nat.one_mul, Nat.add_zero] at a0 c0 a1 c1 a2 c2)
            rcases (show i = 0 ∨ i = 1 ∨ i = 2 ∨ i = 3 ∨ i = 4 ∨ i = 5 ∨ i = 6 ∨ i = 7 ∨ i = 8 ∨ i = 9 ∨ i = 10 ∨ i = 11 ∨ i = 12 ∨ i = 13 by omega) with rfl | rfl | rfl | rfl | rfl | rfl | rfl | rfl | rfl | rfl | rfl | rfl | rfl | rfl
            · cases ho
              simp only [Act.put, List.setIfInBounds_toArray, List.set_cons_zero, List.set_cons_succ] at hK
              clear hs
              go_simp
              all_goals (try go_wp2_with (first | (go_at_call 64; refine (triangle_d _ _ _ _ _ _ _ (by with_reducible assumption) (by with_reducible assumption) (by with_reducible assumption) (by with_reducible assumption) (by with_reducible assumption) (by with_reducible assumption)).mono ?_; rintro e w1 ⟨rfl, hb1⟩)))
              all_goals first | exact hK.out _ _ rfl (bl_refl _) | exact hK.out _ _ rfl (by assumption) | exact hK.out _ _ (by assumption) (by assumption)
            · cases ho
              have e0 : s 0 = _ := hs 0 (by decide) (by kernel_rfl)
              simp only [e0] at hK ⊢
              simp only [Act.put, List.setIfInBounds_toArray, List.set_cons_zero, List.set_cons_succ] at hK
              clear hs
              go_simp
              all_goals (try go_wp2_with (first | (go_at_call 64; refine (triangle_d _ _ _ _ _ _ _ (by with_reducible assumption) (by with_reducible assumption) (by with_reducible assumption) (by with_reducible assumption) (by with_reducible assumption) (by with_reducible assumption)).mono ?_; rintro e w1 ⟨rfl, hb1⟩)))
              all_goals first | exact hK.out _ _ rfl (bl_refl _) | exact hK.out _ _ rfl (by assumption) | exact hK.out _ _ (by assumption) (by assumption)
            · cases ho
              have e1 : s 1 = _ := hs 1 (by decide) (by kernel_rfl)
              simp only [e1] at hK ⊢
              simp only [Act.put, List.setIfInBounds_toArray, List.set_cons_zero, List.set_cons_succ] at hK
              clear hs
              go_simp
              all_goals (try go_wp2_with (first | (go_at_call 64; refine (triangle_d _ _ _ _ _ _ _ (by with_reducible assumption) (by with_reducible assumption) (by with_reducible assumption) (by with_reducible assumption) (by with_reducible assumption) (by with_reducible assumption)).mono ?_; rintro e w1 ⟨rfl, hb1⟩)))
              all_goals first | exact hK.out _ _ rfl (bl_refl _) | exact hK.out _ _ rfl (by assumption) | exact hK.out _ _ (by assumption) (by assumption)
            · cases ho
              simp only [Act.put, List.setIfInBounds_toArray, List.set_cons_zero, List.set_cons_succ] at hK
              clear hs
              go_simp
              all_goals (try go_wp2_with (first | (go_at_call 64; refine (triangle_d _ _ _ _ _ _ _ (by with_reducible assumption) (by with_reducible assumption) (by with_reducible assumption) (by with_reducible assumption) (by with_reducible assumption) (by with_reducible assumption)).mono ?_; rintro e w1 ⟨rfl, hb1⟩)))
              all_goals first | exact hK.out _ _ rfl (bl_refl _) | exact hK.out _ _ rfl (by assumption) | exact hK.out _ _ (by assumption) (by assumption)
            · cases ho
              simp only [Act.put, List.setIfInBounds_toArray, List.set_cons_zero, List.set_cons_succ] at hK
              clear hs
              go_simp
              all_goals (try go_wp2_with (first | (go_at_call 64; refine (triangle_d _ _ _ _ _ _ _ (by with_reducible assumption) (by with_reducible assumption) (by with_reducible assumption) (by with_reducible assumption) (by with_reducible assumption) (by with_reducible assumption)).mono ?_; rintro e w1 ⟨rfl, hb1⟩)))
              all_goals first | exact hK.out _ _ rfl (bl_refl _) | exact hK.out _ _ rfl (by assumption) | exact hK.out _ _ (by assumption) (by assumption)
            · cases ho
              have e3 : s 3 = _ := hs 3 (by decide) (by kernel_rfl)
              have e4 : s 4 = _ := hs 4 (by decide) (by kernel_rfl)
              simp only [e3, e4] at hK ⊢
              simp only [Act.put, List.setIfInBounds_toArray, List.set_cons_zero, List.set_cons_succ] at hK
              clear hs
              go_simp
              all_goals (try go_wp2_with (first | (go_at_call 64; refine (triangle_d _ _ _ _ _ _ _ (by with_reducible assumption) (by with_reducible assumption) (by with_reducible assumption) (by with_reducible assumption) (by with_reducible assumption) (by with_reducible assumption)).mono ?_; rintro e w1 ⟨rfl, hb1⟩)))
              all_goals first | exact hK.out _ _ rfl (bl_refl _) | exact hK.out _ _ rfl (by assumption) | exact hK.out _ _ (by assumption) (by assumption)
            · cases ho
              have e5 : s 5 = _ := hs 5 (by decide) (by kernel_rfl)
              simp only [e5] at hK ⊢
              simp only [Act.put, List.setIfInBounds_toArray, List.set_cons_zero, List.set_cons_succ] at hK
              clear hs
              go_simp
              all_goals (try go_wp2_with (first | (go_at_call 64; refine (triangle_d _ _ _ _ _ _ _ (by with_reducible assumption) (by with_reducible assumption) (by with_reducible assumption) (by with_reducible assumption) (by with_reducible assumption) (by with_reducible assumption)).mono ?_; rintro e w1 ⟨rfl, hb1⟩)))
              all_goals first | exact hK.out _ _ rfl (bl_refl _) | exact hK.out _ _ rfl (by assumption) | exact hK.out _ _ (by assumption) (by assumption)
            · cases ho
              simp only [Act.put, List.setIfInBounds_toArray, List.set_cons_zero, List.set_cons_succ] at hK
              clear hs
              go_simp
              all_goals (try go_wp2_with (first | (go_at_call 64; refine (triangle_d _ _ _ _ _ _ _ (by with_reducible assumption) (by with_reducible assumption) (by with_reducible assumption) (by with_reducible assumption) (by with_reducible assumption) (by with_reducible assumption)).mono ?_; rintro e w1 ⟨rfl, hb1⟩)))
              all_goals first | exact hK.out _ _ rfl (bl_refl _) | exact hK.out _ _ rfl (by assumption) | exact hK.out _ _ (by assumption) (by assumption)
            · cases ho
              simp only [Act.put, List.setIfInBounds_toArray, List.set_cons_zero, List.set_cons_succ] at hK
              clear hs
              go_simp
              all_goals (try go_wp2_with (first | (go_at_call 64; refine (triangle_d _ _ _ _ _ _ _ (by with_reducible assumption) (by with_reducible assumption) (by with_reducible assumption) (by with_reducible assumption) (by with_reducible assumption) (by with_reducible assumption)).mono ?_; rintro e w1 ⟨rfl, hb1⟩)))
              all_goals first | exact hK.out _ _ rfl (bl_refl _) | exact hK.out _ _ rfl (by assumption) | exact hK.out _ _ (by assumption) (by assumption)
            · cases ho
              have e8 : s 8 = _ := hs 8 (by decide) (by kernel_rfl)
              simp only [e8] at hK ⊢
              simp only [Act.put, List.setIfInBounds_toArray, List.set_cons_zero, List.set_cons_succ] at hK
              clear hs
              go_simp
              all_goals (try go_wp2_with (first | (go_at_call 64; refine (triangle_d _ _ _ _ _ _ _ (by with_reducible assumption) (by with_reducible assumption) (by with_reducible assumption) (by with_reducible assumption) (by with_reducible assumption) (by with_reducible assumption)).mono ?_; rintro e w1 ⟨rfl, hb1⟩)))
              all_goals first | exact hK.out _ _ rfl (bl_refl _) | exact hK.out _ _ rfl (by assumption) | exact hK.out _ _ (by assumption) (by assumption)
            · cases ho
              have e7 : s 7 = _ := hs 7 (by decide) (by kernel_rfl)
              have e9 : s 9 = _ := hs 9 (by decide) (by kernel_rfl)
              simp only [e7, e9] at hK ⊢
              simp only [Act.put, List.setIfInBounds_toArray, List.set_cons_zero, List.set_cons_succ] at hK
              clear hs
              go_simp
              all_goals (try go_wp2_with (first | (go_at_call 64; refine (triangle_d _ _ _ _ _ _ _ (by with_reducible assumption) (by with_reducible assumption) (by with_reducible assumption) (by with_reducible assumption) (by with_reducible assumption) (by with_reducible assumption)).mono ?_; rintro e w1 ⟨rfl, hb1⟩)))
              all_goals first | exact hK.out _ _ rfl (bl_refl _) | exact hK.out _ _ rfl (by assumption) | exact hK.out _ _ (by assumption) (by assumption)
            · cases ho
              have e10 : s 10 = _ := hs 10 (by decide) (by kernel_rfl)
              simp only [e10] at hK ⊢
              simp only [Act.put, List.setIfInBounds_toArray, List.set_cons_zero, List.set_cons_succ] at hK
              clear hs
              go_simp
              all_goals (try go_wp2_with (first | (go_at_call 64; refine (triangle_d _ _ _ _ _ _ _ (by with_reducible assumption) (by with_reducible assumption) (by with_reducible assumption) (by with_reducible assumption) (by with_reducible assumption) (by with_reducible assumption)).mono ?_; rintro e w1 ⟨rfl, hb1⟩)))
              all_goals first | exact hK.out _ _ rfl (bl_refl _) | exact hK.out _ _ rfl (by assumption) | exact hK.out _ _ (by assumption) (by assumption)
            · cases ho
              have e2 : s 2 = _ := hs 2 (by decide) (by kernel_rfl)
              have e6 : s 6 = _ := hs 6 (by decide) (by kernel_rfl)
              have e11 : s 11 = _ := hs 11 (by decide) (by kernel_rfl)
              simp only [e2, e6, e11] at hK ⊢
              simp only [Act.put, List.setIfInBounds_toArray, List.set_cons_zero, List.set_cons_succ] at hK
              clear hs
              go_simp
              all_goals (try go_wp2_with (first | (go_at_call 64; refine (triangle_d _ _ _ _ _ _ _ (by with_reducible assumption) (by with_reducible assumption) (by with_reducible assumption) (by with_reducible assumption) (by with_reducible assumption) (by with_reducible assumption)).mono ?_; rintro e w1 ⟨rfl, hb1⟩)))
              all_goals first | exact hK.out _ _ rfl (bl_refl _) | exact hK.out _ _ rfl (by assumption) | exact hK.out _ _ (by assumption) (by assumption)
            · cases hal
          case ht_wg =>
            intro s hs W hb hJ
            have e0 : s 0 = _ := hs 0 (by decide)
            have e1 : s 1 = _ := hs 1 (by decide)
            have e2 : s 2 = _ := hs 2 (by decide)
            have e3 : s 3 = _ := hs 3 (by decide)
            have e4 : s 4 = _ := hs 4 (by decide)
            have e5 : s 5 = _ := hs 5 (by decide)
            have e6 : s 6 = _ := hs 6 (by decide)
            have e7 : s 7 = _ := hs 7 (by decide)
            have e8 : s 8 = _ := hs 8 (by decide)
            have e9 : s 9 = _ := hs 9 (by decide)
            have e10 : s 10 = _ := hs 10 (by decide)
            have e11 : s 11 = _ := hs 11 (by decide)
            have e12 : s 12 = _ := hs 12 (by decide)
            obtain ⟨p13, e13, n13, h13⟩ := laid_at hJ 13 (by decide) rfl
            have c130 : W.cell? ⟨p13, 0, none⟩ = some (.float .f64 0) := heap_cell h13 rfl
            have c131 : W.cell? ⟨p13, 1, none⟩ = some (.float .f64 0) := heap_cell h13 rfl
            have c132 : W.cell? ⟨p13, 2, none⟩ = some (.float .f64 0) := heap_cell h13 rfl
            have f13 := fun k => heap_frozen (i := k) h13
            simp only [e0, e1, e2, e3, e4, e5, e6, e7, e8, e9, e10, e11, e12, e13]
            clear hs
            refine tail_step rfl (fun K hK => ?_)
            go_simp
            refine hK.out _ _ ?_
            clear hK K
            refine tail_end ?_
            (try simp at n13)
            have BW : Bel w W := by refine bl_trans (b := _) ?_ hb; repeat (first | exact hB | apply bl_alloc | apply bl_drew)
            have BW0 := BW
            have ol0 := World.block_lt_of_cell? _ _ z0
            have od0 := keep hb z0
            have ol1 := World.block_lt_of_cell? _ _ z1
            have od1 := keep hb z1
            have ol2 := World.block_lt_of_cell? _ _ z2
            have od2 := keep hb z2
            have ol3 := World.block_lt_of_cell? _ _ d0
            have od3 := keep hb d0
            have ol4 := World.block_lt_of_cell? _ _ d1
            have od4 := keep hb d1
            have ol5 := World.block_lt_of_cell? _ _ d2
            have od5 := keep hb d2
            simp only at ol0 ol1 ol2 ol3 ol4 ol5
            obtain ⟨wg, hN, d130, d131, d132, fr0, bN⟩ := put3_all (p := .float .f64 (tA (xs 0) (ys 0) (xs j) (ys j) (xs (j + 1)) (ys (j + 1)))) (q := .float .f64 (tX (xs 0) (ys 0) (xs j) (ys j) (xs (j + 1)) (ys (j + 1)))) (r := .float .f64 (tY (xs 0) (ys 0) (xs j) (ys j) (xs (j + 1)) (ys (j + 1)))) c130 c131 c132
            rw [← hN]
            replace BW := bN w BW (by omega)
            replace od0 := (fr0 (w.heap.size) 0 (.inl (by omega))).trans od0
            replace od1 := (fr0 (w.heap.size) 1 (.inl (by omega))).trans od1
            replace od2 := (fr0 (w.heap.size) 2 (.inl (by omega))).trans od2
            replace od3 := (fr0 (p10) 0 (.inl (by omega))).trans od3
            replace od4 := (fr0 (p10) 1 (.inl (by omega))).trans od4
            replace od5 := (fr0 (p10) 2 (.inl (by omega))).trans od5
            clear hN fr0 bN
            have k_p13_0 : wg.cell? ⟨p13, 0, none⟩ = some (.float .f64 (tA (xs 0) (ys 0) (xs j) (ys j) (xs (j + 1)) (ys (j + 1)))) := d130
            have k_p13_1 : wg.cell? ⟨p13, 1, none⟩ = some (.float .f64 (tX (xs 0) (ys 0) (xs j) (ys j) (xs (j + 1)) (ys (j + 1)))) := d131
            have k_p13_2 : wg.cell? ⟨p13, 2, none⟩ = some (.float .f64 (tY (xs 0) (ys 0) (xs j) (ys j) (xs (j + 1)) (ys (j + 1)))) := d132
            clear d130 d131 d132
            replace z0 := od0
            replace z1 := od1
            replace z2 := od2
            replace d0 := od3
            replace d1 := od4
            replace d2 := od5
            clear od0
            clear od1
            clear od2
            clear od3
            clear od4
            clear od5
            have l13 : p13 < wg.heap.size := World.block_lt_of_cell? wg _ k_p13_0
            have z_p13 := fun k => (BW.2 _).trans ((BW0.2 ⟨p13, k, none⟩).symm.trans (f13 k))
            have B := hide BW
            clear BW BW0 hJ h13 f13 e0 e1 e2 e3 e4 e5 e6 e7 e8 e9 e10 e11 e12 e13
            go_wp2
            obtain ⟨tb1, tb2, tb3⟩ := t_bd u0 u1 v0 v1 v2 v3
            have x1 := bd_mono sb2 (n := 300) (by omega)
            have x2 := bd_mono sb3 (n := 300) (by omega)
            have x3 := bd_mono tb2 (n := 300) (by omega)
            have x4 := bd_mono tb3 (n := 300) (by omega)
            have qa := fun t W => run_add_dv Try.prog t (sA xs ys k) (tA (xs 0) (ys 0) (xs j) (ys j) (xs (j + 1)) (ys (j + 1))) W sb1.2.1 tb1.2.1
            have Bg := unhide B
            have FG := fun o => (Bg.2 ⟨p10, o, none⟩).trans (fresh_frozen (i := o) n10)
            have lg := World.block_lt_of_cell? wg _ d0
            simp only at lg
            clear B z_p13
            refine wp_region_multiA 11 (fun i v => match i with | 0 => v = .pointer (some ⟨p10, 0, none⟩) | 1 => v = .float .f64 (sA xs ys k) | 2 => v = .pointer (some ⟨p13, 0, none⟩) | 3 => v = .float .f64 (tA (xs 0) (ys 0) (xs j) (ys j) (xs (j + 1)) (ys (j + 1))) | 4 => v = .float .f64 (Dv .add (sA xs ys k) (tA (xs 0) (ys 0) (xs j) (ys j) (xs (j + 1)) (ys (j + 1)))) | 5 => v = .pointer (some ⟨p10, 1, none⟩) | 6 => v = .agg #[.float .f64 (sX xs ys k), .float .f64 (sY xs ys k)] | 7 => v = .pointer (some ⟨p13, 1, none⟩) | 8 => v = .agg #[.float .f64 (tX (xs 0) (ys 0) (xs j) (ys j) (xs (j + 1)) (ys (j + 1))), .float .f64 (tY (xs 0) (ys 0) (xs j) (ys j) (xs (j + 1)) (ys (j + 1)))] | 9 => v = .agg #[.float .f64 (Dv .add (sX xs ys k) (tX (xs 0) (ys 0) (xs j) (ys j) (xs (j + 1)) (ys (j + 1)))), .float .f64 (Dv .add (sY xs ys k) (tY (xs 0) (ys 0) (xs j) (ys j) (xs (j + 1)) (ys (j + 1))))] | 10 => v = .agg #[.float .f64 (Dv .add (sA xs ys k) (tA (xs 0) (ys 0) (xs j) (ys j) (xs (j + 1)) (ys (j + 1)))), .float .f64 (Dv .add (sX xs ys k) (tX (xs 0) (ys 0) (xs j) (ys j) (xs (j + 1)) (ys (j + 1)))), .float .f64 (Dv .add (sY xs ys k) (tY (xs 0) (ys 0) (xs j) (ys j) (xs (j + 1)) (ys (j + 1))))] | _ => False) (fun i => match i with  | _ => none) ?A_wh (by kernel_rfl) (by kernel_rfl) ?hA_wh ?ha_wh ?hq_wh [11] rfl ?ht_wh
            case hA_wh =>
              intro s
              simp only [putL, dstO, Act.put, List.getElem?_toArray, List.getElem?_cons_zero, List.getElem?_cons_succ, Option.bind_some, List.setIfInBounds_toArray, List.set_cons_zero, List.set_cons_succ, if_true]
              all_goals exact rfl
            case ha_wh =>
              intro i o ob hi ho hal
              rcases (show i = 0 ∨ i = 1 ∨ i = 2 ∨ i = 3 ∨ i = 4 ∨ i = 5 ∨ i = 6 ∨ i = 7 ∨ i = 8 ∨ i = 9 ∨ i = 10 by omega) with rfl | rfl | rfl | rfl | rfl | rfl | rfl | rfl | rfl | rfl | rfl
              · cases hal
              · cases hal
              · cases hal
              · cases hal
              · cases hal
              · cases hal
              · cases hal
              · cases hal
              · cases hal
              · cases hal
              · cases hal
            case hq_wh =>
              intro i o hi ho hal s hs W hb K hK
              have y0 := keep hb d0; have y3 := keep hb k_p13_0; have y1 := keep hb d1; have y4 := keep hb k_p13_1; have y2 := keep hb d2; have y5 := keep hb k_p13_2
              rcases (show i = 0 ∨ i = 1 ∨ i = 2 ∨ i = 3 ∨ i = 4 ∨ i = 5 ∨ i = 6 ∨ i = 7 ∨ i = 8 ∨ i = 9 ∨ i = 10 by omega) with rfl | rfl | rfl | rfl | rfl | rfl | rfl | rfl | rfl | rfl | rfl
              · cases ho
                simp only [Act.put, List.setIfInBounds_toArray, List.set_cons_zero, List.set_cons_succ] at hK
                clear hs
                go_simp
                all_goals (try go_wp2_with (first | (go_at_call 60; refine (vAdd_d _ (by with_reducible assumption) (by with_reducible assumption) (by with_reducible assumption) (by with_reducible assumption)).mono ?_; rintro e w1 ⟨rfl, hb1⟩)))
                all_goals first | exact hK.out _ _ rfl (bl_refl _) | exact hK.out _ _ rfl (by assumption) | exact hK.out _ _ (by assumption) (by assumption)
              · cases ho
                have e0 : s 0 = _ := hs 0 (by decide) (by kernel_rfl)
                simp only [e0] at hK ⊢
                simp only [Act.put, List.setIfInBounds_toArray, List.set_cons_zero, List.set_cons_succ] at hK
                clear hs
                go_simp
                all_goals (try go_wp2_with (first | (go_at_call 60; refine (vAdd_d _ (by with_reducible assumption) (by with_reducible assumption) (by with_reducible assumption) (by with_reducible assumption)).mono ?_; rintro e w1 ⟨rfl, hb1⟩)))
                all_goals first | exact hK.out _ _ rfl (bl_refl _) | exact hK.out _ _ rfl (by assumption) | exact hK.out _ _ (by assumption) (by assumption)
              · cases ho
                simp only [Act.put, List.setIfInBounds_toArray, List.set_cons_zero, List.set_cons_succ] at hK
                clear hs
                go_simp
                all_goals (try go_wp2_with (first | (go_at_call 60; refine (vAdd_d _ (by with_reducible assumption) (by with_reducible assumption) (by with_reducible assumption) (by with_reducible assumption)).mono ?_; rintro e w1 ⟨rfl, hb1⟩)))
                all_goals first | exact hK.out _ _ rfl (bl_refl _) | exact hK.out _ _ rfl (by assumption) | exact hK.out _ _ (by assumption) (by assumption)
              · cases ho
                have e2 : s 2 = _ := hs 2 (by decide) (by kernel_rfl)
                simp only [e2] at hK ⊢
                simp only [Act.put, List.setIfInBounds_toArray, List.set_cons_zero, List.set_cons_succ] at hK
                clear hs
                go_simp
                all_goals (try go_wp2_with (first | (go_at_call 60; refine (vAdd_d _ (by with_reducible assumption) (by with_reducible assumption) (by with_reducible assumption) (by with_reducible assumption)).mono ?_; rintro e w1 ⟨rfl, hb1⟩)))
                all_goals first | exact hK.out _ _ rfl (bl_refl _) | exact hK.out _ _ rfl (by assumption) | exact hK.out _ _ (by assumption) (by assumption)
              · cases ho
                have e1 : s 1 = _ := hs 1 (by decide) (by kernel_rfl)
                have e3 : s 3 = _ := hs 3 (by decide) (by kernel_rfl)
                simp only [e1, e3] at hK ⊢
                simp only [Act.put, List.setIfInBounds_toArray, List.set_cons_zero, List.set_cons_succ] at hK
                clear hs
                go_simp
                all_goals (try go_wp2_with (first | (go_at_call 60; refine (vAdd_d _ (by with_reducible assumption) (by with_reducible assumption) (by with_reducible assumption) (by with_reducible assumption)).mono ?_; rintro e w1 ⟨rfl, hb1⟩)))
                all_goals first | exact hK.out _ _ rfl (bl_refl _) | exact hK.out _ _ rfl (by assumption) | exact hK.out _ _ (by assumption) (by assumption)
              · cases ho
                simp only [Act.put, List.setIfInBounds_toArray, List.set_cons_zero, List.set_cons_succ] at hK
                clear hs
                go_simp
                all_goals (try go_wp2_with (first | (go_at_call 60; refine (vAdd_d _ (by with_reducible assumption) (by with_reducible assumption) (by with_reducible assumption) (by with_reducible assumption)).mono ?_; rintro e w1 ⟨rfl, hb1⟩)))
                all_goals first | exact hK.out _ _ rfl (bl_refl _) | exact hK.out _ _ rfl (by assumption) | exact hK.out _ _ (by assumption) (by assumption)
              · cases ho
                have e5 : s 5 = _ := hs 5 (by decide) (by kernel_rfl)
                simp only [e5] at hK ⊢
                simp only [Act.put, List.setIfInBounds_toArray, List.set_cons_zero, List.set_cons_succ] at hK
                clear hs
                go_simp
                all_goals (try go_wp2_with (first | (go_at_call 60; refine (vAdd_d _ (by with_reducible assumption) (by with_reducible assumption) (by with_reducible assumption) (by with_reducible assumption)).mono ?_; rintro e w1 ⟨rfl, hb1⟩)))
                all_goals first | exact hK.out _ _ rfl (bl_refl _) | exact hK.out _ _ rfl (by assumption) | exact hK.out _ _ (by assumption) (by assumption)
              · cases ho
                simp only [Act.put, List.setIfInBounds_toArray, List.set_cons_zero, List.set_cons_succ] at hK
                clear hs
                go_simp
                all_goals (try go_wp2_with (first | (go_at_call 60; refine (vAdd_d _ (by with_reducible assumption) (by with_reducible assumption) (by with_reducible assumption) (by with_reducible assumption)).mono ?_; rintro e w1 ⟨rfl, hb1⟩)))
                all_goals first | exact hK.out _ _ rfl (bl_refl _) | exact hK.out _ _ rfl (by assumption) | exact hK.out _ _ (by assumption) (by assumption)
              · cases ho
                have e7 : s 7 = _ := hs 7 (by decide) (by kernel_rfl)
                simp only [e7] at hK ⊢
                simp only [Act.put, List.setIfInBounds_toArray, List.set_cons_zero, List.set_cons_succ] at hK
                clear hs
                go_simp
                all_goals (try go_wp2_with (first | (go_at_call 60; refine (vAdd_d _ (by with_reducible assumption) (by with_reducible assumption) (by with_reducible assumption) (by with_reducible assumption)).mono ?_; rintro e w1 ⟨rfl, hb1⟩)))
                all_goals first | exact hK.out _ _ rfl (bl_refl _) | exact hK.out _ _ rfl (by assumption) | exact hK.out _ _ (by assumption) (by assumption)
              · cases ho
                have e6 : s 6 = _ := hs 6 (by decide) (by kernel_rfl)
                have e8 : s 8 = _ := hs 8 (by decide) (by kernel_rfl)
                simp only [e6, e8] at hK ⊢
                simp only [Act.put, List.setIfInBounds_toArray, List.set_cons_zero, List.set_cons_succ] at hK
                clear hs
                go_simp
                all_goals (try go_wp2_with (first | (go_at_call 60; refine (vAdd_d _ (by with_reducible assumption) (by with_reducible assumption) (by with_reducible assumption) (by with_reducible assumption)).mono ?_; rintro e w1 ⟨rfl, hb1⟩)))
                all_goals first | exact hK.out _ _ rfl (bl_refl _) | exact hK.out _ _ rfl (by assumption) | exact hK.out _ _ (by assumption) (by assumption)
              · cases ho
                have e4 : s 4 = _ := hs 4 (by decide) (by kernel_rfl)
                have e9 : s 9 = _ := hs 9 (by decide) (by kernel_rfl)
                simp only [e4, e9] at hK ⊢
                simp only [Act.put, List.setIfInBounds_toArray, List.set_cons_zero, List.set_cons_succ] at hK
                clear hs
                go_simp
                all_goals (try go_wp2_with (first | (go_at_call 60; refine (vAdd_d _ (by with_reducible assumption) (by with_reducible assumption) (by with_reducible assumption) (by with_reducible assumption)).mono ?_; rintro e w1 ⟨rfl, hb1⟩)))
                all_goals first | exact hK.out _ _ rfl (bl_refl _) | exact hK.out _ _ rfl (by assumption) | exact hK.out _ _ (by assumption) (by assumption)
            case ht_wh =>
              intro s hs W hb hJ
              have e0 : s 0 = _ := hs 0 (by decide)
              have e1 : s 1 = _ := hs 1 (by decide)
              have e2 : s 2 = _ := hs 2 (by decide)
              have e3 : s 3 = _ := hs 3 (by decide)
              have e4 : s 4 = _ := hs 4 (by decide)
              have e5 : s 5 = _ := hs 5 (by decide)
              have e6 : s 6 = _ := hs 6 (by decide)
              have e7 : s 7 = _ := hs 7 (by decide)
              have e8 : s 8 = _ := hs 8 (by decide)
              have e9 : s 9 = _ := hs 9 (by decide)
              have e10 : s 10 = _ := hs 10 (by decide)
              simp only [e0, e1, e2, e3, e4, e5, e6, e7, e8, e9, e10]
              clear hs
              have y0 := keep hb d0; have y3 := keep hb k_p13_0; have y1 := keep hb d1; have y4 := keep hb k_p13_1; have y2 := keep hb d2; have y5 := keep hb k_p13_2; have FQ := fun o => (hb.2 ⟨p10, o, none⟩).trans (FG o); have lq := Nat.lt_of_lt_of_le lg hb.size
              refine tail_step rfl (fun K hK => ?_)
              go_simp
              refine hK.out _ _ ?_
              clear hK K
              refine tail_end ?_
              have BB := bl_trans Bg hb
              obtain ⟨R0, R1, R2⟩ := set3 (p := .float .f64 (Dv .add (sA xs ys k) (tA (xs 0) (ys 0) (xs j) (ys j) (xs (j + 1)) (ys (j + 1))))) (q := .float .f64 (Dv .add (sX xs ys k) (tX (xs 0) (ys 0) (xs j) (ys j) (xs (j + 1)) (ys (j + 1))))) (r := .float .f64 (Dv .add (sY xs ys k) (tY (xs 0) (ys 0) (xs j) (ys j) (xs (j + 1)) (ys (j + 1))))) y0 y1 y2
              go_wp2
              refine ⟨⟨j + 1, k + 1, by omega, by omega, by go_num, ?_, ?_, ?_, ?_, ?_, ?_, ?_⟩, by simp [intOf]; omega⟩
              · repeat (first | exact BB | refine bl_set ?_ (by simp <;> omega))
              · rw [show sA xs ys (k + 1) = (Dv .add (sA xs ys k) (tA (xs 0) (ys 0) (xs j) (ys j) (xs (j + 1)) (ys (j + 1)))) by subst hjk; rfl]; exact R0
              · rw [show sX xs ys (k + 1) = (Dv .add (sX xs ys k) (tX (xs 0) (ys 0) (xs j) (ys j) (xs (j + 1)) (ys (j + 1)))) by subst hjk; rfl]; exact R1
              · rw [show sY xs ys (k + 1) = (Dv .add (sY xs ys k) (tY (xs 0) (ys 0) (xs j) (ys j) (xs (j + 1)) (ys (j + 1)))) by subst hjk; rfl]; exact R2
              · exact up_set2 (by omega) (up_set2 (by omega) (up_set2 (by omega) (keep hb z0)))
              · exact up_set2 (by omega) (up_set2 (by omega) (up_set2 (by omega) (keep hb z1)))
              · exact up_set2 (by omega) (up_set2 (by omega) (up_set2 (by omega) (keep hb z2)))
        · have j1 : ¬ (j : Int) < (n : Int) - 1 := by omega
          have hk : n - 3 = k := by omega
          cases hw : ltK .f64 0 (sA xs ys k)
          · have e0 : fanE xs ys n = 61 := by unfold fanE; rw [if_pos hz, hk, hw]; rfl
            go_wp2
            obtain ⟨R0, R1, R2⟩ := set3 (p := .float .f64 0) (q := .float .f64 0) (r := .float .f64 0) z0 z1 z2
            refine bodyPost_ret (v := .tuple #[.agg #[.float .f64 0, .float .f64 0, .float .f64 0], .int .i64 61]) (by simp [R0, R1, R2, results, Try.results59, go_sem] <;> (first | exact ⟨⟨rfl, rfl⟩, rfl⟩ | exact ⟨rfl, rfl, rfl, rfl⟩ | exact ⟨rfl, rfl, rfl⟩ | exact ⟨rfl, rfl⟩ | rfl)) rfl ⟨by simp [fanA, fanX, fanY, e0], ?_⟩
            repeat (first | exact hB | refine bl_set ?_ (by simp <;> omega))
          · have e0 : fanE xs ys n = 0 := by unfold fanE; rw [if_pos hz, hk, hw]; rfl
            go_wp2
            obtain ⟨R0, R1, R2⟩ := set3 (p := .float .f64 (sA xs ys k)) (q := .float .f64 (sX xs ys k)) (r := .float .f64 (sY xs ys k)) z0 z1 z2
            refine bodyPost_ret (v := .tuple #[.agg #[.float .f64 (sA xs ys k), .float .f64 (sX xs ys k), .float .f64 (sY xs ys k)], .int .i64 0]) (by simp [R0, R1, R2, results, Try.results59, go_sem] <;> (first | exact ⟨⟨rfl, rfl⟩, rfl⟩ | exact ⟨rfl, rfl, rfl, rfl⟩ | exact ⟨rfl, rfl, rfl⟩ | exact ⟨rfl, rfl⟩ | rfl)) rfl ⟨by simp [fanA, fanX, fanY, e0, hk], ?_⟩
            repeat (first | exact hB | refine bl_set ?_ (by simp <;> omega))
  · obtain ⟨v, hv⟩ : ∃ v, chkE xs ys n = v := ⟨_, rfl⟩
    have e0 : fanE xs ys n = v := by unfold fanE; rw [if_neg hz, hv]
    rw [hv] at hz
    go_enter Try.func59, Try.ntmps59
    go_wp2_with (first | (go_at_call 63; refine (chk_some _ _ _ _ _ _ _ (hs.bel (bl_alloc (bl_refl w) _ _)) o hp hn hcap).mono ?_; rintro e w' ⟨rfl, hb⟩; rw [hv]; obtain ⟨hc, hf⟩ := bcell hb; have hy := hb.size; (try simp at hy)))
    refine bodyPost_ret (v := .tuple #[.agg #[.float .f64 0, .float .f64 0, .float .f64 0], .int .i64 v]) (by simp [hc, results, Try.results59, go_sem] <;> (first | exact ⟨⟨rfl, rfl⟩, rfl⟩ | exact ⟨rfl, rfl, rfl, rfl⟩ | exact ⟨rfl, rfl, rfl⟩ | exact ⟨rfl, rfl⟩ | rfl)) rfl ⟨by rw [e0]; simp [fanA, fanX, fanY, e0, hz], ?_⟩
    repeat (first | exact bl_refl _ | assumption | apply bl_drewN | apply bl_drew | apply bl_alloc | refine bl_set ?_ (by simp <;> omega) | refine bl_trans ?_ (by assumption))
theorem area_none (v : Option Addr) (cap : Nat) (xs ys : Nat → Nat) (w : World) : Calls Try.prog 53 #[.slice v 0 cap] w fun e w' => e = .returned (.tuple #[.float .f64 0, .int .i64 60]) ∧ Bel w w' := by
  have qm := fun t W => run_mul_dv Try.prog t 0 4602678819172646912 W (by decide +kernel) (by decide +kernel)
  have em : Dv .mul 0 4602678819172646912 = 0 := by decide +kernel
  go_enter Try.func53, Try.ntmps53
  go_wp2_with (first | (go_at_call 59; refine (fanOf_none _ _ xs ys _).mono ?_; rintro e w' ⟨rfl, hb⟩))
  refine bodyPost_ret (v := .tuple #[.float .f64 0, .int .i64 60]) (by simp [em, results, Try.results53, go_sem] <;> (first | exact ⟨⟨rfl, rfl⟩, rfl⟩ | exact ⟨rfl, rfl, rfl, rfl⟩ | exact ⟨rfl, rfl, rfl⟩ | exact ⟨rfl, rfl⟩ | rfl)) rfl ⟨rfl, ?_⟩
  repeat (first | exact bl_refl _ | assumption | apply bl_drewN | apply bl_drew | apply bl_alloc | refine bl_set ?_ (by simp <;> omega) | refine bl_trans ?_ (by assumption))
def areaE (xs ys : Nat → Nat) (n : Nat) : Nat := Dv .mul (fanA xs ys n) 4602678819172646912
theorem fan_bd {xs ys : Nat → Nat} {n : Nat} (o : Oks xs ys n) : Bd 300 (fanA xs ys n) ∧ Bd 300 (fanX xs ys n) ∧ Bd 300 (fanY xs ys n) := by
  by_cases h : fanE xs ys n = 0
  · have hc : chkE xs ys n = 0 := by
      unfold fanE at h
      split at h
      · assumption
      · exact h
    obtain ⟨g, h3, h64, _⟩ := chk_ok o hc
    obtain ⟨a, b, c⟩ := s_bd g (n - 3) (by omega) (by omega)
    unfold fanA fanX fanY
    rw [if_pos h, if_pos h, if_pos h]
    exact ⟨bd_mono a (by omega), bd_mono b (by omega), bd_mono c (by omega)⟩
  · unfold fanA fanX fanY
    rw [if_neg h, if_neg h, if_neg h]
    exact ⟨bd0 _, bd0 _, bd0 _⟩
theorem area_d (b off n cap : Nat) (xs ys : Nat → Nat) (w : World) (hs : Sl w b off n xs ys) (o : Oks xs ys n) (hp : 0 < n) (hn : n ≤ maxLen) (hcap : n ≤ cap) : Calls Try.prog 53 #[.slice (some ⟨b, off, none⟩) n cap] w fun e w' => e = .returned (.tuple #[.float .f64 (areaE xs ys n), .int .i64 (fanE xs ys n)]) ∧ Bel w w' := by
  have qm := fun t W => run_mul_dv Try.prog t (fanA xs ys n) 4602678819172646912 W (fan_bd o).1.2.1 (by decide +kernel)
  go_enter Try.func53, Try.ntmps53
  go_wp2_with (first | (go_at_call 59; refine (fanOf_d _ _ _ _ _ _ _ hs o hp hn hcap).mono ?_; rintro e w' ⟨rfl, hb⟩))
  refine bodyPost_ret (v := .tuple #[.float .f64 (areaE xs ys n), .int .i64 (fanE xs ys n)]) (by simp [results, Try.results53, go_sem] <;> (first | exact ⟨⟨rfl, rfl⟩, rfl⟩ | exact ⟨rfl, rfl, rfl, rfl⟩ | exact ⟨rfl, rfl, rfl⟩ | exact ⟨rfl, rfl⟩ | rfl)) rfl ⟨rfl, ?_⟩
  repeat (first | exact bl_refl _ | assumption | apply bl_drewN | apply bl_drew | apply bl_alloc | refine bl_set ?_ (by simp <;> omega) | refine bl_trans ?_ (by assumption))

end Go.Proofs.Ytoofbfjlgablkaa
