/-
  What each function of package poly answers, and what the reference of its chapter answers: one contract a function, for every float: the answer stands in the relation of its formula to what was given; of the memory that was there nothing has turned.
-/
import Derived.Test.YtfjlonnmhioleaaVec
import Derived.Test.YtfjlonnmhioleaaJm
import Derived.Below
import Derived.OwnWalk
import Derived.WalkKit
import Derived.WalkLawsBesides
import Derived.WalkSpells
import Derived.ProofKit
import Derived.OpenShut
import Derived.Deep.RegionHeld3
namespace Go.Proofs.Ytfjlonnmhioleaa
open Go.ChangeShapes Go.WideShapes Go.ChangeAt Go.RowKit
set_option linter.unusedVariables false
set_option linter.unusedSimpArgs false


set_option maxRecDepth 100000 in
set_option maxHeartbeats 8000000 in
theorem kw0_bad (kq sa ua sb ub : Int) (ax ay bx b_y ux uy rs rt : Nat) (mo : Bool) (sp mt : Nat) (li : Bool) (lo hi p0 p1 p2 : Nat) (oax : okK .f64 ax) (oay : okK .f64 ay) (obx : okK .f64 bx) (ob_y : okK .f64 b_y) (oux : okK .f64 ux) (ouy : okK .f64 uy) (ors : okK .f64 rs) (ort : okK .f64 rt) (osp : okK .f64 sp) (omt : okK .f64 mt) (olo : okK .f64 lo) (ohi : okK .f64 hi) (op0 : okK .f64 p0) (op1 : okK .f64 p1) (op2 : okK .f64 p2) (a1 : Option Addr) (b off cap : Nat) (Q : Nat → RD) (w : World) (hcap : 0 ≤ cap) (hmax : cap ≤ maxLen) (hS : Rws w b off 0 Q) (hO : ∀ i, i < 0 → rok (Q i)) (er : Int) (he : (jE kq sa sb ax ay bx b_y ux uy rs rt sp mt lo hi p0 p1 p2 li) = er) (h0 : er ≠ 0) : Calls Try.prog 4 #[.agg #[.int .u8 kq, .int .u32 sa, .int .u32 ua, .int .u32 sb, .int .u32 ub, .float .f64 ax, .float .f64 ay, .float .f64 bx, .float .f64 b_y, .float .f64 ux, .float .f64 uy, .float .f64 rs, .float .f64 rt, .bool mo, .float .f64 sp, .float .f64 mt, .bool li, .float .f64 lo, .float .f64 hi, .float .f64 p0, .float .f64 p1, .float .f64 p2], .slice a1 0 cap] w fun e w' => e = .returned (.bool true) ∧ Below w.heap.size w w' := by
  have hR11 : ∀ i, i < 0 → okK .f64 (Q i).r11 := fun i hi => (hO i hi).2.2.2.2.2.2.2.2.2.1
  have hJ0 := rng_new w [.int .u8 kq, .int .u32 sa, .int .u32 ua, .int .u32 sb, .int .u32 ub, .float .f64 ax, .float .f64 ay, .float .f64 bx, .float .f64 b_y, .float .f64 ux, .float .f64 uy, .float .f64 rs, .float .f64 rt, .bool mo, .float .f64 sp, .float .f64 mt, .bool li, .float .f64 lo, .float .f64 hi, .float .f64 p0, .float .f64 p1, .float .f64 p2] 30
  have B0 := bl_alloc (bl_refl w) #[.int .u8 kq, .int .u32 sa, .int .u32 ua, .int .u32 sb, .int .u32 ub, .float .f64 ax, .float .f64 ay, .float .f64 bx, .float .f64 b_y, .float .f64 ux, .float .f64 uy, .float .f64 rs, .float .f64 rt, .bool mo, .float .f64 sp, .float .f64 mt, .bool li, .float .f64 lo, .float .f64 hi, .float .f64 p0, .float .f64 p1, .float .f64 p2] 30
  have hnI := True.intro
  have m0 := True.intro
  go_enter Try.func4, Try.ntmps4
  repeat (first | (with_reducible show Oper.wp _ _ _ _ _ _; refine wp_build 36 _ rfl (.agg #[.int .i64 77, .int .i64 0, .float .f64 0, .float .f64 0, .float .f64 0, .float .f64 0, .float .f64 0, .float .f64 0, .float .f64 0, .float .f64 0, .float .f64 0, .float .f64 0, .int .i64 0, .float .f64 0]) (by kernel_rfl) ?_; simp only [go_sem]) | (have zn := m1; clear zn; at_builtin; refine wpList_appR (P := Try.prog) (sz := 14) (by_ := 112) (R := rowsL Q 0) (N := [.int .i64 77, .int .i64 0, .float .f64 0, .float .f64 0, .float .f64 0, .float .f64 0, .float .f64 0, .float .f64 0, .float .f64 0, .float .f64 0, .float .f64 0, .float .f64 0, .int .i64 0, .float .f64 0]) (base := (w.alloc (.cells #[.int .u8 kq, .int .u32 sa, .int .u32 ua, .int .u32 sb, .int .u32 ub, .float .f64 ax, .float .f64 ay, .float .f64 bx, .float .f64 b_y, .float .f64 ux, .float .f64 uy, .float .f64 rs, .float .f64 rt, .bool mo, .float .f64 sp, .float .f64 mt, .bool li, .float .f64 lo, .float .f64 hi, .float .f64 p0, .float .f64 p1, .float .f64 p2] 30)).heap.size) 34 36 rfl _ _ rfl Try.underlying34 info_row rfl rfl _ 0 1 1 rfl (hO1.bel (bl_alloc (bl_refl _) _ _)) rfl (by have h := rng_new (w.alloc (.cells #[.int .u8 kq, .int .u32 sa, .int .u32 ua, .int .u32 sb, .int .u32 ub, .float .f64 ax, .float .f64 ay, .float .f64 bx, .float .f64 b_y, .float .f64 ux, .float .f64 uy, .float .f64 rs, .float .f64 rt, .bool mo, .float .f64 sp, .float .f64 mt, .bool li, .float .f64 lo, .float .f64 hi, .float .f64 p0, .float .f64 p1, .float .f64 p2] 30)) [.int .i64 77, .int .i64 0, .float .f64 0, .float .f64 0, .float .f64 0, .float .f64 0, .float .f64 0, .float .f64 0, .float .f64 0, .float .f64 0, .float .f64 0, .float .f64 0, .int .i64 0, .float .f64 0] 36; rwa [World.size_alloc] at h) one77 (by decide) (by simp only [World.size_alloc]; omega) (by unfold maxLen; omega) (by omega) ?_; clear m1; intro v2 w2 hO2 hv2 hb2; obtain ⟨g2, c2, rfl⟩ := hv2; have B2 := hb2 (w.alloc (.cells #[.int .u8 kq, .int .u32 sa, .int .u32 ua, .int .u32 sb, .int .u32 ub, .float .f64 ax, .float .f64 ay, .float .f64 bx, .float .f64 b_y, .float .f64 ux, .float .f64 uy, .float .f64 rs, .float .f64 rt, .bool mo, .float .f64 sp, .float .f64 mt, .bool li, .float .f64 lo, .float .f64 hi, .float .f64 p0, .float .f64 p1, .float .f64 p2] 30)) (bl_alloc B1 _ _) (Nat.le_refl _)) | (have zn := m0; clear zn; at_builtin; refine wpList_runr (v := .slice none 0 0) (u := .slice a1 0 cap) (v' := .slice none 0 0) rfl _ _ rfl rfl rfl (fun ty => run_app0r _ ty cap a1) ?_; clear m0; have B1 := bl_refl (w.alloc (.cells #[.int .u8 kq, .int .u32 sa, .int .u32 ua, .int .u32 sb, .int .u32 ub, .float .f64 ax, .float .f64 ay, .float .f64 bx, .float .f64 b_y, .float .f64 ux, .float .f64 uy, .float .f64 rs, .float .f64 rt, .bool mo, .float .f64 sp, .float .f64 mt, .bool li, .float .f64 lo, .float .f64 hi, .float .f64 p0, .float .f64 p1, .float .f64 p2] 30)); have hO1 : OwnR 14 (w.alloc (.cells #[.int .u8 kq, .int .u32 sa, .int .u32 ua, .int .u32 sb, .int .u32 ub, .float .f64 ax, .float .f64 ay, .float .f64 bx, .float .f64 b_y, .float .f64 ux, .float .f64 uy, .float .f64 rs, .float .f64 rt, .bool mo, .float .f64 sp, .float .f64 mt, .bool li, .float .f64 lo, .float .f64 hi, .float .f64 p0, .float .f64 p1, .float .f64 p2] 30)).heap.size (w.alloc (.cells #[.int .u8 kq, .int .u32 sa, .int .u32 ua, .int .u32 sb, .int .u32 ub, .float .f64 ax, .float .f64 ay, .float .f64 bx, .float .f64 b_y, .float .f64 ux, .float .f64 uy, .float .f64 rs, .float .f64 rt, .bool mo, .float .f64 sp, .float .f64 mt, .bool li, .float .f64 lo, .float .f64 hi, .float .f64 p0, .float .f64 p1, .float .f64 p2] 30)) (.slice none 0 0) 0 (rowsL Q 0) := OwnR.nil 14 _ _; have m1 := True.intro) | go_values | go_skip | go_guarded | go_step | go_upon | go_back | dsimp only)
  obtain ⟨_, hO2 | ⟨g9, c9, e9, hg9, hc2, hm2, hRw2, _, _⟩⟩ := hO2
  · cases hO2.1
  obtain ⟨rfl, rfl⟩ : g9 = g2 ∧ c9 = c2 := by simp at e9; exact ⟨e9.1.symm, e9.2.symm⟩
  have hc2 : 0 ≤ c9 := by omega
  have hOwn := rw_rows hRw2
  have h77 := rw_last hRw2
  have hJ2 := rng_bel hJ0 B2
  have hRow := (hS.bel B0).bel B2
  have hcI : (0 : Int) ≤ (c9 : Int) := by omega
  have hI1 : (0 : Int) < ((0 + 1 : Nat) : Int) := by omega
  have hgg : g9 < w2.heap.size := World.block_lt_of_cell? _ _ h77
  clear e9 hO1 hRw2 hb2 B1 
  refine wp_region_new 12 rfl (fun i v => match i with | 0 => v = .agg #[.int .u8 kq, .int .u32 sa, .int .u32 ua, .int .u32 sb, .int .u32 ub, .float .f64 ax, .float .f64 ay, .float .f64 bx, .float .f64 b_y, .float .f64 ux, .float .f64 uy, .float .f64 rs, .float .f64 rt, .bool mo, .float .f64 sp, .float .f64 mt, .bool li, .float .f64 lo, .float .f64 hi, .float .f64 p0, .float .f64 p1, .float .f64 p2] | 1 => v = .slice (some ⟨g9, 0, none⟩) (0 + 1) c9 | 2 => v = .slice a1 0 cap | 3 => v = .int .i64 (0 : Int) | 4 => v = .slice (some ⟨g9, 0, none⟩) 0 c9 | 5 => v = .tuple #[.agg #[.int .u8 0, .int .u32 0, .int .u32 0, .int .u32 0, .int .u32 0, .float .f64 0, .float .f64 0, .float .f64 0, .float .f64 0, .float .f64 0, .float .f64 0, .float .f64 0, .float .f64 0, .bool false, .float .f64 0, .float .f64 0, .bool false, .float .f64 0, .float .f64 0, .float .f64 0, .float .f64 0, .float .f64 0], .int .i64 er] | 6 => v = .tuple #[.agg #[.int .u8 0, .int .u32 0, .int .u32 0, .int .u32 0, .int .u32 0, .float .f64 0, .float .f64 0, .float .f64 0, .float .f64 0, .float .f64 0, .float .f64 0, .float .f64 0, .float .f64 0, .bool false, .float .f64 0, .float .f64 0, .bool false, .float .f64 0, .float .f64 0, .float .f64 0, .float .f64 0, .float .f64 0], .int .i64 er] | 7 => v = .agg #[.int .u8 0, .int .u32 0, .int .u32 0, .int .u32 0, .int .u32 0, .float .f64 0, .float .f64 0, .float .f64 0, .float .f64 0, .float .f64 0, .float .f64 0, .float .f64 0, .float .f64 0, .bool false, .float .f64 0, .float .f64 0, .bool false, .float .f64 0, .float .f64 0, .float .f64 0, .float .f64 0, .float .f64 0] | 8 => v = .int .i64 er | 11 => v = .int .i64 er | _ => False) [(9, #[.int .u8 0, .int .u32 0, .int .u32 0, .int .u32 0, .int .u32 0, .float .f64 0, .float .f64 0, .float .f64 0, .float .f64 0, .float .f64 0, .float .f64 0, .float .f64 0, .float .f64 0, .bool false, .float .f64 0, .float .f64 0, .bool false, .float .f64 0, .float .f64 0, .float .f64 0, .float .f64 0, .float .f64 0], 30)] [(10, 9, 7)] ?A_wn (by kernel_rfl) (by kernel_rfl) ?hA_wn ?ha_wn ?hst_wn ?hq_wn ?ht_wn
  case hA_wn =>
    intro s
    simp only [putL, dstO, Act.put, List.getElem?_toArray, List.getElem?_cons_zero, List.getElem?_cons_succ, Option.bind_some, List.setIfInBounds_toArray, List.set_cons_zero, List.set_cons_succ, if_true]
    all_goals exact rfl
  case ha_wn =>
    intro i o c ty hi ho hal B W K hK
    rcases (show i = 0 ∨ i = 1 ∨ i = 2 ∨ i = 3 ∨ i = 4 ∨ i = 5 ∨ i = 6 ∨ i = 7 ∨ i = 8 ∨ i = 9 ∨ i = 10 ∨ i = 11 by omega) with rfl | rfl | rfl | rfl | rfl | rfl | rfl | rfl | rfl | rfl | rfl | rfl
    · cases (show none = some (c, ty) from hal)
    · cases (show none = some (c, ty) from hal)
    · cases (show none = some (c, ty) from hal)
    · cases (show none = some (c, ty) from hal)
    · cases (show none = some (c, ty) from hal)
    · cases (show none = some (c, ty) from hal)
    · cases (show none = some (c, ty) from hal)
    · cases (show none = some (c, ty) from hal)
    · cases (show none = some (c, ty) from hal)
    · cases ho; cases (show some (#[.int .u8 0, .int .u32 0, .int .u32 0, .int .u32 0, .int .u32 0, .float .f64 0, .float .f64 0, .float .f64 0, .float .f64 0, .float .f64 0, .float .f64 0, .float .f64 0, .float .f64 0, .bool false, .float .f64 0, .float .f64 0, .bool false, .float .f64 0, .float .f64 0, .float .f64 0, .float .f64 0, .float .f64 0], 30) = some (c, ty) from hal); go_simp; exact hK.out
    · cases (show none = some (c, ty) from hal)
    · cases (show none = some (c, ty) from hal)
  case hst_wn =>
    intro t o a d c ty hlt ho hts hal s hs W b_9 eb hc hf K hK
    rcases (show t = 0 ∨ t = 1 ∨ t = 2 ∨ t = 3 ∨ t = 4 ∨ t = 5 ∨ t = 6 ∨ t = 7 ∨ t = 8 ∨ t = 9 ∨ t = 10 ∨ t = 11 by omega) with rfl | rfl | rfl | rfl | rfl | rfl | rfl | rfl | rfl | rfl | rfl | rfl
    · cases (show none = some (a, d) from hts)
    · cases (show none = some (a, d) from hts)
    · cases (show none = some (a, d) from hts)
    · cases (show none = some (a, d) from hts)
    · cases (show none = some (a, d) from hts)
    · cases (show none = some (a, d) from hts)
    · cases (show none = some (a, d) from hts)
    · cases (show none = some (a, d) from hts)
    · cases (show none = some (a, d) from hts)
    · cases (show none = some (a, d) from hts)
    · cases ho; cases (show some (9, 7) = some (a, d) from hts); cases (show some (#[.int .u8 0, .int .u32 0, .int .u32 0, .int .u32 0, .int .u32 0, .float .f64 0, .float .f64 0, .float .f64 0, .float .f64 0, .float .f64 0, .float .f64 0, .float .f64 0, .float .f64 0, .bool false, .float .f64 0, .float .f64 0, .bool false, .float .f64 0, .float .f64 0, .float .f64 0, .float .f64 0, .float .f64 0], 30) = some (c, ty) from hal)
      have e7 : s 7 = _ := hs 7 (by decide) rfl rfl (by kernel_rfl)
      obtain ⟨u0, hu0⟩ := Option.isSome_iff_exists.1 (hc 0 (by decide))
      obtain ⟨u1, hu1⟩ := Option.isSome_iff_exists.1 (hc 1 (by decide))
      obtain ⟨u2, hu2⟩ := Option.isSome_iff_exists.1 (hc 2 (by decide))
      obtain ⟨u3, hu3⟩ := Option.isSome_iff_exists.1 (hc 3 (by decide))
      obtain ⟨u4, hu4⟩ := Option.isSome_iff_exists.1 (hc 4 (by decide))
      obtain ⟨u5, hu5⟩ := Option.isSome_iff_exists.1 (hc 5 (by decide))
      obtain ⟨u6, hu6⟩ := Option.isSome_iff_exists.1 (hc 6 (by decide))
      obtain ⟨u7, hu7⟩ := Option.isSome_iff_exists.1 (hc 7 (by decide))
      obtain ⟨u8, hu8⟩ := Option.isSome_iff_exists.1 (hc 8 (by decide))
      obtain ⟨u9, hu9⟩ := Option.isSome_iff_exists.1 (hc 9 (by decide))
      obtain ⟨u10, hu10⟩ := Option.isSome_iff_exists.1 (hc 10 (by decide))
      obtain ⟨u11, hu11⟩ := Option.isSome_iff_exists.1 (hc 11 (by decide))
      obtain ⟨u12, hu12⟩ := Option.isSome_iff_exists.1 (hc 12 (by decide))
      obtain ⟨u13, hu13⟩ := Option.isSome_iff_exists.1 (hc 13 (by decide))
      obtain ⟨u14, hu14⟩ := Option.isSome_iff_exists.1 (hc 14 (by decide))
      obtain ⟨u15, hu15⟩ := Option.isSome_iff_exists.1 (hc 15 (by decide))
      obtain ⟨u16, hu16⟩ := Option.isSome_iff_exists.1 (hc 16 (by decide))
      obtain ⟨u17, hu17⟩ := Option.isSome_iff_exists.1 (hc 17 (by decide))
      obtain ⟨u18, hu18⟩ := Option.isSome_iff_exists.1 (hc 18 (by decide))
      obtain ⟨u19, hu19⟩ := Option.isSome_iff_exists.1 (hc 19 (by decide))
      obtain ⟨u20, hu20⟩ := Option.isSome_iff_exists.1 (hc 20 (by decide))
      obtain ⟨u21, hu21⟩ := Option.isSome_iff_exists.1 (hc 21 (by decide))
      simp only [eb, e7] at hK ⊢
      clear hs
      refine wp_store_mid (P := Try.prog) 30 _ _ rfl b_9 0 #[.int .u8 0, .int .u32 0, .int .u32 0, .int .u32 0, .int .u32 0, .float .f64 0, .float .f64 0, .float .f64 0, .float .f64 0, .float .f64 0, .float .f64 0, .float .f64 0, .float .f64 0, .bool false, .float .f64 0, .float .f64 0, .bool false, .float .f64 0, .float .f64 0, .float .f64 0, .float .f64 0, .float .f64 0] rfl rfl (fun j hj => ⟨by rw [Nat.zero_add]; exact hc j hj, by rw [Nat.zero_add]; exact hf _⟩) (by kernel_rfl) (by kernel_rfl) ?_
      have hk := hK.out
      exact Eq.mp (congrArg (K _) (put22 b_9 _ _ _ _ _ _ _ _ _ _ _ _ _ _ _ _ _ _ _ _ _ _ W)) hk
    · cases (show none = some (a, d) from hts)
  case hq_wn =>
    intro i o hi hal hts ho s hs W hb K hK
    have hz9 := hb.size
    rcases (show i = 0 ∨ i = 1 ∨ i = 2 ∨ i = 3 ∨ i = 4 ∨ i = 5 ∨ i = 6 ∨ i = 7 ∨ i = 8 ∨ i = 9 ∨ i = 10 ∨ i = 11 by omega) with rfl | rfl | rfl | rfl | rfl | rfl | rfl | rfl | rfl | rfl | rfl | rfl
    · cases ho
      simp only [Act.put, List.setIfInBounds_toArray, List.set_cons_zero, List.set_cons_succ] at hK
      clear hs hal hts
      refine wp_load_mid (P := Try.prog) 30 _ rfl _ _ rfl _ _ (rng_bel hJ2 hb) Try.underlying30 rfl (by kernel_rfl) ?_
      exact hK.out _ _ rfl (bl_refl _)
    · cases ho
      simp only [Act.put, List.setIfInBounds_toArray, List.set_cons_zero, List.set_cons_succ] at hK
      clear hs hal hts
      go_simp
      all_goals (try go_wp2_with (first | (go_at_call 7; refine (keep_bad _ _ _ _ _ _ _ _ _ _ _ _ _ _ _ _ _ _ _ _ _ _ _ _ _ _ oax oay obx ob_y oux ouy ors ort osp omt olo ohi op0 op1 op2 er he h0).mono ?_; rintro e w' ⟨rfl, hb1⟩)))
      all_goals first | with_reducible exact hK.out _ _ rfl (bl_refl _) | with_reducible exact hK.out _ _ rfl hb1 | exact hK.out _ _ rfl (bl_refl _) | exact hK.out _ _ rfl (by assumption) | exact hK.out _ _ (by assumption) (by assumption)
    · cases ho
      simp only [Act.put, List.setIfInBounds_toArray, List.set_cons_zero, List.set_cons_succ] at hK
      clear hs hal hts
      go_simp
      all_goals (try go_wp2_with (first | (go_at_call 7; refine (keep_bad _ _ _ _ _ _ _ _ _ _ _ _ _ _ _ _ _ _ _ _ _ _ _ _ _ _ oax oay obx ob_y oux ouy ors ort osp omt olo ohi op0 op1 op2 er he h0).mono ?_; rintro e w' ⟨rfl, hb1⟩)))
      all_goals first | with_reducible exact hK.out _ _ rfl (bl_refl _) | with_reducible exact hK.out _ _ rfl hb1 | exact hK.out _ _ rfl (bl_refl _) | exact hK.out _ _ rfl (by assumption) | exact hK.out _ _ (by assumption) (by assumption)
    · cases ho
      have e2 : s 2 = _ := hs 2 (by decide) rfl rfl (by kernel_rfl)
      simp only [e2] at hK ⊢
      simp only [Act.put, List.setIfInBounds_toArray, List.set_cons_zero, List.set_cons_succ] at hK
      clear hs hal hts
      go_simp
      all_goals (try go_wp2_with (first | (go_at_call 7; refine (keep_bad _ _ _ _ _ _ _ _ _ _ _ _ _ _ _ _ _ _ _ _ _ _ _ _ _ _ oax oay obx ob_y oux ouy ors ort osp omt olo ohi op0 op1 op2 er he h0).mono ?_; rintro e w' ⟨rfl, hb1⟩)))
      all_goals first | with_reducible exact hK.out _ _ rfl (bl_refl _) | with_reducible exact hK.out _ _ rfl hb1 | exact hK.out _ _ rfl (bl_refl _) | exact hK.out _ _ rfl (by assumption) | exact hK.out _ _ (by assumption) (by assumption)
    · cases ho
      have e1 : s 1 = _ := hs 1 (by decide) rfl rfl (by kernel_rfl)
      have e3 : s 3 = _ := hs 3 (by decide) rfl rfl (by kernel_rfl)
      simp only [e1, e3] at hK ⊢
      simp only [Act.put, List.setIfInBounds_toArray, List.set_cons_zero, List.set_cons_succ] at hK
      clear hs hal hts
      go_simp
      all_goals (try go_wp2_with (first | (go_at_call 7; refine (keep_bad _ _ _ _ _ _ _ _ _ _ _ _ _ _ _ _ _ _ _ _ _ _ _ _ _ _ oax oay obx ob_y oux ouy ors ort osp omt olo ohi op0 op1 op2 er he h0).mono ?_; rintro e w' ⟨rfl, hb1⟩)))
      all_goals first | with_reducible exact hK.out _ _ rfl (bl_refl _) | with_reducible exact hK.out _ _ rfl hb1 | exact hK.out _ _ rfl (bl_refl _) | exact hK.out _ _ rfl (by assumption) | exact hK.out _ _ (by assumption) (by assumption)
    · cases ho
      have e0 : s 0 = _ := hs 0 (by decide) rfl rfl (by kernel_rfl)
      have e4 : s 4 = _ := hs 4 (by decide) rfl rfl (by kernel_rfl)
      simp only [e0, e4] at hK ⊢
      simp only [Act.put, List.setIfInBounds_toArray, List.set_cons_zero, List.set_cons_succ] at hK
      clear hs hal hts
      go_simp
      all_goals (try go_wp2_with (first | (go_at_call 7; refine (keep_bad _ _ _ _ _ _ _ _ _ _ _ _ _ _ _ _ _ _ _ _ _ _ _ _ _ _ oax oay obx ob_y oux ouy ors ort osp omt olo ohi op0 op1 op2 er he h0).mono ?_; rintro e w' ⟨rfl, hb1⟩)))
      all_goals first | with_reducible exact hK.out _ _ rfl (bl_refl _) | with_reducible exact hK.out _ _ rfl hb1 | exact hK.out _ _ rfl (bl_refl _) | exact hK.out _ _ rfl (by assumption) | exact hK.out _ _ (by assumption) (by assumption)
    · cases ho
      have e5 : s 5 = _ := hs 5 (by decide) rfl rfl (by kernel_rfl)
      simp only [e5] at hK ⊢
      simp only [Act.put, List.setIfInBounds_toArray, List.set_cons_zero, List.set_cons_succ] at hK
      clear hs hal hts
      go_simp
      all_goals (try go_wp2_with (first | (go_at_call 7; refine (keep_bad _ _ _ _ _ _ _ _ _ _ _ _ _ _ _ _ _ _ _ _ _ _ _ _ _ _ oax oay obx ob_y oux ouy ors ort osp omt olo ohi op0 op1 op2 er he h0).mono ?_; rintro e w' ⟨rfl, hb1⟩)))
      all_goals first | with_reducible exact hK.out _ _ rfl (bl_refl _) | with_reducible exact hK.out _ _ rfl hb1 | exact hK.out _ _ rfl (bl_refl _) | exact hK.out _ _ rfl (by assumption) | exact hK.out _ _ (by assumption) (by assumption)
    · cases ho
      have e6 : s 6 = _ := hs 6 (by decide) rfl rfl (by kernel_rfl)
      simp only [e6] at hK ⊢
      simp only [Act.put, List.setIfInBounds_toArray, List.set_cons_zero, List.set_cons_succ] at hK
      clear hs hal hts
      go_simp
      all_goals (try go_wp2_with (first | (go_at_call 7; refine (keep_bad _ _ _ _ _ _ _ _ _ _ _ _ _ _ _ _ _ _ _ _ _ _ _ _ _ _ oax oay obx ob_y oux ouy ors ort osp omt olo ohi op0 op1 op2 er he h0).mono ?_; rintro e w' ⟨rfl, hb1⟩)))
      all_goals first | with_reducible exact hK.out _ _ rfl (bl_refl _) | with_reducible exact hK.out _ _ rfl hb1 | exact hK.out _ _ rfl (bl_refl _) | exact hK.out _ _ rfl (by assumption) | exact hK.out _ _ (by assumption) (by assumption)
    · cases ho
      have e6 : s 6 = _ := hs 6 (by decide) rfl rfl (by kernel_rfl)
      simp only [e6] at hK ⊢
      simp only [Act.put, List.setIfInBounds_toArray, List.set_cons_zero, List.set_cons_succ] at hK
      clear hs hal hts
      go_simp
      all_goals (try go_wp2_with (first | (go_at_call 7; refine (keep_bad _ _ _ _ _ _ _ _ _ _ _ _ _ _ _ _ _ _ _ _ _ _ _ _ _ _ oax oay obx ob_y oux ouy ors ort osp omt olo ohi op0 op1 op2 er he h0).mono ?_; rintro e w' ⟨rfl, hb1⟩)))
      all_goals first | with_reducible exact hK.out _ _ rfl (bl_refl _) | with_reducible exact hK.out _ _ rfl hb1 | exact hK.out _ _ rfl (bl_refl _) | exact hK.out _ _ rfl (by assumption) | exact hK.out _ _ (by assumption) (by assumption)
    · cases (show some _ = none from hal)
    · cases (show some _ = none from hts)
    · cases ho
      have e8 : s 8 = _ := hs 8 (by decide) rfl rfl (by kernel_rfl)
      simp only [e8] at hK ⊢
      simp only [Act.put, List.setIfInBounds_toArray, List.set_cons_zero, List.set_cons_succ] at hK
      clear hs hal hts
      go_simp
      all_goals (try go_wp2_with (first | (go_at_call 7; refine (keep_bad _ _ _ _ _ _ _ _ _ _ _ _ _ _ _ _ _ _ _ _ _ _ _ _ _ _ oax oay obx ob_y oux ouy ors ort osp omt olo ohi op0 op1 op2 er he h0).mono ?_; rintro e w' ⟨rfl, hb1⟩)))
      all_goals first | with_reducible exact hK.out _ _ rfl (bl_refl _) | with_reducible exact hK.out _ _ rfl hb1 | exact hK.out _ _ rfl (bl_refl _) | exact hK.out _ _ rfl (by assumption) | exact hK.out _ _ (by assumption) (by assumption)
  case ht_wn =>
    intro s hs W hb hJ
    have e0 : s 0 = _ := hs 0 (by decide) rfl rfl
    have e1 : s 1 = _ := hs 1 (by decide) rfl rfl
    have e2 : s 2 = _ := hs 2 (by decide) rfl rfl
    have e3 : s 3 = _ := hs 3 (by decide) rfl rfl
    have e4 : s 4 = _ := hs 4 (by decide) rfl rfl
    have e5 : s 5 = _ := hs 5 (by decide) rfl rfl
    have e6 : s 6 = _ := hs 6 (by decide) rfl rfl
    have e7 : s 7 = _ := hs 7 (by decide) rfl rfl
    have e8 : s 8 = _ := hs 8 (by decide) rfl rfl
    have e11 : s 11 = _ := hs 11 (by decide) rfl rfl
    obtain ⟨p9, e9, n9, l9, cl9⟩ := hJ.1 9 _ _ (by decide) rfl rfl
    have k_p9_0 : W.cell? ⟨p9, 0, none⟩ = some (cellAt (s 7) 0) := cl9 0 (by decide)
    have k_p9_1 : W.cell? ⟨p9, 1, none⟩ = some (cellAt (s 7) 1) := cl9 1 (by decide)
    have k_p9_2 : W.cell? ⟨p9, 2, none⟩ = some (cellAt (s 7) 2) := cl9 2 (by decide)
    have k_p9_3 : W.cell? ⟨p9, 3, none⟩ = some (cellAt (s 7) 3) := cl9 3 (by decide)
    have k_p9_4 : W.cell? ⟨p9, 4, none⟩ = some (cellAt (s 7) 4) := cl9 4 (by decide)
    have k_p9_5 : W.cell? ⟨p9, 5, none⟩ = some (cellAt (s 7) 5) := cl9 5 (by decide)
    have k_p9_6 : W.cell? ⟨p9, 6, none⟩ = some (cellAt (s 7) 6) := cl9 6 (by decide)
    have k_p9_7 : W.cell? ⟨p9, 7, none⟩ = some (cellAt (s 7) 7) := cl9 7 (by decide)
    have k_p9_8 : W.cell? ⟨p9, 8, none⟩ = some (cellAt (s 7) 8) := cl9 8 (by decide)
    have k_p9_9 : W.cell? ⟨p9, 9, none⟩ = some (cellAt (s 7) 9) := cl9 9 (by decide)
    have k_p9_10 : W.cell? ⟨p9, 10, none⟩ = some (cellAt (s 7) 10) := cl9 10 (by decide)
    have k_p9_11 : W.cell? ⟨p9, 11, none⟩ = some (cellAt (s 7) 11) := cl9 11 (by decide)
    have k_p9_12 : W.cell? ⟨p9, 12, none⟩ = some (cellAt (s 7) 12) := cl9 12 (by decide)
    have k_p9_13 : W.cell? ⟨p9, 13, none⟩ = some (cellAt (s 7) 13) := cl9 13 (by decide)
    have k_p9_14 : W.cell? ⟨p9, 14, none⟩ = some (cellAt (s 7) 14) := cl9 14 (by decide)
    have k_p9_15 : W.cell? ⟨p9, 15, none⟩ = some (cellAt (s 7) 15) := cl9 15 (by decide)
    have k_p9_16 : W.cell? ⟨p9, 16, none⟩ = some (cellAt (s 7) 16) := cl9 16 (by decide)
    have k_p9_17 : W.cell? ⟨p9, 17, none⟩ = some (cellAt (s 7) 17) := cl9 17 (by decide)
    have k_p9_18 : W.cell? ⟨p9, 18, none⟩ = some (cellAt (s 7) 18) := cl9 18 (by decide)
    have k_p9_19 : W.cell? ⟨p9, 19, none⟩ = some (cellAt (s 7) 19) := cl9 19 (by decide)
    have k_p9_20 : W.cell? ⟨p9, 20, none⟩ = some (cellAt (s 7) 20) := cl9 20 (by decide)
    have k_p9_21 : W.cell? ⟨p9, 21, none⟩ = some (cellAt (s 7) 21) := cl9 21 (by decide)
    rw [e7] at k_p9_0 k_p9_1 k_p9_2 k_p9_3 k_p9_4 k_p9_5 k_p9_6 k_p9_7 k_p9_8 k_p9_9 k_p9_10 k_p9_11 k_p9_12 k_p9_13 k_p9_14 k_p9_15 k_p9_16 k_p9_17 k_p9_18 k_p9_19 k_p9_20 k_p9_21
    simp only [cellAt] at k_p9_0 k_p9_1 k_p9_2 k_p9_3 k_p9_4 k_p9_5 k_p9_6 k_p9_7 k_p9_8 k_p9_9 k_p9_10 k_p9_11 k_p9_12 k_p9_13 k_p9_14 k_p9_15 k_p9_16 k_p9_17 k_p9_18 k_p9_19 k_p9_20 k_p9_21
    simp only [e0, e1, e2, e3, e4, e5, e6, e7, e8, e11, e9]
    clear hs hJ e0 e1 e2 e3 e4 e5 e6 e7 e8 e11 e9 cl9
    have hP : W.rangeAt p9 0 [.int .u8 0, .int .u32 0, .int .u32 0, .int .u32 0, .int .u32 0, .float .f64 0, .float .f64 0, .float .f64 0, .float .f64 0, .float .f64 0, .float .f64 0, .float .f64 0, .float .f64 0, .bool false, .float .f64 0, .float .f64 0, .bool false, .float .f64 0, .float .f64 0, .float .f64 0, .float .f64 0, .float .f64 0] := rjAll k_p9_0 k_p9_1 k_p9_2 k_p9_3 k_p9_4 k_p9_5 k_p9_6 k_p9_7 k_p9_8 k_p9_9 k_p9_10 k_p9_11 k_p9_12 k_p9_13 k_p9_14 k_p9_15 k_p9_16 k_p9_17 k_p9_18 k_p9_19 k_p9_20 k_p9_21
    clear k_p9_0 k_p9_1 k_p9_2 k_p9_3 k_p9_4 k_p9_5 k_p9_6 k_p9_7 k_p9_8 k_p9_9 k_p9_10 k_p9_11 k_p9_12 k_p9_13 k_p9_14 k_p9_15 k_p9_16 k_p9_17 k_p9_18 k_p9_19 k_p9_20 k_p9_21
    have hJ3 := rng_bel hJ2 hb
    have hOwn3 := hOwn.bel hb
    have hRow3 := hRow.bel hb
    have h773 := keep hb h77
    have BW := bl_trans B2 hb
    clear hJ2 hRow
    repeat (first | ((with_reducible show wpList _ _ _ ({ dst := _, op := Op.load 30 _, type := _, pos := _, after := _, guard := some _ } :: _) _ _); refine wpList_gload (by kernel_rfl) 30 _ rfl _ _ rfl _ _ (by first | with_reducible exact hP5 | with_reducible exact hN5) Try.underlying30 rfl (by kernel_rfl) ?_; simp only [go_sem]) | ((with_reducible show Oper.wp _ { dst := _, op := Op.load 30 _, type := _, pos := _, after := _, guard := _ } _ _ _ _); refine wp_load_mid (P := Try.prog) 30 _ rfl _ _ rfl _ _ (by first | with_reducible exact hJ3 | with_reducible exact hP5 | with_reducible exact hN5) Try.underlying30 rfl (by kernel_rfl) ?_; simp only [go_sem]) | (go_at_call 8; refine (rkeep_bad _ _ _ _ _ _ _ _ _ _ _ _ _ _ _ _ _ _ _ _ _ _ _ _ _ _ oax oay obx ob_y oux ouy ors ort osp omt olo ohi op0 op1 op2 er he h0).mono ?_; rintro e w4 ⟨rfl, hb⟩; have B4 := hb; have hP4 := rng_bel hP hb; have hJ4 := rng_bel hJ3 hb; have hOwn4 := hOwn3.bel hb; have h774 := keep hb h773; have hz4 := hb.size; have hRow4 := hRow3.bel hb; have hX : (w4.alloc (.cells #[.int .u8 0, .int .u32 0, .int .u32 0, .int .u32 0, .int .u32 0, .float .f64 0, .float .f64 0, .float .f64 0, .float .f64 0, .float .f64 0, .float .f64 0, .float .f64 0, .float .f64 0, .bool false, .float .f64 0, .float .f64 0, .bool false, .float .f64 0, .float .f64 0, .float .f64 0, .float .f64 0, .float .f64 0] 30)).there w4.heap.size 0 22 := there_new w4 [.int .u8 0, .int .u32 0, .int .u32 0, .int .u32 0, .int .u32 0, .float .f64 0, .float .f64 0, .float .f64 0, .float .f64 0, .float .f64 0, .float .f64 0, .float .f64 0, .float .f64 0, .bool false, .float .f64 0, .float .f64 0, .bool false, .float .f64 0, .float .f64 0, .float .f64 0, .float .f64 0, .float .f64 0] 30; have hN5 : ((w4.alloc (.cells #[.int .u8 0, .int .u32 0, .int .u32 0, .int .u32 0, .int .u32 0, .float .f64 0, .float .f64 0, .float .f64 0, .float .f64 0, .float .f64 0, .float .f64 0, .float .f64 0, .float .f64 0, .bool false, .float .f64 0, .float .f64 0, .bool false, .float .f64 0, .float .f64 0, .float .f64 0, .float .f64 0, .float .f64 0] 30)).setCells w4.heap.size 0 [.int .u8 0, .int .u32 0, .int .u32 0, .int .u32 0, .int .u32 0, .float .f64 0, .float .f64 0, .float .f64 0, .float .f64 0, .float .f64 0, .float .f64 0, .float .f64 0, .float .f64 0, .bool false, .float .f64 0, .float .f64 0, .bool false, .float .f64 0, .float .f64 0, .float .f64 0, .float .f64 0, .float .f64 0]).rangeAt w4.heap.size 0 [.int .u8 0, .int .u32 0, .int .u32 0, .int .u32 0, .int .u32 0, .float .f64 0, .float .f64 0, .float .f64 0, .float .f64 0, .float .f64 0, .float .f64 0, .float .f64 0, .float .f64 0, .bool false, .float .f64 0, .float .f64 0, .bool false, .float .f64 0, .float .f64 0, .float .f64 0, .float .f64 0, .float .f64 0] := World.rangeAt_setCells_same _ _ _ _ hX; have B5 : Bel W ((w4.alloc (.cells #[.int .u8 0, .int .u32 0, .int .u32 0, .int .u32 0, .int .u32 0, .float .f64 0, .float .f64 0, .float .f64 0, .float .f64 0, .float .f64 0, .float .f64 0, .float .f64 0, .float .f64 0, .bool false, .float .f64 0, .float .f64 0, .bool false, .float .f64 0, .float .f64 0, .float .f64 0, .float .f64 0, .float .f64 0] 30)).setCells w4.heap.size 0 [.int .u8 0, .int .u32 0, .int .u32 0, .int .u32 0, .int .u32 0, .float .f64 0, .float .f64 0, .float .f64 0, .float .f64 0, .float .f64 0, .float .f64 0, .float .f64 0, .float .f64 0, .bool false, .float .f64 0, .float .f64 0, .bool false, .float .f64 0, .float .f64 0, .float .f64 0, .float .f64 0, .float .f64 0]) := bel_setsJ _ _ (bl_alloc B4 _ _) hz4; have hP5 := rng_bel hP B5; have hOwn5 := hOwn3.bel B5; have hRow5 := hRow3.bel B5; have h775 := keep B5 h773; clear hP4 hJ4 hOwn4 h774 hRow4) | ((with_reducible show Oper.wp _ { dst := _, op := Op.store 30 _ _, type := _, pos := _, after := _, guard := _ } _ _ _ _); refine wp_store_mid (P := Try.prog) 30 _ _ rfl (w4.heap.size) (0) #[.int .u8 0, .int .u32 0, .int .u32 0, .int .u32 0, .int .u32 0, .float .f64 0, .float .f64 0, .float .f64 0, .float .f64 0, .float .f64 0, .float .f64 0, .float .f64 0, .float .f64 0, .bool false, .float .f64 0, .float .f64 0, .bool false, .float .f64 0, .float .f64 0, .float .f64 0, .float .f64 0, .float .f64 0] rfl rfl hX (by kernel_rfl) (by kernel_rfl) ?_; simp only [go_sem]) | (go_at_call 9; refine (sameJ_j _ _ _ _ _ _ _ _ _ _ _ _ _ _ _ _ _ _ _ _ _ _ _ (by rw [okK64]; decide) (by rw [okK64]; decide) (by rw [okK64]; decide) (by rw [okK64]; decide) (by rw [okK64]; decide) (by rw [okK64]; decide) (by rw [okK64]; decide) (by rw [okK64]; decide) (by rw [okK64]; decide) (by rw [okK64]; decide) (by rw [okK64]; decide) (by rw [okK64]; decide) (by rw [okK64]; decide) (by rw [okK64]; decide) (by rw [okK64]; decide)).mono ?_; rintro e w6 ⟨rfl, hb⟩; have B6 := bl_trans B5 hb; have hOwn6 := hOwn5.bel hb; have hRow6 := hRow5.bel hb; have h776 := keep hb h775; clear hOwn5 hRow5 h775 hP5 hN5) | (go_at_call 10; refine (sameRows_nil _ _ _ _ _).mono ?_; rintro e w7 ⟨rfl, hb⟩; have B7 := bl_trans B6 hb; have h777 := keep hb h776) | go_values | go_skip | go_guarded | go_step | go_upon | go_back | dsimp only)
    go_ret
    exact ⟨rfl, (bl_trans (bl_alloc (bl_refl w) _ _) (bl_trans BW B7)).1⟩

set_option maxRecDepth 100000 in
set_option maxHeartbeats 8000000 in
theorem kw0_ok (kq sa ua sb ub : Int) (ax ay bx b_y ux uy rs rt : Nat) (mo : Bool) (sp mt : Nat) (li : Bool) (lo hi p0 p1 p2 : Nat) (oax : okK .f64 ax) (oay : okK .f64 ay) (obx : okK .f64 bx) (ob_y : okK .f64 b_y) (oux : okK .f64 ux) (ouy : okK .f64 uy) (ors : okK .f64 rs) (ort : okK .f64 rt) (osp : okK .f64 sp) (omt : okK .f64 mt) (olo : okK .f64 lo) (ohi : okK .f64 hi) (op0 : okK .f64 p0) (op1 : okK .f64 p1) (op2 : okK .f64 p2) (a1 : Option Addr) (b off cap : Nat) (Q : Nat → RD) (w : World) (hcap : 0 ≤ cap) (hmax : cap ≤ maxLen) (hS : Rws w b off 0 Q) (hO : ∀ i, i < 0 → rok (Q i)) (he : (jE kq sa sb ax ay bx b_y ux uy rs rt sp mt lo hi p0 p1 p2 li) = 0) (h3 : 0 ≤ 3) : Calls Try.prog 4 #[.agg #[.int .u8 kq, .int .u32 sa, .int .u32 ua, .int .u32 sb, .int .u32 ub, .float .f64 ax, .float .f64 ay, .float .f64 bx, .float .f64 b_y, .float .f64 ux, .float .f64 uy, .float .f64 rs, .float .f64 rt, .bool mo, .float .f64 sp, .float .f64 mt, .bool li, .float .f64 lo, .float .f64 hi, .float .f64 p0, .float .f64 p1, .float .f64 p2], .slice a1 0 cap] w fun e w' => e = .returned (.bool true) ∧ Below w.heap.size w w' := by
  have hR11 : ∀ i, i < 0 → okK .f64 (Q i).r11 := fun i hi => (hO i hi).2.2.2.2.2.2.2.2.2.1
  have hJ0 := rng_new w [.int .u8 kq, .int .u32 sa, .int .u32 ua, .int .u32 sb, .int .u32 ub, .float .f64 ax, .float .f64 ay, .float .f64 bx, .float .f64 b_y, .float .f64 ux, .float .f64 uy, .float .f64 rs, .float .f64 rt, .bool mo, .float .f64 sp, .float .f64 mt, .bool li, .float .f64 lo, .float .f64 hi, .float .f64 p0, .float .f64 p1, .float .f64 p2] 30
  have B0 := bl_alloc (bl_refl w) #[.int .u8 kq, .int .u32 sa, .int .u32 ua, .int .u32 sb, .int .u32 ub, .float .f64 ax, .float .f64 ay, .float .f64 bx, .float .f64 b_y, .float .f64 ux, .float .f64 uy, .float .f64 rs, .float .f64 rt, .bool mo, .float .f64 sp, .float .f64 mt, .bool li, .float .f64 lo, .float .f64 hi, .float .f64 p0, .float .f64 p1, .float .f64 p2] 30
  have hnI := True.intro
  have m0 := True.intro
  go_enter Try.func4, Try.ntmps4
  repeat (first | (with_reducible show Oper.wp _ _ _ _ _ _; refine wp_build 36 _ rfl (.agg #[.int .i64 77, .int .i64 0, .float .f64 0, .float .f64 0, .float .f64 0, .float .f64 0, .float .f64 0, .float .f64 0, .float .f64 0, .float .f64 0, .float .f64 0, .float .f64 0, .int .i64 0, .float .f64 0]) (by kernel_rfl) ?_; simp only [go_sem]) | (have zn := m1; clear zn; at_builtin; refine wpList_appR (P := Try.prog) (sz := 14) (by_ := 112) (R := rowsL Q 0) (N := [.int .i64 77, .int .i64 0, .float .f64 0, .float .f64 0, .float .f64 0, .float .f64 0, .float .f64 0, .float .f64 0, .float .f64 0, .float .f64 0, .float .f64 0, .float .f64 0, .int .i64 0, .float .f64 0]) (base := (w.alloc (.cells #[.int .u8 kq, .int .u32 sa, .int .u32 ua, .int .u32 sb, .int .u32 ub, .float .f64 ax, .float .f64 ay, .float .f64 bx, .float .f64 b_y, .float .f64 ux, .float .f64 uy, .float .f64 rs, .float .f64 rt, .bool mo, .float .f64 sp, .float .f64 mt, .bool li, .float .f64 lo, .float .f64 hi, .float .f64 p0, .float .f64 p1, .float .f64 p2] 30)).heap.size) 34 36 rfl _ _ rfl Try.underlying34 info_row rfl rfl _ 0 1 1 rfl (hO1.bel (bl_alloc (bl_refl _) _ _)) rfl (by have h := rng_new (w.alloc (.cells #[.int .u8 kq, .int .u32 sa, .int .u32 ua, .int .u32 sb, .int .u32 ub, .float .f64 ax, .float .f64 ay, .float .f64 bx, .float .f64 b_y, .float .f64 ux, .float .f64 uy, .float .f64 rs, .float .f64 rt, .bool mo, .float .f64 sp, .float .f64 mt, .bool li, .float .f64 lo, .float .f64 hi, .float .f64 p0, .float .f64 p1, .float .f64 p2] 30)) [.int .i64 77, .int .i64 0, .float .f64 0, .float .f64 0, .float .f64 0, .float .f64 0, .float .f64 0, .float .f64 0, .float .f64 0, .float .f64 0, .float .f64 0, .float .f64 0, .int .i64 0, .float .f64 0] 36; rwa [World.size_alloc] at h) one77 (by decide) (by simp only [World.size_alloc]; omega) (by unfold maxLen; omega) (by omega) ?_; clear m1; intro v2 w2 hO2 hv2 hb2; obtain ⟨g2, c2, rfl⟩ := hv2; have B2 := hb2 (w.alloc (.cells #[.int .u8 kq, .int .u32 sa, .int .u32 ua, .int .u32 sb, .int .u32 ub, .float .f64 ax, .float .f64 ay, .float .f64 bx, .float .f64 b_y, .float .f64 ux, .float .f64 uy, .float .f64 rs, .float .f64 rt, .bool mo, .float .f64 sp, .float .f64 mt, .bool li, .float .f64 lo, .float .f64 hi, .float .f64 p0, .float .f64 p1, .float .f64 p2] 30)) (bl_alloc B1 _ _) (Nat.le_refl _)) | (have zn := m0; clear zn; at_builtin; refine wpList_runr (v := .slice none 0 0) (u := .slice a1 0 cap) (v' := .slice none 0 0) rfl _ _ rfl rfl rfl (fun ty => run_app0r _ ty cap a1) ?_; clear m0; have B1 := bl_refl (w.alloc (.cells #[.int .u8 kq, .int .u32 sa, .int .u32 ua, .int .u32 sb, .int .u32 ub, .float .f64 ax, .float .f64 ay, .float .f64 bx, .float .f64 b_y, .float .f64 ux, .float .f64 uy, .float .f64 rs, .float .f64 rt, .bool mo, .float .f64 sp, .float .f64 mt, .bool li, .float .f64 lo, .float .f64 hi, .float .f64 p0, .float .f64 p1, .float .f64 p2] 30)); have hO1 : OwnR 14 (w.alloc (.cells #[.int .u8 kq, .int .u32 sa, .int .u32 ua, .int .u32 sb, .int .u32 ub, .float .f64 ax, .float .f64 ay, .float .f64 bx, .float .f64 b_y, .float .f64 ux, .float .f64 uy, .float .f64 rs, .float .f64 rt, .bool mo, .float .f64 sp, .float .f64 mt, .bool li, .float .f64 lo, .float .f64 hi, .float .f64 p0, .float .f64 p1, .float .f64 p2] 30)).heap.size (w.alloc (.cells #[.int .u8 kq, .int .u32 sa, .int .u32 ua, .int .u32 sb, .int .u32 ub, .float .f64 ax, .float .f64 ay, .float .f64 bx, .float .f64 b_y, .float .f64 ux, .float .f64 uy, .float .f64 rs, .float .f64 rt, .bool mo, .float .f64 sp, .float .f64 mt, .bool li, .float .f64 lo, .float .f64 hi, .float .f64 p0, .float .f64 p1, .float .f64 p2] 30)) (.slice none 0 0) 0 (rowsL Q 0) := OwnR.nil 14 _ _; have m1 := True.intro) | go_values | go_skip | go_guarded | go_step | go_upon | go_back | dsimp only)
  obtain ⟨_, hO2 | ⟨g9, c9, e9, hg9, hc2, hm2, hRw2, _, _⟩⟩ := hO2
  · cases hO2.1
  obtain ⟨rfl, rfl⟩ : g9 = g2 ∧ c9 = c2 := by simp at e9; exact ⟨e9.1.symm, e9.2.symm⟩
  have hc2 : 0 ≤ c9 := by omega
  have hOwn := rw_rows hRw2
  have h77 := rw_last hRw2
  have hJ2 := rng_bel hJ0 B2
  have hRow := (hS.bel B0).bel B2
  have hcI : (0 : Int) ≤ (c9 : Int) := by omega
  have hI1 : (0 : Int) < ((0 + 1 : Nat) : Int) := by omega
  have hgg : g9 < w2.heap.size := World.block_lt_of_cell? _ _ h77
  clear e9 hO1 hRw2 hb2 B1 
  refine wp_region_new 12 rfl (fun i v => match i with | 0 => v = .agg #[.int .u8 kq, .int .u32 sa, .int .u32 ua, .int .u32 sb, .int .u32 ub, .float .f64 ax, .float .f64 ay, .float .f64 bx, .float .f64 b_y, .float .f64 ux, .float .f64 uy, .float .f64 rs, .float .f64 rt, .bool mo, .float .f64 sp, .float .f64 mt, .bool li, .float .f64 lo, .float .f64 hi, .float .f64 p0, .float .f64 p1, .float .f64 p2] | 1 => v = .slice (some ⟨g9, 0, none⟩) (0 + 1) c9 | 2 => v = .slice a1 0 cap | 3 => v = .int .i64 (0 : Int) | 4 => v = .slice (some ⟨g9, 0, none⟩) 0 c9 | 5 => v = .tuple #[.agg #[.int .u8 kq, .int .u32 sa, .int .u32 ua, .int .u32 sb, .int .u32 ub, .float .f64 ax, .float .f64 ay, .float .f64 bx, .float .f64 b_y, .float .f64 ux, .float .f64 uy, .float .f64 rs, .float .f64 rt, .bool mo, .float .f64 sp, .float .f64 mt, .bool li, .float .f64 lo, .float .f64 hi, .float .f64 (kpP Q 0 0), .float .f64 (kpP Q 0 1), .float .f64 (kpP Q 0 2)], .int .i64 0] | 6 => v = .tuple #[.agg #[.int .u8 kq, .int .u32 sa, .int .u32 ua, .int .u32 sb, .int .u32 ub, .float .f64 ax, .float .f64 ay, .float .f64 bx, .float .f64 b_y, .float .f64 ux, .float .f64 uy, .float .f64 rs, .float .f64 rt, .bool mo, .float .f64 sp, .float .f64 mt, .bool li, .float .f64 lo, .float .f64 hi, .float .f64 (kpP Q 0 0), .float .f64 (kpP Q 0 1), .float .f64 (kpP Q 0 2)], .int .i64 0] | 7 => v = .agg #[.int .u8 kq, .int .u32 sa, .int .u32 ua, .int .u32 sb, .int .u32 ub, .float .f64 ax, .float .f64 ay, .float .f64 bx, .float .f64 b_y, .float .f64 ux, .float .f64 uy, .float .f64 rs, .float .f64 rt, .bool mo, .float .f64 sp, .float .f64 mt, .bool li, .float .f64 lo, .float .f64 hi, .float .f64 (kpP Q 0 0), .float .f64 (kpP Q 0 1), .float .f64 (kpP Q 0 2)] | 8 => v = .int .i64 0 | 11 => v = .int .i64 0 | _ => False) [(9, #[.int .u8 0, .int .u32 0, .int .u32 0, .int .u32 0, .int .u32 0, .float .f64 0, .float .f64 0, .float .f64 0, .float .f64 0, .float .f64 0, .float .f64 0, .float .f64 0, .float .f64 0, .bool false, .float .f64 0, .float .f64 0, .bool false, .float .f64 0, .float .f64 0, .float .f64 0, .float .f64 0, .float .f64 0], 30)] [(10, 9, 7)] ?A_wn (by kernel_rfl) (by kernel_rfl) ?hA_wn ?ha_wn ?hst_wn ?hq_wn ?ht_wn
  case hA_wn =>
    intro s
    simp only [putL, dstO, Act.put, List.getElem?_toArray, List.getElem?_cons_zero, List.getElem?_cons_succ, Option.bind_some, List.setIfInBounds_toArray, List.set_cons_zero, List.set_cons_succ, if_true]
    all_goals exact rfl
  case ha_wn =>
    intro i o c ty hi ho hal B W K hK
    rcases (show i = 0 ∨ i = 1 ∨ i = 2 ∨ i = 3 ∨ i = 4 ∨ i = 5 ∨ i = 6 ∨ i = 7 ∨ i = 8 ∨ i = 9 ∨ i = 10 ∨ i = 11 by omega) with rfl | rfl | rfl | rfl | rfl | rfl | rfl | rfl | rfl | rfl | rfl | rfl
    · cases (show none = some (c, ty) from hal)
    · cases (show none = some (c, ty) from hal)
    · cases (show none = some (c, ty) from hal)
    · cases (show none = some (c, ty) from hal)
    · cases (show none = some (c, ty) from hal)
    · cases (show none = some (c, ty) from hal)
    · cases (show none = some (c, ty) from hal)
    · cases (show none = some (c, ty) from hal)
    · cases (show none = some (c, ty) from hal)
    · cases ho; cases (show some (#[.int .u8 0, .int .u32 0, .int .u32 0, .int .u32 0, .int .u32 0, .float .f64 0, .float .f64 0, .float .f64 0, .float .f64 0, .float .f64 0, .float .f64 0, .float .f64 0, .float .f64 0, .bool false, .float .f64 0, .float .f64 0, .bool false, .float .f64 0, .float .f64 0, .float .f64 0, .float .f64 0, .float .f64 0], 30) = some (c, ty) from hal); go_simp; exact hK.out
    · cases (show none = some (c, ty) from hal)
    · cases (show none = some (c, ty) from hal)
  case hst_wn =>
    intro t o a d c ty hlt ho hts hal s hs W b_9 eb hc hf K hK
    rcases (show t = 0 ∨ t = 1 ∨ t = 2 ∨ t = 3 ∨ t = 4 ∨ t = 5 ∨ t = 6 ∨ t = 7 ∨ t = 8 ∨ t = 9 ∨ t = 10 ∨ t = 11 by omega) with rfl | rfl | rfl | rfl | rfl | rfl | rfl | rfl | rfl | rfl | rfl | rfl
    · cases (show none = some (a, d) from hts)
    · cases (show none = some (a, d) from hts)
    · cases (show none = some (a, d) from hts)
    · cases (show none = some (a, d) from hts)
    · cases (show none = some (a, d) from hts)
    · cases (show none = some (a, d) from hts)
    · cases (show none = some (a, d) from hts)
    · cases (show none = some (a, d) from hts)
    · cases (show none = some (a, d) from hts)
    · cases (show none = some (a, d) from hts)
    · cases ho; cases (show some (9, 7) = some (a, d) from hts); cases (show some (#[.int .u8 0, .int .u32 0, .int .u32 0, .int .u32 0, .int .u32 0, .float .f64 0, .float .f64 0, .float .f64 0, .float .f64 0, .float .f64 0, .float .f64 0, .float .f64 0, .float .f64 0, .bool false, .float .f64 0, .float .f64 0, .bool false, .float .f64 0, .float .f64 0, .float .f64 0, .float .f64 0, .float .f64 0], 30) = some (c, ty) from hal)
      have e7 : s 7 = _ := hs 7 (by decide) rfl rfl (by kernel_rfl)
      obtain ⟨u0, hu0⟩ := Option.isSome_iff_exists.1 (hc 0 (by decide))
      obtain ⟨u1, hu1⟩ := Option.isSome_iff_exists.1 (hc 1 (by decide))
      obtain ⟨u2, hu2⟩ := Option.isSome_iff_exists.1 (hc 2 (by decide))
      obtain ⟨u3, hu3⟩ := Option.isSome_iff_exists.1 (hc 3 (by decide))
      obtain ⟨u4, hu4⟩ := Option.isSome_iff_exists.1 (hc 4 (by decide))
      obtain ⟨u5, hu5⟩ := Option.isSome_iff_exists.1 (hc 5 (by decide))
      obtain ⟨u6, hu6⟩ := Option.isSome_iff_exists.1 (hc 6 (by decide))
      obtain ⟨u7, hu7⟩ := Option.isSome_iff_exists.1 (hc 7 (by decide))
      obtain ⟨u8, hu8⟩ := Option.isSome_iff_exists.1 (hc 8 (by decide))
      obtain ⟨u9, hu9⟩ := Option.isSome_iff_exists.1 (hc 9 (by decide))
      obtain ⟨u10, hu10⟩ := Option.isSome_iff_exists.1 (hc 10 (by decide))
      obtain ⟨u11, hu11⟩ := Option.isSome_iff_exists.1 (hc 11 (by decide))
      obtain ⟨u12, hu12⟩ := Option.isSome_iff_exists.1 (hc 12 (by decide))
      obtain ⟨u13, hu13⟩ := Option.isSome_iff_exists.1 (hc 13 (by decide))
      obtain ⟨u14, hu14⟩ := Option.isSome_iff_exists.1 (hc 14 (by decide))
      obtain ⟨u15, hu15⟩ := Option.isSome_iff_exists.1 (hc 15 (by decide))
      obtain ⟨u16, hu16⟩ := Option.isSome_iff_exists.1 (hc 16 (by decide))
      obtain ⟨u17, hu17⟩ := Option.isSome_iff_exists.1 (hc 17 (by decide))
      obtain ⟨u18, hu18⟩ := Option.isSome_iff_exists.1 (hc 18 (by decide))
      obtain ⟨u19, hu19⟩ := Option.isSome_iff_exists.1 (hc 19 (by decide))
      obtain ⟨u20, hu20⟩ := Option.isSome_iff_exists.1 (hc 20 (by decide))
      obtain ⟨u21, hu21⟩ := Option.isSome_iff_exists.1 (hc 21 (by decide))
      simp only [eb, e7] at hK ⊢
      clear hs
      refine wp_store_mid (P := Try.prog) 30 _ _ rfl b_9 0 #[.int .u8 kq, .int .u32 sa, .int .u32 ua, .int .u32 sb, .int .u32 ub, .float .f64 ax, .float .f64 ay, .float .f64 bx, .float .f64 b_y, .float .f64 ux, .float .f64 uy, .float .f64 rs, .float .f64 rt, .bool mo, .float .f64 sp, .float .f64 mt, .bool li, .float .f64 lo, .float .f64 hi, .float .f64 (kpP Q 0 0), .float .f64 (kpP Q 0 1), .float .f64 (kpP Q 0 2)] rfl rfl (fun j hj => ⟨by rw [Nat.zero_add]; exact hc j hj, by rw [Nat.zero_add]; exact hf _⟩) (by kernel_rfl) (by kernel_rfl) ?_
      have hk := hK.out
      exact Eq.mp (congrArg (K _) (put22 b_9 _ _ _ _ _ _ _ _ _ _ _ _ _ _ _ _ _ _ _ _ _ _ W)) hk
    · cases (show none = some (a, d) from hts)
  case hq_wn =>
    intro i o hi hal hts ho s hs W hb K hK
    have hz9 := hb.size
    rcases (show i = 0 ∨ i = 1 ∨ i = 2 ∨ i = 3 ∨ i = 4 ∨ i = 5 ∨ i = 6 ∨ i = 7 ∨ i = 8 ∨ i = 9 ∨ i = 10 ∨ i = 11 by omega) with rfl | rfl | rfl | rfl | rfl | rfl | rfl | rfl | rfl | rfl | rfl | rfl
    · cases ho
      simp only [Act.put, List.setIfInBounds_toArray, List.set_cons_zero, List.set_cons_succ] at hK
      clear hs hal hts
      refine wp_load_mid (P := Try.prog) 30 _ rfl _ _ rfl _ _ (rng_bel hJ2 hb) Try.underlying30 rfl (by kernel_rfl) ?_
      exact hK.out _ _ rfl (bl_refl _)
    · cases ho
      simp only [Act.put, List.setIfInBounds_toArray, List.set_cons_zero, List.set_cons_succ] at hK
      clear hs hal hts
      go_simp
      all_goals (try go_wp2_with (first | (go_at_call 7; refine (keep_ok _ _ _ _ _ _ _ _ _ _ _ _ _ _ _ _ _ _ _ _ _ _ _ _ _ _ _ _ _ oax oay obx ob_y oux ouy ors ort osp omt olo ohi op0 op1 op2 he h3 hc2 hm2 (.inr rfl) (hOwn.bel hb) hR11).mono ?_; rintro e w' ⟨rfl, hb1⟩)))
      all_goals first | with_reducible exact hK.out _ _ rfl (bl_refl _) | with_reducible exact hK.out _ _ rfl hb1 | exact hK.out _ _ rfl (bl_refl _) | exact hK.out _ _ rfl (by assumption) | exact hK.out _ _ (by assumption) (by assumption)
    · cases ho
      simp only [Act.put, List.setIfInBounds_toArray, List.set_cons_zero, List.set_cons_succ] at hK
      clear hs hal hts
      go_simp
      all_goals (try go_wp2_with (first | (go_at_call 7; refine (keep_ok _ _ _ _ _ _ _ _ _ _ _ _ _ _ _ _ _ _ _ _ _ _ _ _ _ _ _ _ _ oax oay obx ob_y oux ouy ors ort osp omt olo ohi op0 op1 op2 he h3 hc2 hm2 (.inr rfl) (hOwn.bel hb) hR11).mono ?_; rintro e w' ⟨rfl, hb1⟩)))
      all_goals first | with_reducible exact hK.out _ _ rfl (bl_refl _) | with_reducible exact hK.out _ _ rfl hb1 | exact hK.out _ _ rfl (bl_refl _) | exact hK.out _ _ rfl (by assumption) | exact hK.out _ _ (by assumption) (by assumption)
    · cases ho
      have e2 : s 2 = _ := hs 2 (by decide) rfl rfl (by kernel_rfl)
      simp only [e2] at hK ⊢
      simp only [Act.put, List.setIfInBounds_toArray, List.set_cons_zero, List.set_cons_succ] at hK
      clear hs hal hts
      go_simp
      all_goals (try go_wp2_with (first | (go_at_call 7; refine (keep_ok _ _ _ _ _ _ _ _ _ _ _ _ _ _ _ _ _ _ _ _ _ _ _ _ _ _ _ _ _ oax oay obx ob_y oux ouy ors ort osp omt olo ohi op0 op1 op2 he h3 hc2 hm2 (.inr rfl) (hOwn.bel hb) hR11).mono ?_; rintro e w' ⟨rfl, hb1⟩)))
      all_goals first | with_reducible exact hK.out _ _ rfl (bl_refl _) | with_reducible exact hK.out _ _ rfl hb1 | exact hK.out _ _ rfl (bl_refl _) | exact hK.out _ _ rfl (by assumption) | exact hK.out _ _ (by assumption) (by assumption)
    · cases ho
      have e1 : s 1 = _ := hs 1 (by decide) rfl rfl (by kernel_rfl)
      have e3 : s 3 = _ := hs 3 (by decide) rfl rfl (by kernel_rfl)
      simp only [e1, e3] at hK ⊢
      simp only [Act.put, List.setIfInBounds_toArray, List.set_cons_zero, List.set_cons_succ] at hK
      clear hs hal hts
      go_simp
      all_goals (try go_wp2_with (first | (go_at_call 7; refine (keep_ok _ _ _ _ _ _ _ _ _ _ _ _ _ _ _ _ _ _ _ _ _ _ _ _ _ _ _ _ _ oax oay obx ob_y oux ouy ors ort osp omt olo ohi op0 op1 op2 he h3 hc2 hm2 (.inr rfl) (hOwn.bel hb) hR11).mono ?_; rintro e w' ⟨rfl, hb1⟩)))
      all_goals first | with_reducible exact hK.out _ _ rfl (bl_refl _) | with_reducible exact hK.out _ _ rfl hb1 | exact hK.out _ _ rfl (bl_refl _) | exact hK.out _ _ rfl (by assumption) | exact hK.out _ _ (by assumption) (by assumption)
    · cases ho
      have e0 : s 0 = _ := hs 0 (by decide) rfl rfl (by kernel_rfl)
      have e4 : s 4 = _ := hs 4 (by decide) rfl rfl (by kernel_rfl)
      simp only [e0, e4] at hK ⊢
      simp only [Act.put, List.setIfInBounds_toArray, List.set_cons_zero, List.set_cons_succ] at hK
      clear hs hal hts
      go_simp
      all_goals (try go_wp2_with (first | (go_at_call 7; refine (keep_ok _ _ _ _ _ _ _ _ _ _ _ _ _ _ _ _ _ _ _ _ _ _ _ _ _ _ _ _ _ oax oay obx ob_y oux ouy ors ort osp omt olo ohi op0 op1 op2 he h3 hc2 hm2 (.inr rfl) (hOwn.bel hb) hR11).mono ?_; rintro e w' ⟨rfl, hb1⟩)))
      all_goals first | with_reducible exact hK.out _ _ rfl (bl_refl _) | with_reducible exact hK.out _ _ rfl hb1 | exact hK.out _ _ rfl (bl_refl _) | exact hK.out _ _ rfl (by assumption) | exact hK.out _ _ (by assumption) (by assumption)
    · cases ho
      have e5 : s 5 = _ := hs 5 (by decide) rfl rfl (by kernel_rfl)
      simp only [e5] at hK ⊢
      simp only [Act.put, List.setIfInBounds_toArray, List.set_cons_zero, List.set_cons_succ] at hK
      clear hs hal hts
      go_simp
      all_goals (try go_wp2_with (first | (go_at_call 7; refine (keep_ok _ _ _ _ _ _ _ _ _ _ _ _ _ _ _ _ _ _ _ _ _ _ _ _ _ _ _ _ _ oax oay obx ob_y oux ouy ors ort osp omt olo ohi op0 op1 op2 he h3 hc2 hm2 (.inr rfl) (hOwn.bel hb) hR11).mono ?_; rintro e w' ⟨rfl, hb1⟩)))
      all_goals first | with_reducible exact hK.out _ _ rfl (bl_refl _) | with_reducible exact hK.out _ _ rfl hb1 | exact hK.out _ _ rfl (bl_refl _) | exact hK.out _ _ rfl (by assumption) | exact hK.out _ _ (by assumption) (by assumption)
    · cases ho
      have e6 : s 6 = _ := hs 6 (by decide) rfl rfl (by kernel_rfl)
      simp only [e6] at hK ⊢
      simp only [Act.put, List.setIfInBounds_toArray, List.set_cons_zero, List.set_cons_succ] at hK
      clear hs hal hts
      go_simp
      all_goals (try go_wp2_with (first | (go_at_call 7; refine (keep_ok _ _ _ _ _ _ _ _ _ _ _ _ _ _ _ _ _ _ _ _ _ _ _ _ _ _ _ _ _ oax oay obx ob_y oux ouy ors ort osp omt olo ohi op0 op1 op2 he h3 hc2 hm2 (.inr rfl) (hOwn.bel hb) hR11).mono ?_; rintro e w' ⟨rfl, hb1⟩)))
      all_goals first | with_reducible exact hK.out _ _ rfl (bl_refl _) | with_reducible exact hK.out _ _ rfl hb1 | exact hK.out _ _ rfl (bl_refl _) | exact hK.out _ _ rfl (by assumption) | exact hK.out _ _ (by assumption) (by assumption)
    · cases ho
      have e6 : s 6 = _ := hs 6 (by decide) rfl rfl (by kernel_rfl)
      simp only [e6] at hK ⊢
      simp only [Act.put, List.setIfInBounds_toArray, List.set_cons_zero, List.set_cons_succ] at hK
      clear hs hal hts
      go_simp
      all_goals (try go_wp2_with (first | (go_at_call 7; refine (keep_ok _ _ _ _ _ _ _ _ _ _ _ _ _ _ _ _ _ _ _ _ _ _ _ _ _ _ _ _ _ oax oay obx ob_y oux ouy ors ort osp omt olo ohi op0 op1 op2 he h3 hc2 hm2 (.inr rfl) (hOwn.bel hb) hR11).mono ?_; rintro e w' ⟨rfl, hb1⟩)))
      all_goals first | with_reducible exact hK.out _ _ rfl (bl_refl _) | with_reducible exact hK.out _ _ rfl hb1 | exact hK.out _ _ rfl (bl_refl _) | exact hK.out _ _ rfl (by assumption) | exact hK.out _ _ (by assumption) (by assumption)
    · cases (show some _ = none from hal)
    · cases (show some _ = none from hts)
    · cases ho
      have e8 : s 8 = _ := hs 8 (by decide) rfl rfl (by kernel_rfl)
      simp only [e8] at hK ⊢
      simp only [Act.put, List.setIfInBounds_toArray, List.set_cons_zero, List.set_cons_succ] at hK
      clear hs hal hts
      go_simp
      all_goals (try go_wp2_with (first | (go_at_call 7; refine (keep_ok _ _ _ _ _ _ _ _ _ _ _ _ _ _ _ _ _ _ _ _ _ _ _ _ _ _ _ _ _ oax oay obx ob_y oux ouy ors ort osp omt olo ohi op0 op1 op2 he h3 hc2 hm2 (.inr rfl) (hOwn.bel hb) hR11).mono ?_; rintro e w' ⟨rfl, hb1⟩)))
      all_goals first | with_reducible exact hK.out _ _ rfl (bl_refl _) | with_reducible exact hK.out _ _ rfl hb1 | exact hK.out _ _ rfl (bl_refl _) | exact hK.out _ _ rfl (by assumption) | exact hK.out _ _ (by assumption) (by assumption)
  case ht_wn =>
    intro s hs W hb hJ
    have e0 : s 0 = _ := hs 0 (by decide) rfl rfl
    have e1 : s 1 = _ := hs 1 (by decide) rfl rfl
    have e2 : s 2 = _ := hs 2 (by decide) rfl rfl
    have e3 : s 3 = _ := hs 3 (by decide) rfl rfl
    have e4 : s 4 = _ := hs 4 (by decide) rfl rfl
    have e5 : s 5 = _ := hs 5 (by decide) rfl rfl
    have e6 : s 6 = _ := hs 6 (by decide) rfl rfl
    have e7 : s 7 = _ := hs 7 (by decide) rfl rfl
    have e8 : s 8 = _ := hs 8 (by decide) rfl rfl
    have e11 : s 11 = _ := hs 11 (by decide) rfl rfl
    obtain ⟨p9, e9, n9, l9, cl9⟩ := hJ.1 9 _ _ (by decide) rfl rfl
    have k_p9_0 : W.cell? ⟨p9, 0, none⟩ = some (cellAt (s 7) 0) := cl9 0 (by decide)
    have k_p9_1 : W.cell? ⟨p9, 1, none⟩ = some (cellAt (s 7) 1) := cl9 1 (by decide)
    have k_p9_2 : W.cell? ⟨p9, 2, none⟩ = some (cellAt (s 7) 2) := cl9 2 (by decide)
    have k_p9_3 : W.cell? ⟨p9, 3, none⟩ = some (cellAt (s 7) 3) := cl9 3 (by decide)
    have k_p9_4 : W.cell? ⟨p9, 4, none⟩ = some (cellAt (s 7) 4) := cl9 4 (by decide)
    have k_p9_5 : W.cell? ⟨p9, 5, none⟩ = some (cellAt (s 7) 5) := cl9 5 (by decide)
    have k_p9_6 : W.cell? ⟨p9, 6, none⟩ = some (cellAt (s 7) 6) := cl9 6 (by decide)
    have k_p9_7 : W.cell? ⟨p9, 7, none⟩ = some (cellAt (s 7) 7) := cl9 7 (by decide)
    have k_p9_8 : W.cell? ⟨p9, 8, none⟩ = some (cellAt (s 7) 8) := cl9 8 (by decide)
    have k_p9_9 : W.cell? ⟨p9, 9, none⟩ = some (cellAt (s 7) 9) := cl9 9 (by decide)
    have k_p9_10 : W.cell? ⟨p9, 10, none⟩ = some (cellAt (s 7) 10) := cl9 10 (by decide)
    have k_p9_11 : W.cell? ⟨p9, 11, none⟩ = some (cellAt (s 7) 11) := cl9 11 (by decide)
    have k_p9_12 : W.cell? ⟨p9, 12, none⟩ = some (cellAt (s 7) 12) := cl9 12 (by decide)
    have k_p9_13 : W.cell? ⟨p9, 13, none⟩ = some (cellAt (s 7) 13) := cl9 13 (by decide)
    have k_p9_14 : W.cell? ⟨p9, 14, none⟩ = some (cellAt (s 7) 14) := cl9 14 (by decide)
    have k_p9_15 : W.cell? ⟨p9, 15, none⟩ = some (cellAt (s 7) 15) := cl9 15 (by decide)
    have k_p9_16 : W.cell? ⟨p9, 16, none⟩ = some (cellAt (s 7) 16) := cl9 16 (by decide)
    have k_p9_17 : W.cell? ⟨p9, 17, none⟩ = some (cellAt (s 7) 17) := cl9 17 (by decide)
    have k_p9_18 : W.cell? ⟨p9, 18, none⟩ = some (cellAt (s 7) 18) := cl9 18 (by decide)
    have k_p9_19 : W.cell? ⟨p9, 19, none⟩ = some (cellAt (s 7) 19) := cl9 19 (by decide)
    have k_p9_20 : W.cell? ⟨p9, 20, none⟩ = some (cellAt (s 7) 20) := cl9 20 (by decide)
    have k_p9_21 : W.cell? ⟨p9, 21, none⟩ = some (cellAt (s 7) 21) := cl9 21 (by decide)
    rw [e7] at k_p9_0 k_p9_1 k_p9_2 k_p9_3 k_p9_4 k_p9_5 k_p9_6 k_p9_7 k_p9_8 k_p9_9 k_p9_10 k_p9_11 k_p9_12 k_p9_13 k_p9_14 k_p9_15 k_p9_16 k_p9_17 k_p9_18 k_p9_19 k_p9_20 k_p9_21
    simp only [cellAt] at k_p9_0 k_p9_1 k_p9_2 k_p9_3 k_p9_4 k_p9_5 k_p9_6 k_p9_7 k_p9_8 k_p9_9 k_p9_10 k_p9_11 k_p9_12 k_p9_13 k_p9_14 k_p9_15 k_p9_16 k_p9_17 k_p9_18 k_p9_19 k_p9_20 k_p9_21
    simp only [e0, e1, e2, e3, e4, e5, e6, e7, e8, e11, e9]
    clear hs hJ e0 e1 e2 e3 e4 e5 e6 e7 e8 e11 e9 cl9
    have hP : W.rangeAt p9 0 [.int .u8 kq, .int .u32 sa, .int .u32 ua, .int .u32 sb, .int .u32 ub, .float .f64 ax, .float .f64 ay, .float .f64 bx, .float .f64 b_y, .float .f64 ux, .float .f64 uy, .float .f64 rs, .float .f64 rt, .bool mo, .float .f64 sp, .float .f64 mt, .bool li, .float .f64 lo, .float .f64 hi, .float .f64 (kpP Q 0 0), .float .f64 (kpP Q 0 1), .float .f64 (kpP Q 0 2)] := rjAll k_p9_0 k_p9_1 k_p9_2 k_p9_3 k_p9_4 k_p9_5 k_p9_6 k_p9_7 k_p9_8 k_p9_9 k_p9_10 k_p9_11 k_p9_12 k_p9_13 k_p9_14 k_p9_15 k_p9_16 k_p9_17 k_p9_18 k_p9_19 k_p9_20 k_p9_21
    clear k_p9_0 k_p9_1 k_p9_2 k_p9_3 k_p9_4 k_p9_5 k_p9_6 k_p9_7 k_p9_8 k_p9_9 k_p9_10 k_p9_11 k_p9_12 k_p9_13 k_p9_14 k_p9_15 k_p9_16 k_p9_17 k_p9_18 k_p9_19 k_p9_20 k_p9_21
    have hJ3 := rng_bel hJ2 hb
    have hOwn3 := hOwn.bel hb
    have hRow3 := hRow.bel hb
    have h773 := keep hb h77
    have BW := bl_trans B2 hb
    clear hJ2 hRow
    repeat (first | ((with_reducible show wpList _ _ _ ({ dst := _, op := Op.load 30 _, type := _, pos := _, after := _, guard := some _ } :: _) _ _); refine wpList_gload (by kernel_rfl) 30 _ rfl _ _ rfl _ _ (by first | with_reducible exact hP5 | with_reducible exact hN5) Try.underlying30 rfl (by kernel_rfl) ?_; simp only [go_sem]) | ((with_reducible show Oper.wp _ { dst := _, op := Op.load 30 _, type := _, pos := _, after := _, guard := _ } _ _ _ _); refine wp_load_mid (P := Try.prog) 30 _ rfl _ _ rfl _ _ (by first | with_reducible exact hJ3 | with_reducible exact hP5 | with_reducible exact hN5) Try.underlying30 rfl (by kernel_rfl) ?_; simp only [go_sem]) | (go_at_call 8; refine (rkeep_ok _ _ _ _ _ _ _ _ _ _ _ _ _ _ _ _ _ _ _ _ _ _ b off 0 cap _ Q _ oax oay obx ob_y oux ouy ors ort osp omt olo ohi op0 op1 op2 he h3 hcap hmax (.inl rfl) hRow3 hR11).mono ?_; rintro e w4 ⟨rfl, hb⟩; have B4 := hb; have hP4 := rng_bel hP hb; have hJ4 := rng_bel hJ3 hb; have hOwn4 := hOwn3.bel hb; have h774 := keep hb h773; have hz4 := hb.size; have hRow4 := hRow3.bel hb; have hX : (w4.alloc (.cells #[.int .u8 0, .int .u32 0, .int .u32 0, .int .u32 0, .int .u32 0, .float .f64 0, .float .f64 0, .float .f64 0, .float .f64 0, .float .f64 0, .float .f64 0, .float .f64 0, .float .f64 0, .bool false, .float .f64 0, .float .f64 0, .bool false, .float .f64 0, .float .f64 0, .float .f64 0, .float .f64 0, .float .f64 0] 30)).there w4.heap.size 0 22 := there_new w4 [.int .u8 0, .int .u32 0, .int .u32 0, .int .u32 0, .int .u32 0, .float .f64 0, .float .f64 0, .float .f64 0, .float .f64 0, .float .f64 0, .float .f64 0, .float .f64 0, .float .f64 0, .bool false, .float .f64 0, .float .f64 0, .bool false, .float .f64 0, .float .f64 0, .float .f64 0, .float .f64 0, .float .f64 0] 30; have hN5 : ((w4.alloc (.cells #[.int .u8 0, .int .u32 0, .int .u32 0, .int .u32 0, .int .u32 0, .float .f64 0, .float .f64 0, .float .f64 0, .float .f64 0, .float .f64 0, .float .f64 0, .float .f64 0, .float .f64 0, .bool false, .float .f64 0, .float .f64 0, .bool false, .float .f64 0, .float .f64 0, .float .f64 0, .float .f64 0, .float .f64 0] 30)).setCells w4.heap.size 0 [.int .u8 kq, .int .u32 sa, .int .u32 ua, .int .u32 sb, .int .u32 ub, .float .f64 ax, .float .f64 ay, .float .f64 bx, .float .f64 b_y, .float .f64 ux, .float .f64 uy, .float .f64 rs, .float .f64 rt, .bool mo, .float .f64 sp, .float .f64 mt, .bool li, .float .f64 lo, .float .f64 hi, .float .f64 (kpP Q 0 0), .float .f64 (kpP Q 0 1), .float .f64 (kpP Q 0 2)]).rangeAt w4.heap.size 0 [.int .u8 kq, .int .u32 sa, .int .u32 ua, .int .u32 sb, .int .u32 ub, .float .f64 ax, .float .f64 ay, .float .f64 bx, .float .f64 b_y, .float .f64 ux, .float .f64 uy, .float .f64 rs, .float .f64 rt, .bool mo, .float .f64 sp, .float .f64 mt, .bool li, .float .f64 lo, .float .f64 hi, .float .f64 (kpP Q 0 0), .float .f64 (kpP Q 0 1), .float .f64 (kpP Q 0 2)] := World.rangeAt_setCells_same _ _ _ _ hX; have B5 : Bel W ((w4.alloc (.cells #[.int .u8 0, .int .u32 0, .int .u32 0, .int .u32 0, .int .u32 0, .float .f64 0, .float .f64 0, .float .f64 0, .float .f64 0, .float .f64 0, .float .f64 0, .float .f64 0, .float .f64 0, .bool false, .float .f64 0, .float .f64 0, .bool false, .float .f64 0, .float .f64 0, .float .f64 0, .float .f64 0, .float .f64 0] 30)).setCells w4.heap.size 0 [.int .u8 kq, .int .u32 sa, .int .u32 ua, .int .u32 sb, .int .u32 ub, .float .f64 ax, .float .f64 ay, .float .f64 bx, .float .f64 b_y, .float .f64 ux, .float .f64 uy, .float .f64 rs, .float .f64 rt, .bool mo, .float .f64 sp, .float .f64 mt, .bool li, .float .f64 lo, .float .f64 hi, .float .f64 (kpP Q 0 0), .float .f64 (kpP Q 0 1), .float .f64 (kpP Q 0 2)]) := bel_setsJ _ _ (bl_alloc B4 _ _) hz4; have hP5 := rng_bel hP B5; have hOwn5 := hOwn3.bel B5; have hRow5 := hRow3.bel B5; have h775 := keep B5 h773; clear hP4 hJ4 hOwn4 h774 hRow4) | ((with_reducible show Oper.wp _ { dst := _, op := Op.store 30 _ _, type := _, pos := _, after := _, guard := _ } _ _ _ _); refine wp_store_mid (P := Try.prog) 30 _ _ rfl (w4.heap.size) (0) #[.int .u8 kq, .int .u32 sa, .int .u32 ua, .int .u32 sb, .int .u32 ub, .float .f64 ax, .float .f64 ay, .float .f64 bx, .float .f64 b_y, .float .f64 ux, .float .f64 uy, .float .f64 rs, .float .f64 rt, .bool mo, .float .f64 sp, .float .f64 mt, .bool li, .float .f64 lo, .float .f64 hi, .float .f64 (kpP Q 0 0), .float .f64 (kpP Q 0 1), .float .f64 (kpP Q 0 2)] rfl rfl hX (by kernel_rfl) (by kernel_rfl) ?_; simp only [go_sem]) | (go_at_call 9; refine (sameJ_j _ _ _ _ _ _ _ _ _ _ _ _ _ _ _ _ _ _ _ _ _ _ _ oax oay obx ob_y oux ouy ors ort osp omt olo ohi (kp_ok _ _ _ hO) (kp_ok _ _ _ hO) (kp_ok _ _ _ hO)).mono ?_; rintro e w6 ⟨rfl, hb⟩; have B6 := bl_trans B5 hb; have hOwn6 := hOwn5.bel hb; have hRow6 := hRow5.bel hb; have h776 := keep hb h775; clear hOwn5 hRow5 h775 hP5 hN5) | (go_at_call 10; refine (sameRows_nil _ _ _ _ _).mono ?_; rintro e w7 ⟨rfl, hb⟩; have B7 := bl_trans B6 hb; have h777 := keep hb h776) | go_values | go_skip | go_guarded | go_step | go_upon | go_back | dsimp only)
    go_ret
    exact ⟨rfl, (bl_trans (bl_alloc (bl_refl w) _ _) (bl_trans BW B7)).1⟩

end Go.Proofs.Ytfjlonnmhioleaa
