/-
  What each function of package poly answers, and what the reference of its chapter answers: one contract a function, for every float: the answer stands in the relation of its formula to what was given; of the memory that was there nothing has turned.
-/
import Derived.Test.YtfohggiehbplkaaVec
import Derived.Test.YtfohggiehbplkaaKj
import Derived.Test.YtfohggiehbplkaaKg
import Derived.Test.YtfohggiehbplkaaWl
import Derived.Below
import Derived.WalkKit
import Derived.WalkLawsBesides
import Derived.WalkSpells
import Derived.ProofKit
import Derived.OpenShut
import Derived.Deep.RegionHeld3
namespace Go.Proofs.Ytfohggiehbplkaa
open Go.ChangeShapes Go.WideShapes Go.ChangeAt Go.RowKit
set_option linter.unusedVariables false
set_option linter.unusedSimpArgs false


theorem sameRow_eq20 (R : RD) (w : World) : Calls Try.prog 56 #[.agg #[.int .i64 R.ra, .int .i64 R.rb, .float .f64 R.r2, .float .f64 R.r3, .float .f64 R.r4, .float .f64 R.r5, .float .f64 R.r6, .float .f64 R.r7, .float .f64 R.r8, .float .f64 R.r9, .float .f64 R.r10, .float .f64 R.r11, .int .i64 R.ro, .float .f64 R.r13], .agg #[.int .i64 R.ra, .int .i64 R.rb, .float .f64 R.r2, .float .f64 R.r3, .float .f64 R.r4, .float .f64 R.r5, .float .f64 R.r6, .float .f64 R.r7, .float .f64 R.r8, .float .f64 R.r9, .float .f64 R.r10, .float .f64 R.r11, .int .i64 R.ro, .float .f64 R.r13]] w fun e w' => e = .returned (.bool true) ∧ Bel w w' :=
  sameRow20 R R w (by simp) (by simp) (by simp) (sm_self9 _) (sm_self9 _) (sm_self9 _) (sm_self9 _) (sm_self9 _) (sm_self9 _) (sm_self9 _) (sm_self9 _) (sm_self9 _) (sm_self9 _) (sm_self9 _)
set_option maxRecDepth 100000 in
set_option maxHeartbeats 4000000 in
theorem sameRows20 (ab ao ac bb bo bc n : Nat) (as_ bs_ : Option Addr) (Q : Nat → RD) (w : World) (ha : n = 0 ∨ as_ = some ⟨ab, ao, none⟩) (hb_ : n = 0 ∨ bs_ = some ⟨bb, bo, none⟩) (h1 : n ≤ ac) (h2 : n ≤ bc) (hn : n ≤ 1048577) (hS : Rws w ab ao n Q) (hT : Rws w bb bo n Q) : Calls Try.prog 15 #[.slice as_ n ac, .slice bs_ n bc] w fun e w' => e = .returned (.bool true) ∧ Bel w w' := by
  go_enter Try.func15, Try.ntmps15
  repeat (first | go_values | go_skip | go_guarded | go_step | go_upon | go_back | dsimp only)
  go_loopw [5] (fun i wr => ∃ k : Nat, k ≤ n ∧ i = .int .i64 k ∧ Bel w wr) (fun i _ => n - (intOf i).toNat)
  case atStart => exact ⟨0, by omega, rfl, bl_refl _⟩
  case round =>
    obtain ⟨k, hk, rfl, hB⟩ := hrel
    by_cases hlt : k < n
    · have e1 : as_ = some ⟨ab, ao, none⟩ := by rcases ha with h | h; omega; exact h
      have e2 : bs_ = some ⟨bb, bo, none⟩ := by rcases hb_ with h | h; omega; exact h
      subst e1 e2
      have hkI : (k : Int) < (n : Int) := by omega
      have hx0 : wr.rangeAt ab (ao + k * 14) [.int .i64 (Q k).ra, .int .i64 (Q k).rb, .float .f64 (Q k).r2, .float .f64 (Q k).r3, .float .f64 (Q k).r4, .float .f64 (Q k).r5, .float .f64 (Q k).r6, .float .f64 (Q k).r7, .float .f64 (Q k).r8, .float .f64 (Q k).r9, .float .f64 (Q k).r10, .float .f64 (Q k).r11, .int .i64 (Q k).ro, .float .f64 (Q k).r13] := (hS.bel hB) k hlt
      have hy0 : wr.rangeAt bb (bo + k * 14) [.int .i64 (Q k).ra, .int .i64 (Q k).rb, .float .f64 (Q k).r2, .float .f64 (Q k).r3, .float .f64 (Q k).r4, .float .f64 (Q k).r5, .float .f64 (Q k).r6, .float .f64 (Q k).r7, .float .f64 (Q k).r8, .float .f64 (Q k).r9, .float .f64 (Q k).r10, .float .f64 (Q k).r11, .int .i64 (Q k).ro, .float .f64 (Q k).r13] := (hT.bel hB) k hlt
      clear hS hT
      repeat (first | go_values | go_skip | go_guarded | go_step | go_upon | go_back | dsimp only)
      refine wp_region_mono 10 rfl (fun i W v => match i with | 0 => v = .slice (some ⟨ab, ao, none⟩) n ac | 1 => v = .int .i64 (k : Int) | 2 => v = .pointer (some ⟨ab, ao + k * 14, none⟩) | 3 => v = .agg #[.int .i64 (Q k).ra, .int .i64 (Q k).rb, .float .f64 (Q k).r2, .float .f64 (Q k).r3, .float .f64 (Q k).r4, .float .f64 (Q k).r5, .float .f64 (Q k).r6, .float .f64 (Q k).r7, .float .f64 (Q k).r8, .float .f64 (Q k).r9, .float .f64 (Q k).r10, .float .f64 (Q k).r11, .int .i64 (Q k).ro, .float .f64 (Q k).r13] | 4 => v = .slice (some ⟨bb, bo, none⟩) n bc | 5 => v = .int .i64 (k : Int) | 6 => v = .pointer (some ⟨bb, bo + k * 14, none⟩) | 7 => v = .agg #[.int .i64 (Q k).ra, .int .i64 (Q k).rb, .float .f64 (Q k).r2, .float .f64 (Q k).r3, .float .f64 (Q k).r4, .float .f64 (Q k).r5, .float .f64 (Q k).r6, .float .f64 (Q k).r7, .float .f64 (Q k).r8, .float .f64 (Q k).r9, .float .f64 (Q k).r10, .float .f64 (Q k).r11, .int .i64 (Q k).ro, .float .f64 (Q k).r13] | 8 => v = .bool true | 9 => v = .bool true | _ => False) ?A_wu (by kernel_rfl) (by kernel_rfl) ?hA_wu ?hmo_wu ?hq_wu ?ht_wu
      case hA_wu =>
        intro s
        simp only [putL, dstO, Act.put, List.getElem?_toArray, List.getElem?_cons_zero, List.getElem?_cons_succ, Option.bind_some, List.setIfInBounds_toArray, List.set_cons_zero, List.set_cons_succ, if_true]
        all_goals exact rfl
      case hmo_wu =>
        intro i W W' v hi hb h
        rcases (show i = 0 ∨ i = 1 ∨ i = 2 ∨ i = 3 ∨ i = 4 ∨ i = 5 ∨ i = 6 ∨ i = 7 ∨ i = 8 ∨ i = 9 by omega) with rfl | rfl | rfl | rfl | rfl | rfl | rfl | rfl | rfl | rfl
        all_goals exact h
      case hq_wu =>
        intro i o hi ho s W hs hb K hK
        rcases (show i = 0 ∨ i = 1 ∨ i = 2 ∨ i = 3 ∨ i = 4 ∨ i = 5 ∨ i = 6 ∨ i = 7 ∨ i = 8 ∨ i = 9 by omega) with rfl | rfl | rfl | rfl | rfl | rfl | rfl | rfl | rfl | rfl
        · cases ho
          simp only [Act.put, List.setIfInBounds_toArray, List.set_cons_zero, List.set_cons_succ] at hK
          clear hs
          go_simp
          all_goals first | with_reducible exact hK.out _ _ rfl (bl_refl _) | exact hK.out _ _ rfl (bl_refl _)
        · cases ho
          simp only [Act.put, List.setIfInBounds_toArray, List.set_cons_zero, List.set_cons_succ] at hK
          clear hs
          go_simp
          all_goals first | with_reducible exact hK.out _ _ rfl (bl_refl _) | exact hK.out _ _ rfl (bl_refl _)
        · cases ho
          have e0 : s 0 = _ := hs 0 (by decide) (by kernel_rfl)
          have e1 : s 1 = _ := hs 1 (by decide) (by kernel_rfl)
          simp only [e0, e1] at hK ⊢
          simp only [Act.put, List.setIfInBounds_toArray, List.set_cons_zero, List.set_cons_succ] at hK
          clear hs
          go_simp
          all_goals first | with_reducible exact hK.out _ _ rfl (bl_refl _) | exact hK.out _ _ rfl (bl_refl _)
        · cases ho
          have e2 : s 2 = _ := hs 2 (by decide) (by kernel_rfl)
          simp only [e2] at hK ⊢
          simp only [Act.put, List.setIfInBounds_toArray, List.set_cons_zero, List.set_cons_succ] at hK
          clear hs
          refine wp_load_mid (P := Try.prog) 43 _ rfl _ _ rfl [.int .i64 (Q k).ra, .int .i64 (Q k).rb, .float .f64 (Q k).r2, .float .f64 (Q k).r3, .float .f64 (Q k).r4, .float .f64 (Q k).r5, .float .f64 (Q k).r6, .float .f64 (Q k).r7, .float .f64 (Q k).r8, .float .f64 (Q k).r9, .float .f64 (Q k).r10, .float .f64 (Q k).r11, .int .i64 (Q k).ro, .float .f64 (Q k).r13] _ (rng_bel hx0 hb) Try.underlying43 rfl (by kernel_rfl) ?_; exact hK.out _ _ rfl (bl_refl _)
        · cases ho
          simp only [Act.put, List.setIfInBounds_toArray, List.set_cons_zero, List.set_cons_succ] at hK
          clear hs
          go_simp
          all_goals first | with_reducible exact hK.out _ _ rfl (bl_refl _) | exact hK.out _ _ rfl (bl_refl _)
        · cases ho
          simp only [Act.put, List.setIfInBounds_toArray, List.set_cons_zero, List.set_cons_succ] at hK
          clear hs
          go_simp
          all_goals first | with_reducible exact hK.out _ _ rfl (bl_refl _) | exact hK.out _ _ rfl (bl_refl _)
        · cases ho
          have e4 : s 4 = _ := hs 4 (by decide) (by kernel_rfl)
          have e5 : s 5 = _ := hs 5 (by decide) (by kernel_rfl)
          simp only [e4, e5] at hK ⊢
          simp only [Act.put, List.setIfInBounds_toArray, List.set_cons_zero, List.set_cons_succ] at hK
          clear hs
          go_simp
          all_goals first | with_reducible exact hK.out _ _ rfl (bl_refl _) | exact hK.out _ _ rfl (bl_refl _)
        · cases ho
          have e6 : s 6 = _ := hs 6 (by decide) (by kernel_rfl)
          simp only [e6] at hK ⊢
          simp only [Act.put, List.setIfInBounds_toArray, List.set_cons_zero, List.set_cons_succ] at hK
          clear hs
          refine wp_load_mid (P := Try.prog) 43 _ rfl _ _ rfl [.int .i64 (Q k).ra, .int .i64 (Q k).rb, .float .f64 (Q k).r2, .float .f64 (Q k).r3, .float .f64 (Q k).r4, .float .f64 (Q k).r5, .float .f64 (Q k).r6, .float .f64 (Q k).r7, .float .f64 (Q k).r8, .float .f64 (Q k).r9, .float .f64 (Q k).r10, .float .f64 (Q k).r11, .int .i64 (Q k).ro, .float .f64 (Q k).r13] _ (rng_bel hy0 hb) Try.underlying43 rfl (by kernel_rfl) ?_; exact hK.out _ _ rfl (bl_refl _)
        · cases ho
          have e3 : s 3 = _ := hs 3 (by decide) (by kernel_rfl)
          have e7 : s 7 = _ := hs 7 (by decide) (by kernel_rfl)
          simp only [e3, e7] at hK ⊢
          simp only [Act.put, List.setIfInBounds_toArray, List.set_cons_zero, List.set_cons_succ] at hK
          clear hs
          go_simp
          all_goals (try go_wp2_with (first | (go_at_call 56; (with_reducible refine (sameRow_eq20 (Q k) _).mono ?_); rintro e w' ⟨rfl, hb1⟩)))
          all_goals first | exact hK.out _ _ rfl hb1 | exact hK.out _ _ rfl hb1 | with_reducible exact hK.out _ _ rfl (bl_refl _) | exact hK.out _ _ rfl (bl_refl _)
        · cases ho
          have e8 : s 8 = _ := hs 8 (by decide) (by kernel_rfl)
          simp only [e8] at hK ⊢
          simp only [Act.put, List.setIfInBounds_toArray, List.set_cons_zero, List.set_cons_succ] at hK
          clear hs
          go_simp
          all_goals first | with_reducible exact hK.out _ _ rfl (bl_refl _) | exact hK.out _ _ rfl (bl_refl _)
      case ht_wu =>
        intro s W hs hb
        have e0 : s 0 = _ := hs 0 (by decide)
        have e1 : s 1 = _ := hs 1 (by decide)
        have e2 : s 2 = _ := hs 2 (by decide)
        have e3 : s 3 = _ := hs 3 (by decide)
        have e4 : s 4 = _ := hs 4 (by decide)
        have e5 : s 5 = _ := hs 5 (by decide)
        have e6 : s 6 = _ := hs 6 (by decide)
        have e7 : s 7 = _ := hs 7 (by decide)
        have e8 : s 8 = _ := hs 8 (by decide)
        have e9 : s 9 = _ := hs 9 (by decide)
        simp only [e0, e1, e2, e3, e4, e5, e6, e7, e8, e9]
        clear hs e0 e1 e2 e3 e4 e5 e6 e7 e8 e9
        repeat (first | go_values | go_skip | go_guarded | go_step | go_upon | go_back | dsimp only)
        exact ⟨⟨k + 1, by omega, by go_num, bl_trans hB hb⟩, by simp [intOf]; omega⟩
    · have hkn : k = n := by omega
      subst hkn
      repeat (first | go_values | go_skip | go_guarded | go_step | go_upon | go_back | dsimp only)
      go_ret
      exact ⟨rfl, hB⟩

set_option maxRecDepth 100000 in
set_option maxHeartbeats 4000000 in
theorem borrowed_w (T : TD) (pb po pn pc_ : Nat) (ps : Option Addr) (P : Nat → PD) (w : World) (hps : pn = 0 ∨ ps = some ⟨pb, po, none⟩) (hpc : pn ≤ pc_) (hpm : pc_ ≤ maxLen) (hp : Pts w pb po pn P) (op : ∀ i, i < pn → pok (P i)) (hp8 : pn ≤ 100000) : Calls Try.prog 10 #[.agg #[.int .i64 T.ta, .int .i64 T.tp, .int .i64 T.tb, .int .i64 T.tq, .bool T.ts, .float .f64 T.tx, .float .f64 T.ty, .slice ps pn pc_]] w fun e w' => ∃ g cap, pn + 1 ≤ cap ∧ cap ≤ maxLen ∧ w.heap.size ≤ g ∧ Pts w' g 0 pn P ∧ w'.cell? ⟨g, pn * 6 + 3, none⟩ = some (.int .u32 77) ∧ e = .returned (.agg #[.int .i64 T.ta, .int .i64 T.tp, .int .i64 T.tb, .int .i64 T.tq, .bool T.ts, .float .f64 T.tx, .float .f64 T.ty, (.slice (some ⟨g, 0, none⟩) pn cap)]) ∧ Bel w w' := by
  have hpm9 := hpm
  unfold maxLen at hpm
  have hz0 : ((w.alloc (.cells #[.int .i64 T.ta, .int .i64 T.tp, .int .i64 T.tb, .int .i64 T.tq, .bool T.ts, .float .f64 T.tx, .float .f64 T.ty, .slice ps pn pc_] 29)).alloc (.cells #[.int .i64 0, .int .i64 0, .int .i64 0, .int .i64 0, .bool false, .float .f64 0, .float .f64 0, .slice none 0 0] 29)).heap.size = w.heap.size + 1 + 1 := by simp only [World.size_alloc]
  have hT : ((w.alloc (.cells #[.int .i64 T.ta, .int .i64 T.tp, .int .i64 T.tb, .int .i64 T.tq, .bool T.ts, .float .f64 T.tx, .float .f64 T.ty, .slice ps pn pc_] 29)).alloc (.cells #[.int .i64 0, .int .i64 0, .int .i64 0, .int .i64 0, .bool false, .float .f64 0, .float .f64 0, .slice none 0 0] 29)).rangeAt (w.heap.size) 0 [.int .i64 T.ta, .int .i64 T.tp, .int .i64 T.tb, .int .i64 T.tq, .bool T.ts, .float .f64 T.tx, .float .f64 T.ty, .slice ps pn pc_] := World.rangeAt_alloc (rng_new w [.int .i64 T.ta, .int .i64 T.tp, .int .i64 T.tb, .int .i64 T.tq, .bool T.ts, .float .f64 T.tx, .float .f64 T.ty, .slice ps pn pc_] 29) _
  have hTt : ((w.alloc (.cells #[.int .i64 T.ta, .int .i64 T.tp, .int .i64 T.tb, .int .i64 T.tq, .bool T.ts, .float .f64 T.tx, .float .f64 T.ty, .slice ps pn pc_] 29)).alloc (.cells #[.int .i64 0, .int .i64 0, .int .i64 0, .int .i64 0, .bool false, .float .f64 0, .float .f64 0, .slice none 0 0] 29)).there (w.heap.size) 0 8 := World.there_alloc (there_new w [.int .i64 T.ta, .int .i64 T.tp, .int .i64 T.tb, .int .i64 T.tq, .bool T.ts, .float .f64 T.tx, .float .f64 T.ty, .slice ps pn pc_] 29) _
  have hU : ((w.alloc (.cells #[.int .i64 T.ta, .int .i64 T.tp, .int .i64 T.tb, .int .i64 T.tq, .bool T.ts, .float .f64 T.tx, .float .f64 T.ty, .slice ps pn pc_] 29)).alloc (.cells #[.int .i64 0, .int .i64 0, .int .i64 0, .int .i64 0, .bool false, .float .f64 0, .float .f64 0, .slice none 0 0] 29)).there (w.heap.size + 1) 0 8 := by have h := there_new (w.alloc (.cells #[.int .i64 T.ta, .int .i64 T.tp, .int .i64 T.tb, .int .i64 T.tq, .bool T.ts, .float .f64 T.tx, .float .f64 T.ty, .slice ps pn pc_] 29)) [.int .i64 0, .int .i64 0, .int .i64 0, .int .i64 0, .bool false, .float .f64 0, .float .f64 0, .slice none 0 0] 29; rwa [World.size_alloc] at h
  have BB : Bel w ((w.alloc (.cells #[.int .i64 T.ta, .int .i64 T.tp, .int .i64 T.tb, .int .i64 T.tq, .bool T.ts, .float .f64 T.tx, .float .f64 T.ty, .slice ps pn pc_] 29)).alloc (.cells #[.int .i64 0, .int .i64 0, .int .i64 0, .int .i64 0, .bool false, .float .f64 0, .float .f64 0, .slice none 0 0] 29)) := bl_alloc (bl_alloc (bl_refl w) _ _) _ _
  have kS : ((w.alloc (.cells #[.int .i64 T.ta, .int .i64 T.tp, .int .i64 T.tb, .int .i64 T.tq, .bool T.ts, .float .f64 T.tx, .float .f64 T.ty, .slice ps pn pc_] 29)).alloc (.cells #[.int .i64 0, .int .i64 0, .int .i64 0, .int .i64 0, .bool false, .float .f64 0, .float .f64 0, .slice none 0 0] 29)).cell? ⟨w.heap.size, 7, none⟩ = some (.slice ps pn pc_) := by have h := hT 7 _ rfl; rwa [Nat.zero_add] at h
  have b0 : Bel ((w.alloc (.cells #[.int .i64 T.ta, .int .i64 T.tp, .int .i64 T.tb, .int .i64 T.tq, .bool T.ts, .float .f64 T.tx, .float .f64 T.ty, .slice ps pn pc_] 29)).alloc (.cells #[.int .i64 0, .int .i64 0, .int .i64 0, .int .i64 0, .bool false, .float .f64 0, .float .f64 0, .slice none 0 0] 29)) (((w.alloc (.cells #[.int .i64 T.ta, .int .i64 T.tp, .int .i64 T.tb, .int .i64 T.tq, .bool T.ts, .float .f64 T.tx, .float .f64 T.ty, .slice ps pn pc_] 29)).alloc (.cells #[.int .i64 0, .int .i64 0, .int .i64 0, .int .i64 0, .bool false, .float .f64 0, .float .f64 0, .slice none 0 0] 29)).alloc (.cells #[] 39)) := bl_alloc (bl_refl _) _ _
  have kSE := keep b0 kS
  have hzE : (((w.alloc (.cells #[.int .i64 T.ta, .int .i64 T.tp, .int .i64 T.tb, .int .i64 T.tq, .bool T.ts, .float .f64 T.tx, .float .f64 T.ty, .slice ps pn pc_] 29)).alloc (.cells #[.int .i64 0, .int .i64 0, .int .i64 0, .int .i64 0, .bool false, .float .f64 0, .float .f64 0, .slice none 0 0] 29)).alloc (.cells #[] 39)).heap.size = w.heap.size + 1 + 1 + 1 := by simp only [World.size_alloc]
  obtain ⟨v1, w1, hr1, hO1, hB1⟩ : ∃ v1 w1, (Builtin.append_ #[27, 27] 27 #[.slice (some ⟨w.heap.size + 1 + 1, 0, none⟩) 0 0, .slice ps pn pc_]).run Try.prog (((w.alloc (.cells #[.int .i64 T.ta, .int .i64 T.tp, .int .i64 T.tb, .int .i64 T.tq, .bool T.ts, .float .f64 T.tx, .float .f64 T.ty, .slice ps pn pc_] 29)).alloc (.cells #[.int .i64 0, .int .i64 0, .int .i64 0, .int .i64 0, .bool false, .float .f64 0, .float .f64 0, .slice none 0 0] 29)).alloc (.cells #[] 39)) = .ok v1 w1 ∧ OwnR 6 (w.heap.size + 1 + 1) w1 v1 pn (ptsL P pn) ∧ Bel ((w.alloc (.cells #[.int .i64 T.ta, .int .i64 T.tp, .int .i64 T.tb, .int .i64 T.tq, .bool T.ts, .float .f64 T.tx, .float .f64 T.ty, .slice ps pn pc_] 29)).alloc (.cells #[.int .i64 0, .int .i64 0, .int .i64 0, .int .i64 0, .bool false, .float .f64 0, .float .f64 0, .slice none 0 0] 29)) w1 := by
    have hz := ownR_zero 6 ((w.alloc (.cells #[.int .i64 T.ta, .int .i64 T.tp, .int .i64 T.tb, .int .i64 T.tq, .bool T.ts, .float .f64 T.tx, .float .f64 T.ty, .slice ps pn pc_] 29)).alloc (.cells #[.int .i64 0, .int .i64 0, .int .i64 0, .int .i64 0, .bool false, .float .f64 0, .float .f64 0, .slice none 0 0] 29)) 39
    rw [hz0] at hz
    rcases Nat.eq_zero_or_pos pn with hz9 | hp1
    · subst hz9
      exact ⟨_, _, run_app0p _ _ _ _ _, hz, b0⟩
    · have e9 : ps = some ⟨pb, po, none⟩ := by rcases hps with h | h; omega; exact h
      obtain ⟨v', w', a1, a2, _, a4⟩ := run_appR (P := Try.prog) 27 27 39 Try.underlying27 info_point rfl pb po pn pc_ hz (ptsL_len P pn) (ptsL_rw ((hp.bel BB).bel b0)) (ptsL_one P pn) hp1 (by omega) (by unfold maxLen; omega) (by omega)
      rw [← e9] at a1
      simp only [Nat.zero_add, List.nil_append] at a2
      exact ⟨v', w', a1, a2, a4 _ b0 (by omega)⟩
  have hb : Bel w1 (w1.alloc (.cells #[.float .f64 0, .float .f64 0, .float .f64 0, .int .u32 77, .float .f64 0, .float .f64 0] 39)) := bl_alloc (bl_refl _) _ _
  obtain ⟨v2, w2, hr2, hO2, ⟨g, cap, rfl⟩, hB2⟩ := run_appR (P := Try.prog) 27 27 39 Try.underlying27 info_point rfl w1.heap.size 0 1 1 (hO1.bel hb) (N := [.float .f64 0, .float .f64 0, .float .f64 0, .int .u32 77, .float .f64 0, .float .f64 0]) rfl (rng_new w1 [.float .f64 0, .float .f64 0, .float .f64 0, .int .u32 77, .float .f64 0, .float .f64 0] 39) (by intro u hu; simp only [List.mem_cons, List.not_mem_nil, or_false] at hu; rcases hu with rfl | rfl | rfl | rfl | rfl | rfl <;> rfl) (by decide) (by have h1 := (bl_trans hB1 hb).size; omega) (by unfold maxLen; omega) (by omega)
  have hW2 := hB2 ((w.alloc (.cells #[.int .i64 T.ta, .int .i64 T.tp, .int .i64 T.tb, .int .i64 T.tq, .bool T.ts, .float .f64 T.tx, .float .f64 T.ty, .slice ps pn pc_] 29)).alloc (.cells #[.int .i64 0, .int .i64 0, .int .i64 0, .int .i64 0, .bool false, .float .f64 0, .float .f64 0, .slice none 0 0] 29)) (bl_trans hB1 hb) (by omega)
  obtain ⟨g1, g2, g3, g4, g5⟩ := own_there hO2
  have hP2 : Pts w2 g 0 pn P := ptsL_at g4
  have h77 : w2.cell? ⟨g, pn * 6 + 3, none⟩ = some (.int .u32 77) := by
    have h7 := g4 (pn * 6 + 3) (.int .u32 77) (by rw [List.getElem?_append_right (by rw [ptsL_len]; omega), ptsL_len, Nat.add_sub_cancel_left]; rfl)
    rwa [Nat.zero_add] at h7
  clear g4 g5 hO2 hO1 hB2
  have kS1 := keep hB1 kS
  replace hT := rng_bel hT hW2
  have kS2 := keep hW2 kS
  have fS := (bel_there hTt hW2 7 (by decide)).2
  rw [Nat.zero_add] at fS
  replace hU := bel_there hU hW2
  have hT4 : (w2.setCell ⟨w.heap.size, 7, none⟩ (.slice (some ⟨g, 0, none⟩) pn cap)).rangeAt (w.heap.size) 0 [.int .i64 T.ta, .int .i64 T.tp, .int .i64 T.tb, .int .i64 T.tq, .bool T.ts, .float .f64 T.tx, .float .f64 T.ty, (.slice (some ⟨g, 0, none⟩) pn cap)] := rng_upd (k := 7) (v := (.slice (some ⟨g, 0, none⟩) pn cap)) hT (by simp)
  have hU4 : (w2.setCell ⟨w.heap.size, 7, none⟩ (.slice (some ⟨g, 0, none⟩) pn cap)).there (w.heap.size + 1) 0 8 := there_set hU
  have hP4 : Pts (w2.setCell ⟨w.heap.size, 7, none⟩ (.slice (some ⟨g, 0, none⟩) pn cap)) g 0 pn P := fun i hi => rng_set_far (hP2 i hi) (by simp; omega)
  have h74 : (w2.setCell ⟨w.heap.size, 7, none⟩ (.slice (some ⟨g, 0, none⟩) pn cap)).cell? ⟨g, pn * 6 + 3, none⟩ = some (.int .u32 77) := by rw [World.cell?_setCell_other _ _ _ _ (by intro e; injection e with e1 e2; omega)]; exact h77
  have hB4 : Bel w (w2.setCell ⟨w.heap.size, 7, none⟩ (.slice (some ⟨g, 0, none⟩) pn cap)) := bl_set (bl_trans BB hW2) (Nat.le_refl _)
  have hcI : (pn : Int) ≤ (cap : Int) := by omega
  clear hT hTt
  go_enter Try.func10, Try.ntmps10
  repeat (first | ((with_reducible show Oper.wp _ { dst := _, op := Op.build 39 _, type := _, pos := _, after := _, guard := _ } _ _ _ _); refine wp_build 39 _ rfl (.agg #[.float .f64 0, .float .f64 0, .float .f64 0, .int .u32 77, .float .f64 0, .float .f64 0]) (by kernel_rfl) ?_; simp only [go_sem]) | ((with_reducible show wpList _ _ _ ({ dst := some 7, op := _, type := _, pos := _, after := _, guard := _ } :: _) _ _); at_builtin; refine wpList_runX 27 rfl (.tmp 4) (.tmp 6) rfl rfl rfl (by first | exact hr1 | (rw [hz0]; exact hr1)) ?_) | ((with_reducible show wpList _ _ _ ({ dst := some 11, op := _, type := _, pos := _, after := _, guard := _ } :: _) _ _); at_builtin; refine wpList_runX 27 rfl (.tmp 8) (.tmp 10) rfl rfl rfl hr2 ?_) | ((with_reducible show Oper.wp _ { dst := some 18, op := Op.load 29 _, type := _, pos := _, after := _, guard := _ } _ _ _ _); refine wp_load_mid (P := Try.prog) 29 _ rfl _ _ rfl [.int .i64 T.ta, .int .i64 T.tp, .int .i64 T.tb, .int .i64 T.tq, .bool T.ts, .float .f64 T.tx, .float .f64 T.ty, (.slice (some ⟨g, 0, none⟩) pn cap)] _ hT4 Try.underlying29 rfl (by kernel_rfl) ?_; (try simp only [go_sem])) | ((with_reducible show Oper.wp _ { dst := _, op := Op.store 29 _ _, type := _, pos := _, after := _, guard := _ } _ _ _ _); refine wp_store_mid (P := Try.prog) 29 _ _ rfl (w.heap.size + 1) (0) #[.int .i64 T.ta, .int .i64 T.tp, .int .i64 T.tb, .int .i64 T.tq, .bool T.ts, .float .f64 T.tx, .float .f64 T.ty, (.slice (some ⟨g, 0, none⟩) pn cap)] rfl rfl hU4 (by kernel_rfl) (by kernel_rfl) ?_; (try simp only [go_sem])) | go_values | go_skip | go_guarded | go_step | go_upon | go_back | dsimp only)
  refine bodyPost_ret (results_c (c := 2) (ty := 29) rfl rfl (run_loadVar_mid _ (w.heap.size + 1) 0 29 [.int .i64 T.ta, .int .i64 T.tp, .int .i64 T.tb, .int .i64 T.tq, .bool T.ts, .float .f64 T.tx, .float .f64 T.ty, (.slice (some ⟨g, 0, none⟩) pn cap)] _ (World.rangeAt_setCells_same _ _ _ _ hU4) Try.underlying29 rfl (by kernel_rfl))) rfl ?_
  refine ⟨g, cap, g2, g3, by omega, fun i hi => World.rangeAt_setCells_apart (hP4 i hi) _ _ _ (.inl (by omega)), ?_, rfl, bel_setsJ _ _ hB4 (by omega)⟩
  rw [sets_far _ _ _ _ _ _ (by omega)]
  exact h74

set_option maxRecDepth 100000 in
set_option maxHeartbeats 4000000 in
theorem back_w (T : TD) (pb po pn pc_ : Nat) (ps : Option Addr) (P : Nat → PD) (g cap : Nat) (w : World) (hps : pn = 0 ∨ ps = some ⟨pb, po, none⟩) (hpc : pn ≤ pc_) (hpm : pc_ ≤ maxLen) (hp : Pts w pb po pn P) (op : ∀ i, i < pn → pok (P i)) (hp8 : pn ≤ 100000) (hgc : pn + 1 ≤ cap) (hcm : cap ≤ maxLen) (hP : Pts w g 0 pn P) (h77 : w.cell? ⟨g, pn * 6 + 3, none⟩ = some (.int .u32 77)) : Calls Try.prog 14 #[.agg #[.int .i64 T.ta, .int .i64 T.tp, .int .i64 T.tb, .int .i64 T.tq, .bool T.ts, .float .f64 T.tx, .float .f64 T.ty, (.slice (some ⟨g, 0, none⟩) pn cap)], .agg #[.int .i64 T.ta, .int .i64 T.tp, .int .i64 T.tb, .int .i64 T.tq, .bool T.ts, .float .f64 T.tx, .float .f64 T.ty, .slice ps pn pc_]] w fun e w' => e = .returned (.bool true) ∧ Bel w w' := by
  unfold maxLen at hcm
  have hA : ((w.alloc (.cells #[.int .i64 T.ta, .int .i64 T.tp, .int .i64 T.tb, .int .i64 T.tq, .bool T.ts, .float .f64 T.tx, .float .f64 T.ty, (.slice (some ⟨g, 0, none⟩) pn cap)] 29)).alloc (.cells #[.int .i64 T.ta, .int .i64 T.tp, .int .i64 T.tb, .int .i64 T.tq, .bool T.ts, .float .f64 T.tx, .float .f64 T.ty, .slice ps pn pc_] 29)).rangeAt (w.heap.size) 0 [.int .i64 T.ta, .int .i64 T.tp, .int .i64 T.tb, .int .i64 T.tq, .bool T.ts, .float .f64 T.tx, .float .f64 T.ty, (.slice (some ⟨g, 0, none⟩) pn cap)] := World.rangeAt_alloc (rng_new w [.int .i64 T.ta, .int .i64 T.tp, .int .i64 T.tb, .int .i64 T.tq, .bool T.ts, .float .f64 T.tx, .float .f64 T.ty, (.slice (some ⟨g, 0, none⟩) pn cap)] 29) _
  have hC : ((w.alloc (.cells #[.int .i64 T.ta, .int .i64 T.tp, .int .i64 T.tb, .int .i64 T.tq, .bool T.ts, .float .f64 T.tx, .float .f64 T.ty, (.slice (some ⟨g, 0, none⟩) pn cap)] 29)).alloc (.cells #[.int .i64 T.ta, .int .i64 T.tp, .int .i64 T.tb, .int .i64 T.tq, .bool T.ts, .float .f64 T.tx, .float .f64 T.ty, .slice ps pn pc_] 29)).rangeAt (w.heap.size + 1) 0 [.int .i64 T.ta, .int .i64 T.tp, .int .i64 T.tb, .int .i64 T.tq, .bool T.ts, .float .f64 T.tx, .float .f64 T.ty, .slice ps pn pc_] := by have h := rng_new (w.alloc (.cells #[.int .i64 T.ta, .int .i64 T.tp, .int .i64 T.tb, .int .i64 T.tq, .bool T.ts, .float .f64 T.tx, .float .f64 T.ty, (.slice (some ⟨g, 0, none⟩) pn cap)] 29)) [.int .i64 T.ta, .int .i64 T.tp, .int .i64 T.tb, .int .i64 T.tq, .bool T.ts, .float .f64 T.tx, .float .f64 T.ty, .slice ps pn pc_] 29; rwa [World.size_alloc] at h
  have BB : Bel w ((w.alloc (.cells #[.int .i64 T.ta, .int .i64 T.tp, .int .i64 T.tb, .int .i64 T.tq, .bool T.ts, .float .f64 T.tx, .float .f64 T.ty, (.slice (some ⟨g, 0, none⟩) pn cap)] 29)).alloc (.cells #[.int .i64 T.ta, .int .i64 T.tp, .int .i64 T.tb, .int .i64 T.tq, .bool T.ts, .float .f64 T.tx, .float .f64 T.ty, .slice ps pn pc_] 29)) := bl_alloc (bl_alloc (bl_refl w) _ _) _ _
  have kA : ((w.alloc (.cells #[.int .i64 T.ta, .int .i64 T.tp, .int .i64 T.tb, .int .i64 T.tq, .bool T.ts, .float .f64 T.tx, .float .f64 T.ty, (.slice (some ⟨g, 0, none⟩) pn cap)] 29)).alloc (.cells #[.int .i64 T.ta, .int .i64 T.tp, .int .i64 T.tb, .int .i64 T.tq, .bool T.ts, .float .f64 T.tx, .float .f64 T.ty, .slice ps pn pc_] 29)).cell? ⟨w.heap.size, 7, none⟩ = some (.slice (some ⟨g, 0, none⟩) pn cap) := by have h := hA 7 _ rfl; rwa [Nat.zero_add] at h
  have kC : ((w.alloc (.cells #[.int .i64 T.ta, .int .i64 T.tp, .int .i64 T.tb, .int .i64 T.tq, .bool T.ts, .float .f64 T.tx, .float .f64 T.ty, (.slice (some ⟨g, 0, none⟩) pn cap)] 29)).alloc (.cells #[.int .i64 T.ta, .int .i64 T.tp, .int .i64 T.tb, .int .i64 T.tq, .bool T.ts, .float .f64 T.tx, .float .f64 T.ty, .slice ps pn pc_] 29)).cell? ⟨w.heap.size + 1, 7, none⟩ = some (.slice ps pn pc_) := by have h := hC 7 _ rfl; rwa [Nat.zero_add] at h
  have k7 := keep BB h77
  have i1 : ((pn : Int) + 1) ≤ (cap : Int) := by omega
  have i2 : (pn : Int) < (pn : Int) + 1 := by omega
  have wi : IntKind.wrap .i64 ((pn : Int) + 1) = (pn : Int) + 1 := by rw [IntKind.wrap_i64]; omega
  go_enter Try.func14, Try.ntmps14
  repeat (first | ((with_reducible show Oper.wp _ { dst := some 7, op := Op.load 29 _, type := _, pos := _, after := _, guard := _ } _ _ _ _); refine wp_load_mid (P := Try.prog) 29 _ rfl _ _ rfl [.int .i64 T.ta, .int .i64 T.tp, .int .i64 T.tb, .int .i64 T.tq, .bool T.ts, .float .f64 T.tx, .float .f64 T.ty, (.slice (some ⟨g, 0, none⟩) pn cap)] _ hA Try.underlying29 rfl (by kernel_rfl) ?_; (try simp only [go_sem])) | ((with_reducible show Oper.wp _ { dst := some 8, op := Op.load 29 _, type := _, pos := _, after := _, guard := _ } _ _ _ _); refine wp_load_mid (P := Try.prog) 29 _ rfl _ _ rfl [.int .i64 T.ta, .int .i64 T.tp, .int .i64 T.tb, .int .i64 T.tq, .bool T.ts, .float .f64 T.tx, .float .f64 T.ty, .slice ps pn pc_] _ hC Try.underlying29 rfl (by kernel_rfl) ?_; (try simp only [go_sem])) | (go_at_call 13; (with_reducible refine (sameT T g 0 cap pb po pc_ pn (some ⟨g, 0, none⟩) ps P _ (.inr rfl) hps (by omega) hpc hp8 (hP.bel BB) (hp.bel BB)).mono ?_); rintro e w1 ⟨rfl, hb1⟩; replace kA := keep hb1 kA; replace kC := keep hb1 kC; replace k7 := keep hb1 k7; replace BB := bl_trans BB hb1) | go_values | go_skip | go_guarded | go_step | go_upon | go_back | dsimp only)
  go_ret
  exact ⟨rfl, BB⟩

end Go.Proofs.Ytfohggiehbplkaa
