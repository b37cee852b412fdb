/-
  What each function of package poly answers, and what the reference of its chapter answers: one contract a function, for every float: the answer stands in the relation of its formula to what was given; of the memory that was there nothing has turned.
-/
import Derived.Test.YtchfgaooogfkdaaVec
import Derived.Test.YtchfgaooogfkdaaXzi
import Derived.Below
import Derived.OwnWalk
import Derived.Laws.AppendOwn
import Derived.Lib.SliceRun
import Derived.Laws.MakeOwn
import Derived.WalkKit
import Derived.WalkLawsBesides
import Derived.WalkSpells
import Derived.ProofKit
import Derived.OpenShut
import Derived.Deep.RegionHeld3
namespace Go.Proofs.Ytchfgaooogfkdaa
open Go.ChangeShapes Go.WideShapes Go.ChangeAt Go.RowKit
set_option linter.unusedVariables false
set_option linter.unusedSimpArgs false

set_option maxRecDepth 100000 in
set_option maxHeartbeats 4000000 in
theorem sameRows9 (ab ao ac bb bo bc n : Nat) (as_ bs_ : Option Addr) (Q : Nat → RD) (w : World) (ha : n = 0 ∨ as_ = some ⟨ab, ao, none⟩) (hb_ : n = 0 ∨ bs_ = some ⟨bb, bo, none⟩) (h1 : n ≤ ac) (h2 : n ≤ bc) (hn : n ≤ 9223372036854775807) (hS : Rws w ab ao n Q) (hT : Rws w bb bo n Q) (ok : ∀ i, i < n → rok (Q i)) : Calls Try.prog 16 #[.slice as_ n ac, .slice bs_ n bc] w fun e w' => e = .returned (.bool true) ∧ Bel w w' := by
  go_enter Try.func16, Try.ntmps16
  repeat (first | go_values | go_skip | go_guarded | go_step | go_upon | go_back | dsimp only)
  go_loopw [5] (fun i wr => ∃ k : Nat, k ≤ n ∧ i = .int .i64 k ∧ Bel w wr) (fun i _ => n - (intOf i).toNat)
  case atStart => exact ⟨0, by omega, rfl, bl_refl _⟩
  case round =>
    obtain ⟨k, hk, rfl, hB⟩ := hrel
    by_cases hlt : k < n
    · have e1 : as_ = some ⟨ab, ao, none⟩ := by rcases ha with h | h; omega; exact h
      have e2 : bs_ = some ⟨bb, bo, none⟩ := by rcases hb_ with h | h; omega; exact h
      subst e1 e2
      have hkI : (k : Int) < (n : Int) := by omega
      have hx0 : wr.rangeAt ab (ao + k * 14) [.int .i64 (Q k).ra, .int .i64 (Q k).rb, .float .f64 (Q k).r2, .float .f64 (Q k).r3, .float .f64 (Q k).r4, .float .f64 (Q k).r5, .float .f64 (Q k).r6, .float .f64 (Q k).r7, .float .f64 (Q k).r8, .float .f64 (Q k).r9, .float .f64 (Q k).r10, .float .f64 (Q k).r11, .int .i64 (Q k).ro, .float .f64 (Q k).r13] := (hS.bel hB) k hlt
      have hy0 : wr.rangeAt bb (bo + k * 14) [.int .i64 (Q k).ra, .int .i64 (Q k).rb, .float .f64 (Q k).r2, .float .f64 (Q k).r3, .float .f64 (Q k).r4, .float .f64 (Q k).r5, .float .f64 (Q k).r6, .float .f64 (Q k).r7, .float .f64 (Q k).r8, .float .f64 (Q k).r9, .float .f64 (Q k).r10, .float .f64 (Q k).r11, .int .i64 (Q k).ro, .float .f64 (Q k).r13] := (hT.bel hB) k hlt
      replace ok := ok k hlt
      clear hS hT
      repeat (first | go_values | go_skip | go_guarded | go_step | go_upon | go_back | dsimp only)
      refine wp_region_mono 10 rfl (fun i W v => match i with | 0 => v = .slice (some ⟨ab, ao, none⟩) n ac | 1 => v = .int .i64 (k : Int) | 2 => v = .pointer (some ⟨ab, ao + k * 14, none⟩) | 3 => v = .agg #[.int .i64 (Q k).ra, .int .i64 (Q k).rb, .float .f64 (Q k).r2, .float .f64 (Q k).r3, .float .f64 (Q k).r4, .float .f64 (Q k).r5, .float .f64 (Q k).r6, .float .f64 (Q k).r7, .float .f64 (Q k).r8, .float .f64 (Q k).r9, .float .f64 (Q k).r10, .float .f64 (Q k).r11, .int .i64 (Q k).ro, .float .f64 (Q k).r13] | 4 => v = .slice (some ⟨bb, bo, none⟩) n bc | 5 => v = .int .i64 (k : Int) | 6 => v = .pointer (some ⟨bb, bo + k * 14, none⟩) | 7 => v = .agg #[.int .i64 (Q k).ra, .int .i64 (Q k).rb, .float .f64 (Q k).r2, .float .f64 (Q k).r3, .float .f64 (Q k).r4, .float .f64 (Q k).r5, .float .f64 (Q k).r6, .float .f64 (Q k).r7, .float .f64 (Q k).r8, .float .f64 (Q k).r9, .float .f64 (Q k).r10, .float .f64 (Q k).r11, .int .i64 (Q k).ro, .float .f64 (Q k).r13] | 8 => v = .bool true | 9 => v = .bool false | _ => False) ?A_wu (by kernel_rfl) (by kernel_rfl) ?hA_wu ?hmo_wu ?hq_wu ?ht_wu
      case hA_wu =>
        intro s
        simp only [putL, dstO, Act.put, List.getElem?_toArray, List.getElem?_cons_zero, List.getElem?_cons_succ, Option.bind_some, List.setIfInBounds_toArray, List.set_cons_zero, List.set_cons_succ, if_true]
        all_goals exact rfl
      case hmo_wu =>
        intro i W W' v hi hb h
        rcases (show i = 0 ∨ i = 1 ∨ i = 2 ∨ i = 3 ∨ i = 4 ∨ i = 5 ∨ i = 6 ∨ i = 7 ∨ i = 8 ∨ i = 9 by omega) with rfl | rfl | rfl | rfl | rfl | rfl | rfl | rfl | rfl | rfl
        all_goals exact h
      case hq_wu =>
        intro i o hi ho s W hs hb K hK
        rcases (show i = 0 ∨ i = 1 ∨ i = 2 ∨ i = 3 ∨ i = 4 ∨ i = 5 ∨ i = 6 ∨ i = 7 ∨ i = 8 ∨ i = 9 by omega) with rfl | rfl | rfl | rfl | rfl | rfl | rfl | rfl | rfl | rfl
        · cases ho
          simp only [Act.put, List.setIfInBounds_toArray, List.set_cons_zero, List.set_cons_succ] at hK
          clear hs
          go_simp
          all_goals first | with_reducible exact hK.out _ _ rfl (bl_refl _) | exact hK.out _ _ rfl (bl_refl _)
        · cases ho
          simp only [Act.put, List.setIfInBounds_toArray, List.set_cons_zero, List.set_cons_succ] at hK
          clear hs
          go_simp
          all_goals first | with_reducible exact hK.out _ _ rfl (bl_refl _) | exact hK.out _ _ rfl (bl_refl _)
        · cases ho
          have e0 : s 0 = _ := hs 0 (by decide) (by kernel_rfl)
          have e1 : s 1 = _ := hs 1 (by decide) (by kernel_rfl)
          simp only [e0, e1] at hK ⊢
          simp only [Act.put, List.setIfInBounds_toArray, List.set_cons_zero, List.set_cons_succ] at hK
          clear hs
          go_simp
          all_goals first | with_reducible exact hK.out _ _ rfl (bl_refl _) | exact hK.out _ _ rfl (bl_refl _)
        · cases ho
          have e2 : s 2 = _ := hs 2 (by decide) (by kernel_rfl)
          simp only [e2] at hK ⊢
          simp only [Act.put, List.setIfInBounds_toArray, List.set_cons_zero, List.set_cons_succ] at hK
          clear hs
          refine wp_load_mid (P := Try.prog) 56 _ rfl _ _ rfl [.int .i64 (Q k).ra, .int .i64 (Q k).rb, .float .f64 (Q k).r2, .float .f64 (Q k).r3, .float .f64 (Q k).r4, .float .f64 (Q k).r5, .float .f64 (Q k).r6, .float .f64 (Q k).r7, .float .f64 (Q k).r8, .float .f64 (Q k).r9, .float .f64 (Q k).r10, .float .f64 (Q k).r11, .int .i64 (Q k).ro, .float .f64 (Q k).r13] _ (rng_bel hx0 hb) Try.underlying56 rfl (by kernel_rfl) ?_; exact hK.out _ _ rfl (bl_refl _)
        · cases ho
          simp only [Act.put, List.setIfInBounds_toArray, List.set_cons_zero, List.set_cons_succ] at hK
          clear hs
          go_simp
          all_goals first | with_reducible exact hK.out _ _ rfl (bl_refl _) | exact hK.out _ _ rfl (bl_refl _)
        · cases ho
          simp only [Act.put, List.setIfInBounds_toArray, List.set_cons_zero, List.set_cons_succ] at hK
          clear hs
          go_simp
          all_goals first | with_reducible exact hK.out _ _ rfl (bl_refl _) | exact hK.out _ _ rfl (bl_refl _)
        · cases ho
          have e4 : s 4 = _ := hs 4 (by decide) (by kernel_rfl)
          have e5 : s 5 = _ := hs 5 (by decide) (by kernel_rfl)
          simp only [e4, e5] at hK ⊢
          simp only [Act.put, List.setIfInBounds_toArray, List.set_cons_zero, List.set_cons_succ] at hK
          clear hs
          go_simp
          all_goals first | with_reducible exact hK.out _ _ rfl (bl_refl _) | exact hK.out _ _ rfl (bl_refl _)
        · cases ho
          have e6 : s 6 = _ := hs 6 (by decide) (by kernel_rfl)
          simp only [e6] at hK ⊢
          simp only [Act.put, List.setIfInBounds_toArray, List.set_cons_zero, List.set_cons_succ] at hK
          clear hs
          refine wp_load_mid (P := Try.prog) 56 _ rfl _ _ rfl [.int .i64 (Q k).ra, .int .i64 (Q k).rb, .float .f64 (Q k).r2, .float .f64 (Q k).r3, .float .f64 (Q k).r4, .float .f64 (Q k).r5, .float .f64 (Q k).r6, .float .f64 (Q k).r7, .float .f64 (Q k).r8, .float .f64 (Q k).r9, .float .f64 (Q k).r10, .float .f64 (Q k).r11, .int .i64 (Q k).ro, .float .f64 (Q k).r13] _ (rng_bel hy0 hb) Try.underlying56 rfl (by kernel_rfl) ?_; exact hK.out _ _ rfl (bl_refl _)
        · cases ho
          have e3 : s 3 = _ := hs 3 (by decide) (by kernel_rfl)
          have e7 : s 7 = _ := hs 7 (by decide) (by kernel_rfl)
          simp only [e3, e7] at hK ⊢
          simp only [Act.put, List.setIfInBounds_toArray, List.set_cons_zero, List.set_cons_succ] at hK
          clear hs
          go_simp
          all_goals (try go_wp2_with (first | (go_at_call 30; (with_reducible refine (sameRow21 (Q k) _ ok).mono ?_); rintro e w' ⟨rfl, hb1⟩)))
          all_goals first | exact hK.out _ _ rfl hb1 | exact hK.out _ _ rfl hb1 | with_reducible exact hK.out _ _ rfl (bl_refl _) | exact hK.out _ _ rfl (bl_refl _)
        · cases ho
          have e8 : s 8 = _ := hs 8 (by decide) (by kernel_rfl)
          simp only [e8] at hK ⊢
          simp only [Act.put, List.setIfInBounds_toArray, List.set_cons_zero, List.set_cons_succ] at hK
          clear hs
          go_simp
          all_goals first | with_reducible exact hK.out _ _ rfl (bl_refl _) | exact hK.out _ _ rfl (bl_refl _)
      case ht_wu =>
        intro s W hs hb
        have e0 : s 0 = _ := hs 0 (by decide)
        have e1 : s 1 = _ := hs 1 (by decide)
        have e2 : s 2 = _ := hs 2 (by decide)
        have e3 : s 3 = _ := hs 3 (by decide)
        have e4 : s 4 = _ := hs 4 (by decide)
        have e5 : s 5 = _ := hs 5 (by decide)
        have e6 : s 6 = _ := hs 6 (by decide)
        have e7 : s 7 = _ := hs 7 (by decide)
        have e8 : s 8 = _ := hs 8 (by decide)
        have e9 : s 9 = _ := hs 9 (by decide)
        simp only [e0, e1, e2, e3, e4, e5, e6, e7, e8, e9]
        clear hs e0 e1 e2 e3 e4 e5 e6 e7 e8 e9
        repeat (first | go_values | go_skip | go_guarded | go_step | go_upon | go_back | dsimp only)
        exact ⟨⟨k + 1, by omega, by go_num, bl_trans hB hb⟩, by simp [intOf]; omega⟩
    · have hkn : k = n := by omega
      subst hkn
      repeat (first | go_values | go_skip | go_guarded | go_step | go_upon | go_back | dsimp only)
      go_ret
      exact ⟨rfl, hB⟩
set_option maxRecDepth 100000 in
set_option maxHeartbeats 4000000 in
theorem sameStills9 (ab ao ac bb bo bc n : Nat) (as_ bs_ : Option Addr) (S T M : Nat → SD) (w : World) (ha : n = 0 ∨ as_ = some ⟨ab, ao, none⟩) (hb_ : n = 0 ∨ bs_ = some ⟨bb, bo, none⟩) (h1 : n ≤ ac) (h2 : n ≤ bc) (hn : n ≤ 9223372036854775807) (hS : Sts w ab ao n S) (hT : Sts w bb bo n T) (hp : ∀ i, i < n → RelS (S i) (M i)) (hq : ∀ i, i < n → RelS (T i) (M i)) : Calls Try.prog 23 #[.slice as_ n ac, .slice bs_ n bc] w fun e w' => e = .returned (.bool true) ∧ Bel w w' := by
  go_enter Try.func23, Try.ntmps23
  repeat (first | go_values | go_skip | go_guarded | go_step | go_upon | go_back | dsimp only)
  go_loopw [5] (fun i wr => ∃ k : Nat, k ≤ n ∧ i = .int .i64 k ∧ Bel w wr) (fun i _ => n - (intOf i).toNat)
  case atStart => exact ⟨0, by omega, rfl, bl_refl _⟩
  case round =>
    obtain ⟨k, hk, rfl, hB⟩ := hrel
    by_cases hlt : k < n
    · have e1 : as_ = some ⟨ab, ao, none⟩ := by rcases ha with h | h; omega; exact h
      have e2 : bs_ = some ⟨bb, bo, none⟩ := by rcases hb_ with h | h; omega; exact h
      subst e1 e2
      have hkI : (k : Int) < (n : Int) := by omega
      have hx0 : wr.rangeAt ab (ao + k * 5) [.float .f64 (S k).sm, .float .f64 (S k).si, .float .f64 (S k).sx, .float .f64 (S k).sy, .float .f64 (S k).ss] := (hS.bel hB) k hlt
      have hy0 : wr.rangeAt bb (bo + k * 5) [.float .f64 (T k).sm, .float .f64 (T k).si, .float .f64 (T k).sx, .float .f64 (T k).sy, .float .f64 (T k).ss] := (hT.bel hB) k hlt
      replace hp := hp k hlt
      replace hq := hq k hlt
      clear hS hT
      repeat (first | go_values | go_skip | go_guarded | go_step | go_upon | go_back | dsimp only)
      refine wp_region_mono 10 rfl (fun i W v => match i with | 0 => v = .slice (some ⟨ab, ao, none⟩) n ac | 1 => v = .int .i64 (k : Int) | 2 => v = .pointer (some ⟨ab, ao + k * 5, none⟩) | 3 => v = .agg #[.float .f64 (S k).sm, .float .f64 (S k).si, .float .f64 (S k).sx, .float .f64 (S k).sy, .float .f64 (S k).ss] | 4 => v = .slice (some ⟨bb, bo, none⟩) n bc | 5 => v = .int .i64 (k : Int) | 6 => v = .pointer (some ⟨bb, bo + k * 5, none⟩) | 7 => v = .agg #[.float .f64 (T k).sm, .float .f64 (T k).si, .float .f64 (T k).sx, .float .f64 (T k).sy, .float .f64 (T k).ss] | 8 => v = .bool true | 9 => v = .bool false | _ => False) ?A_ws (by kernel_rfl) (by kernel_rfl) ?hA_ws ?hmo_ws ?hq_ws ?ht_ws
      case hA_ws =>
        intro s
        simp only [putL, dstO, Act.put, List.getElem?_toArray, List.getElem?_cons_zero, List.getElem?_cons_succ, Option.bind_some, List.setIfInBounds_toArray, List.set_cons_zero, List.set_cons_succ, if_true]
        all_goals exact rfl
      case hmo_ws =>
        intro i W W' v hi hb h
        rcases (show i = 0 ∨ i = 1 ∨ i = 2 ∨ i = 3 ∨ i = 4 ∨ i = 5 ∨ i = 6 ∨ i = 7 ∨ i = 8 ∨ i = 9 by omega) with rfl | rfl | rfl | rfl | rfl | rfl | rfl | rfl | rfl | rfl
        all_goals exact h
      case hq_ws =>
        intro i o hi ho s W hs hb K hK
        rcases (show i = 0 ∨ i = 1 ∨ i = 2 ∨ i = 3 ∨ i = 4 ∨ i = 5 ∨ i = 6 ∨ i = 7 ∨ i = 8 ∨ i = 9 by omega) with rfl | rfl | rfl | rfl | rfl | rfl | rfl | rfl | rfl | rfl
        · cases ho
          simp only [Act.put, List.setIfInBounds_toArray, List.set_cons_zero, List.set_cons_succ] at hK
          clear hs
          go_simp
          all_goals first | with_reducible exact hK.out _ _ rfl (bl_refl _) | exact hK.out _ _ rfl (bl_refl _)
        · cases ho
          simp only [Act.put, List.setIfInBounds_toArray, List.set_cons_zero, List.set_cons_succ] at hK
          clear hs
          go_simp
          all_goals first | with_reducible exact hK.out _ _ rfl (bl_refl _) | exact hK.out _ _ rfl (bl_refl _)
        · cases ho
          have e0 : s 0 = _ := hs 0 (by decide) (by kernel_rfl)
          have e1 : s 1 = _ := hs 1 (by decide) (by kernel_rfl)
          simp only [e0, e1] at hK ⊢
          simp only [Act.put, List.setIfInBounds_toArray, List.set_cons_zero, List.set_cons_succ] at hK
          clear hs
          go_simp
          all_goals first | with_reducible exact hK.out _ _ rfl (bl_refl _) | exact hK.out _ _ rfl (bl_refl _)
        · cases ho
          have e2 : s 2 = _ := hs 2 (by decide) (by kernel_rfl)
          simp only [e2] at hK ⊢
          simp only [Act.put, List.setIfInBounds_toArray, List.set_cons_zero, List.set_cons_succ] at hK
          clear hs
          refine wp_load_mid (P := Try.prog) 35 _ rfl _ _ rfl [.float .f64 (S k).sm, .float .f64 (S k).si, .float .f64 (S k).sx, .float .f64 (S k).sy, .float .f64 (S k).ss] _ (rng_bel hx0 hb) Try.underlying35 rfl (by kernel_rfl) ?_; exact hK.out _ _ rfl (bl_refl _)
        · cases ho
          simp only [Act.put, List.setIfInBounds_toArray, List.set_cons_zero, List.set_cons_succ] at hK
          clear hs
          go_simp
          all_goals first | with_reducible exact hK.out _ _ rfl (bl_refl _) | exact hK.out _ _ rfl (bl_refl _)
        · cases ho
          simp only [Act.put, List.setIfInBounds_toArray, List.set_cons_zero, List.set_cons_succ] at hK
          clear hs
          go_simp
          all_goals first | with_reducible exact hK.out _ _ rfl (bl_refl _) | exact hK.out _ _ rfl (bl_refl _)
        · cases ho
          have e4 : s 4 = _ := hs 4 (by decide) (by kernel_rfl)
          have e5 : s 5 = _ := hs 5 (by decide) (by kernel_rfl)
          simp only [e4, e5] at hK ⊢
          simp only [Act.put, List.setIfInBounds_toArray, List.set_cons_zero, List.set_cons_succ] at hK
          clear hs
          go_simp
          all_goals first | with_reducible exact hK.out _ _ rfl (bl_refl _) | exact hK.out _ _ rfl (bl_refl _)
        · cases ho
          have e6 : s 6 = _ := hs 6 (by decide) (by kernel_rfl)
          simp only [e6] at hK ⊢
          simp only [Act.put, List.setIfInBounds_toArray, List.set_cons_zero, List.set_cons_succ] at hK
          clear hs
          refine wp_load_mid (P := Try.prog) 35 _ rfl _ _ rfl [.float .f64 (T k).sm, .float .f64 (T k).si, .float .f64 (T k).sx, .float .f64 (T k).sy, .float .f64 (T k).ss] _ (rng_bel hy0 hb) Try.underlying35 rfl (by kernel_rfl) ?_; exact hK.out _ _ rfl (bl_refl _)
        · cases ho
          have e3 : s 3 = _ := hs 3 (by decide) (by kernel_rfl)
          have e7 : s 7 = _ := hs 7 (by decide) (by kernel_rfl)
          simp only [e3, e7] at hK ⊢
          simp only [Act.put, List.setIfInBounds_toArray, List.set_cons_zero, List.set_cons_succ] at hK
          clear hs
          go_simp
          all_goals (try go_wp2_with (first | (go_at_call 15; (with_reducible refine (same_rel (S k) (T k) (M k) _ hp hq).mono ?_); rintro e w' ⟨rfl, hb1⟩)))
          all_goals first | exact hK.out _ _ rfl hb1 | exact hK.out _ _ rfl hb1 | with_reducible exact hK.out _ _ rfl (bl_refl _) | exact hK.out _ _ rfl (bl_refl _)
        · cases ho
          have e8 : s 8 = _ := hs 8 (by decide) (by kernel_rfl)
          simp only [e8] at hK ⊢
          simp only [Act.put, List.setIfInBounds_toArray, List.set_cons_zero, List.set_cons_succ] at hK
          clear hs
          go_simp
          all_goals first | with_reducible exact hK.out _ _ rfl (bl_refl _) | exact hK.out _ _ rfl (bl_refl _)
      case ht_ws =>
        intro s W hs hb
        have e0 : s 0 = _ := hs 0 (by decide)
        have e1 : s 1 = _ := hs 1 (by decide)
        have e2 : s 2 = _ := hs 2 (by decide)
        have e3 : s 3 = _ := hs 3 (by decide)
        have e4 : s 4 = _ := hs 4 (by decide)
        have e5 : s 5 = _ := hs 5 (by decide)
        have e6 : s 6 = _ := hs 6 (by decide)
        have e7 : s 7 = _ := hs 7 (by decide)
        have e8 : s 8 = _ := hs 8 (by decide)
        have e9 : s 9 = _ := hs 9 (by decide)
        simp only [e0, e1, e2, e3, e4, e5, e6, e7, e8, e9]
        clear hs e0 e1 e2 e3 e4 e5 e6 e7 e8 e9
        repeat (first | go_values | go_skip | go_guarded | go_step | go_upon | go_back | dsimp only)
        exact ⟨⟨k + 1, by omega, by go_num, bl_trans hB hb⟩, by simp [intOf]; omega⟩
    · have hkn : k = n := by omega
      subst hkn
      repeat (first | go_values | go_skip | go_guarded | go_step | go_upon | go_back | dsimp only)
      go_ret
      exact ⟨rfl, hB⟩

def lgB (n m : Nat) : Bool := decide ((200 < n ∧ n ≤ 1048576) ∨ (60 < m ∧ m ≤ 1024))
set_option maxRecDepth 100000 in
set_option maxHeartbeats 4000000 in
theorem large_w (rs ss : Option Addr) (rn rc_ sn sc_ : Nat) (w : World) : Calls Try.prog 17 #[.slice rs rn rc_, .slice ss sn sc_] w fun e w' => e = .returned (.bool (lgB rn sn)) ∧ w' = w := by
  by_cases a1 : 200 < rn
  · have b1 : (200 : Int) < (rn : Int) := by omega
    by_cases a2 : rn ≤ 1048576
    · have b2 : (rn : Int) ≤ 1048576 := by omega
      have e : lgB rn sn = true := by unfold lgB; simp; omega
      go_enter Try.func17, Try.ntmps17
      repeat (first | go_values | go_skip | go_guarded | go_step | go_upon | go_back | dsimp only)
      go_ret
      exact ⟨by rw [e]; rfl, rfl⟩
    · have b2 : ¬ (rn : Int) ≤ 1048576 := by omega
      by_cases a3 : 60 < sn
      · have b3 : (60 : Int) < (sn : Int) := by omega
        by_cases a4 : sn ≤ 1024
        · have b4 : (sn : Int) ≤ 1024 := by omega
          have e : lgB rn sn = true := by unfold lgB; simp; omega
          go_enter Try.func17, Try.ntmps17
          repeat (first | go_values | go_skip | go_guarded | go_step | go_upon | go_back | dsimp only)
          go_ret
          exact ⟨by rw [e]; rfl, rfl⟩
        · have b4 : ¬ (sn : Int) ≤ 1024 := by omega
          have e : lgB rn sn = false := by unfold lgB; simp; omega
          go_enter Try.func17, Try.ntmps17
          repeat (first | go_values | go_skip | go_guarded | go_step | go_upon | go_back | dsimp only)
          go_ret
          exact ⟨by rw [e]; rfl, rfl⟩
      · have b3 : ¬ (60 : Int) < (sn : Int) := by omega
        have e : lgB rn sn = false := by unfold lgB; simp; omega
        go_enter Try.func17, Try.ntmps17
        repeat (first | go_values | go_skip | go_guarded | go_step | go_upon | go_back | dsimp only)
        go_ret
        exact ⟨by rw [e]; rfl, rfl⟩
  · have b1 : ¬ (200 : Int) < (rn : Int) := by omega
    by_cases a3 : 60 < sn
    · have b3 : (60 : Int) < (sn : Int) := by omega
      by_cases a4 : sn ≤ 1024
      · have b4 : (sn : Int) ≤ 1024 := by omega
        have e : lgB rn sn = true := by unfold lgB; simp; omega
        go_enter Try.func17, Try.ntmps17
        repeat (first | go_values | go_skip | go_guarded | go_step | go_upon | go_back | dsimp only)
        go_ret
        exact ⟨by rw [e]; rfl, rfl⟩
      · have b4 : ¬ (sn : Int) ≤ 1024 := by omega
        have e : lgB rn sn = false := by unfold lgB; simp; omega
        go_enter Try.func17, Try.ntmps17
        repeat (first | go_values | go_skip | go_guarded | go_step | go_upon | go_back | dsimp only)
        go_ret
        exact ⟨by rw [e]; rfl, rfl⟩
    · have b3 : ¬ (60 : Int) < (sn : Int) := by omega
      have e : lgB rn sn = false := by unfold lgB; simp; omega
      go_enter Try.func17, Try.ntmps17
      repeat (first | go_values | go_skip | go_guarded | go_step | go_upon | go_back | dsimp only)
      go_ret
      exact ⟨by rw [e]; rfl, rfl⟩

set_option maxRecDepth 100000 in
set_option maxHeartbeats 4000000 in
theorem kept_w (rb ro rn rc_ : Nat) (rs : Option Addr) (Q : Nat → RD) (sb so sn sc_ : Nat) (ss : Option Addr) (S : Nat → SD) (g1 c1 g2 c2 : Nat) (w : World) (hrs : rn = 0 ∨ rs = some ⟨rb, ro, none⟩) (hrc : rn ≤ rc_) (hrm : rc_ ≤ maxLen) (hr : Rws w rb ro rn Q) (or_ : ∀ i, i < rn → rok (Q i)) (hss : sn = 0 ∨ ss = some ⟨sb, so, none⟩) (hsc : sn ≤ sc_) (hsm : sc_ ≤ maxLen) (hs : Sts w sb so sn S) (os : ∀ i, i < sn → sok (S i)) (hR : Rws w g1 0 rn Q) (hR1 : w.rangeAt g1 (rn * 14) [.int .i64 0, .int .i64 0, .float .f64 0, .float .f64 0, .float .f64 0, .float .f64 0, .float .f64 0, .float .f64 0, .float .f64 0, .float .f64 0, .float .f64 0, .float .f64 0, .int .i64 77, .float .f64 0]) (hc1 : rn + 1 ≤ c1) (hm1 : c1 ≤ maxLen) (hS : Sts w g2 0 sn S) (hS1 : w.rangeAt g2 (sn * 5) [.float .f64 0, .float .f64 0, .float .f64 0, .float .f64 0, .float .f64 4635118810238550016]) (hc2 : sn + 1 ≤ c2) (hm2 : c2 ≤ maxLen) : Calls Try.prog 26 #[.slice (some ⟨g1, 0, none⟩) rn c1, .slice rs rn rc_, .slice (some ⟨g2, 0, none⟩) sn c2, .slice ss sn sc_] w fun e w' => e = .returned (.bool true) ∧ Bel w w' := by
  unfold maxLen at hm1 hm2 hrm hsm
  have q0 := cmp_eq .f64
  have e77 : eqK .f64 4635118810238550016 4635118810238550016 = true := by decide +kernel
  have i1 : ((rn : Int) + 1) ≤ (c1 : Int) := by omega
  have i2 : ((sn : Int) + 1) ≤ (c2 : Int) := by omega
  have i3 : (rn : Int) < (rn : Int) + 1 := by omega
  have i4 : (sn : Int) < (sn : Int) + 1 := by omega
  have pS : ∀ i, i < sn → RelS (S i) (tlS (S i)) := fun i hi => RelS.of (os i hi)
  go_enter Try.func26, Try.ntmps26
  repeat (first | (go_at_call 16; (with_reducible refine (sameRows9 g1 0 c1 rb ro rc_ rn (some ⟨g1, 0, none⟩) rs Q _ (.inr rfl) hrs (by omega) hrc (by omega) hR hr or_).mono ?_); rintro e w1 ⟨rfl, hb1⟩) | (go_at_call 23; (with_reducible refine (sameStills9 g2 0 c2 sb so sc_ sn (some ⟨g2, 0, none⟩) ss S S (fun i => tlS (S i)) _ (.inr rfl) hss (by omega) hsc (by omega) (hS.bel hb1) (hs.bel hb1) pS pS).mono ?_); rintro e w2 ⟨rfl, hb2⟩; (have z1 : w2.cell? ⟨g1, rn * 14 + 12, none⟩ = some (.int .i64 77) := keep (bl_trans hb1 hb2) (hR1 12 _ rfl)); (have z2 : w2.cell? ⟨g2, sn * 5 + 4, none⟩ = some (.float .f64 4635118810238550016) := keep (bl_trans hb1 hb2) (hS1 4 _ rfl))) | go_values | go_skip | go_guarded | go_step | go_upon | go_back | dsimp only)
  go_ret
  exact ⟨rfl, bl_trans hb1 hb2⟩

end Go.Proofs.Ytchfgaooogfkdaa
