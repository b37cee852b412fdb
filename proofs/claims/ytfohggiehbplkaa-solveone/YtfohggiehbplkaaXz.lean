/-
  Plain facts that go together.
-/
import Derived.Test.YtfohggiehbplkaaVec
import Derived.Test.YtfohggiehbplkaaXr
import Derived.Below
import Derived.OwnWalk
import Derived.Laws.AppendOwn
import Derived.Lib.SliceRun
import Derived.Laws.MakeOwn
import Derived.WalkKit
import Derived.WalkLawsBesides
import Derived.WalkSpells
import Derived.ProofKit
import Derived.OpenShut
import Derived.Deep.RegionHeld3
namespace Go.Proofs.Ytfohggiehbplkaa
open Go.ChangeShapes Go.WideShapes Go.ChangeAt Go.RowKit
set_option linter.unusedSimpArgs false
set_option linter.unusedVariables false
set_option maxRecDepth 100000 in
set_option maxHeartbeats 4000000 in
theorem sameAll21 (ab bb n : Nat) (xs ys : Nat → Nat) (w : World) (hn : n ≤ 1000) (hx : ∀ i, i < n → w.cell? ⟨ab, i, none⟩ = some (.float .f64 (xs i))) (hy : ∀ i, i < n → w.cell? ⟨bb, i, none⟩ = some (.float .f64 (ys i))) (okx : ∀ i, i < n → okK .f64 (xs i)) (oky : ∀ i, i < n → okK .f64 (ys i)) (hs : ∀ i, i < n → smK .f64 (xs i) (ys i) = true) : Calls Try.prog 134 #[.slice (some ⟨ab, 0, none⟩) n n, .slice (some ⟨bb, 0, none⟩) n n] w fun e w' => e = .returned (.bool true) ∧ Bel w w' := by
 go_enter Try.func134, Try.ntmps134
 repeat (first | go_values | go_skip | go_guarded | go_step | go_upon | go_back | dsimp only)
 go_loopw [5] (fun i wr => ∃ k : Nat, k ≤ n ∧ i = .int .i64 k ∧ Bel w wr) (fun i _ => n - (intOf i).toNat)
 case atStart => exact ⟨0, by omega, rfl, bl_refl _⟩
 case round =>
  obtain ⟨k, hk, rfl, hB⟩ := hrel
  by_cases hlt : k < n
  ·have hkI : (k : Int) < (n : Int) := by omega
   have x0 := keep hB (hx k hlt)
   have y0 := keep hB (hy k hlt)
   have ox := okx k hlt
   have oy := oky k hlt
   have hsm := hs k hlt
   clear hx hy okx oky hs
   repeat (first | go_values | go_skip | go_guarded | go_step | go_upon | go_back | dsimp only)
   refine wp_region_mono 10 rfl (fun i W v => match i with | 0 => v = .slice (some ⟨ab, 0, none⟩) n n | 1 => v = .int .i64 (k : Int) | 2 => v = .pointer (some ⟨ab, k, none⟩) | 3 => v = .float .f64 (xs k) | 4 => v = .slice (some ⟨bb, 0, none⟩) n n | 5 => v = .int .i64 (k : Int) | 6 => v = .pointer (some ⟨bb, k, none⟩) | 7 => v = .float .f64 (ys k) | 8 => v = .bool true | 9 => v = .bool false | _ => False) ?A_wt (by kernel_rfl) (by kernel_rfl) ?hA_wt ?hmo_wt ?hq_wt ?ht_wt
   case hA_wt =>
    intro s
    simp only [putL, dstO, Act.put, List.getElem?_toArray, List.getElem?_cons_zero, List.getElem?_cons_succ, Option.bind_some, List.setIfInBounds_toArray, List.set_cons_zero, List.set_cons_succ, if_true]
    all_goals exact rfl
   case hmo_wt =>
    intro i W W' v hi hb h
    rcases (show i = 0 ∨ i = 1 ∨ i = 2 ∨ i = 3 ∨ i = 4 ∨ i = 5 ∨ i = 6 ∨ i = 7 ∨ i = 8 ∨ i = 9 by omega) with rfl | rfl | rfl | rfl | rfl | rfl | rfl | rfl | rfl | rfl
    all_goals exact h
   case hq_wt =>
    intro i o hi ho s W hs hb K hK
    have u0 := keep hb x0; have u1 := keep hb y0
    rcases (show i = 0 ∨ i = 1 ∨ i = 2 ∨ i = 3 ∨ i = 4 ∨ i = 5 ∨ i = 6 ∨ i = 7 ∨ i = 8 ∨ i = 9 by omega) with rfl | rfl | rfl | rfl | rfl | rfl | rfl | rfl | rfl | rfl
    rotate_left 2
    cases ho
    have e0 : s 0 = _ := hs 0 (by decide) (by kernel_rfl)
    have e1 : s 1 = _ := hs 1 (by decide) (by kernel_rfl)
    simp only [e0, e1] at hK ⊢
    rotate_left 1
    cases ho
    have e2 : s 2 = _ := hs 2 (by decide) (by kernel_rfl)
    simp only [e2] at hK ⊢
    rotate_left 3
    cases ho
    have e4 : s 4 = _ := hs 4 (by decide) (by kernel_rfl)
    have e5 : s 5 = _ := hs 5 (by decide) (by kernel_rfl)
    simp only [e4, e5] at hK ⊢
    rotate_left 1
    cases ho
    have e6 : s 6 = _ := hs 6 (by decide) (by kernel_rfl)
    simp only [e6] at hK ⊢
    rotate_left 1
    ·cases ho
     have e3 : s 3 = _ := hs 3 (by decide) (by kernel_rfl)
     have e7 : s 7 = _ := hs 7 (by decide) (by kernel_rfl)
     simp only [e3, e7] at hK ⊢
     simp only [Act.put, List.setIfInBounds_toArray, List.set_cons_zero, List.set_cons_succ] at hK
     clear hs
     go_simp
     all_goals (try go_wp2_with (first | (go_at_call 151; (with_reducible refine (n1Same_any (xs k) (ys k) _ ox oy).mono ?_); rintro e w' ⟨rfl, rfl⟩; rw [hsm])))
     all_goals first | exact hK.out _ _ rfl (bl_refl _) | exact hK.out _ _ rfl (bl_refl _) | with_reducible exact hK.out _ _ rfl (bl_refl _) | exact hK.out _ _ rfl (bl_refl _)
    cases ho
    have e8 : s 8 = _ := hs 8 (by decide) (by kernel_rfl)
    simp only [e8] at hK ⊢
    rotate_left 1
    all_goals
     try cases ho
     simp only [Act.put, List.setIfInBounds_toArray, List.set_cons_zero, List.set_cons_succ] at hK
     clear hs
     go_simp
     all_goals first | with_reducible exact hK.out _ _ rfl (bl_refl _) | exact hK.out _ _ rfl (bl_refl _)
   case ht_wt =>
    intro s W hs hb
    have e0 : s 0 = _ := hs 0 (by decide)
    have e1 : s 1 = _ := hs 1 (by decide)
    have e2 : s 2 = _ := hs 2 (by decide)
    have e3 : s 3 = _ := hs 3 (by decide)
    have e4 : s 4 = _ := hs 4 (by decide)
    have e5 : s 5 = _ := hs 5 (by decide)
    have e6 : s 6 = _ := hs 6 (by decide)
    have e7 : s 7 = _ := hs 7 (by decide)
    have e8 : s 8 = _ := hs 8 (by decide)
    have e9 : s 9 = _ := hs 9 (by decide)
    simp only [e0, e1, e2, e3, e4, e5, e6, e7, e8, e9]
    clear hs e0 e1 e2 e3 e4 e5 e6 e7 e8 e9
    repeat (first | go_values | go_skip | go_guarded | go_step | go_upon | go_back | dsimp only)
    exact ⟨⟨k + 1, by omega, by go_num, bl_trans hB hb⟩, by simp [intOf]; omega⟩
  ·have hkn : k = n := by omega
   subst hkn
   repeat (first | go_values | go_skip | go_guarded | go_step | go_upon | go_back | dsimp only)
   go_ret
   exact ⟨rfl, hB⟩
theorem fl7 {W : World} {b : Nat} {l : List Nat} (h : W.rangeAt b 0 (l.map (fun x => Value.float .f64 x))) : ∀ i, i < l.length → W.cell? ⟨b, i, none⟩ = some (.float .f64 (l.getD i 0)) := fun i hi => by
 have h1 := h i (.float .f64 (l.getD i 0)) (by rw [List.getElem?_map, List.getElem?_eq_getElem hi]; simp [hi])
 rwa [Nat.zero_add] at h1
set_option maxRecDepth 100000 in
set_option maxHeartbeats 4000000 in
theorem sameRow21 (R : RD) (w : World) (oR : rok R) : Calls Try.prog 82 #[.agg #[.int .i64 R.ra, .int .i64 R.rb, .float .f64 R.r2, .float .f64 R.r3, .float .f64 R.r4, .float .f64 R.r5, .float .f64 R.r6, .float .f64 R.r7, .float .f64 R.r8, .float .f64 R.r9, .float .f64 R.r10, .float .f64 R.r11, .int .i64 R.ro, .float .f64 R.r13], .agg #[.int .i64 R.ra, .int .i64 R.rb, .float .f64 R.r2, .float .f64 R.r3, .float .f64 R.r4, .float .f64 R.r5, .float .f64 R.r6, .float .f64 R.r7, .float .f64 R.r8, .float .f64 R.r9, .float .f64 R.r10, .float .f64 R.r11, .int .i64 R.ro, .float .f64 R.r13]] w fun e w' => e = .returned (.bool true) ∧ Bel w w' := by
 have hA : (R.ra == R.ra) = true := by simp
 have hB : (R.rb == R.rb) = true := by simp
 have hO : (R.ro == R.ro) = true := by simp
 have B0 : Bel w ((w.alloc (.cells #[.int .i64 R.ra, .int .i64 R.rb, .float .f64 R.r2, .float .f64 R.r3, .float .f64 R.r4, .float .f64 R.r5, .float .f64 R.r6, .float .f64 R.r7, .float .f64 R.r8, .float .f64 R.r9, .float .f64 R.r10, .float .f64 R.r11, .int .i64 R.ro, .float .f64 R.r13] 43)).alloc (.cells #[.int .i64 R.ra, .int .i64 R.rb, .float .f64 R.r2, .float .f64 R.r3, .float .f64 R.r4, .float .f64 R.r5, .float .f64 R.r6, .float .f64 R.r7, .float .f64 R.r8, .float .f64 R.r9, .float .f64 R.r10, .float .f64 R.r11, .int .i64 R.ro, .float .f64 R.r13] 43)) := bl_alloc (bl_alloc (bl_refl w) _ _) _ _
 have hT0 : ((w.alloc (.cells #[.int .i64 R.ra, .int .i64 R.rb, .float .f64 R.r2, .float .f64 R.r3, .float .f64 R.r4, .float .f64 R.r5, .float .f64 R.r6, .float .f64 R.r7, .float .f64 R.r8, .float .f64 R.r9, .float .f64 R.r10, .float .f64 R.r11, .int .i64 R.ro, .float .f64 R.r13] 43)).alloc (.cells #[.int .i64 R.ra, .int .i64 R.rb, .float .f64 R.r2, .float .f64 R.r3, .float .f64 R.r4, .float .f64 R.r5, .float .f64 R.r6, .float .f64 R.r7, .float .f64 R.r8, .float .f64 R.r9, .float .f64 R.r10, .float .f64 R.r11, .int .i64 R.ro, .float .f64 R.r13] 43)).rangeAt (w.heap.size) 0 [.int .i64 R.ra, .int .i64 R.rb, .float .f64 R.r2, .float .f64 R.r3, .float .f64 R.r4, .float .f64 R.r5, .float .f64 R.r6, .float .f64 R.r7, .float .f64 R.r8, .float .f64 R.r9, .float .f64 R.r10, .float .f64 R.r11, .int .i64 R.ro, .float .f64 R.r13] := World.rangeAt_alloc (rng_new w [.int .i64 R.ra, .int .i64 R.rb, .float .f64 R.r2, .float .f64 R.r3, .float .f64 R.r4, .float .f64 R.r5, .float .f64 R.r6, .float .f64 R.r7, .float .f64 R.r8, .float .f64 R.r9, .float .f64 R.r10, .float .f64 R.r11, .int .i64 R.ro, .float .f64 R.r13] 43) _
 have hT1 : ((w.alloc (.cells #[.int .i64 R.ra, .int .i64 R.rb, .float .f64 R.r2, .float .f64 R.r3, .float .f64 R.r4, .float .f64 R.r5, .float .f64 R.r6, .float .f64 R.r7, .float .f64 R.r8, .float .f64 R.r9, .float .f64 R.r10, .float .f64 R.r11, .int .i64 R.ro, .float .f64 R.r13] 43)).alloc (.cells #[.int .i64 R.ra, .int .i64 R.rb, .float .f64 R.r2, .float .f64 R.r3, .float .f64 R.r4, .float .f64 R.r5, .float .f64 R.r6, .float .f64 R.r7, .float .f64 R.r8, .float .f64 R.r9, .float .f64 R.r10, .float .f64 R.r11, .int .i64 R.ro, .float .f64 R.r13] 43)).rangeAt (w.heap.size + 1) 0 [.int .i64 R.ra, .int .i64 R.rb, .float .f64 R.r2, .float .f64 R.r3, .float .f64 R.r4, .float .f64 R.r5, .float .f64 R.r6, .float .f64 R.r7, .float .f64 R.r8, .float .f64 R.r9, .float .f64 R.r10, .float .f64 R.r11, .int .i64 R.ro, .float .f64 R.r13] := by have h := rng_new (w.alloc (.cells #[.int .i64 R.ra, .int .i64 R.rb, .float .f64 R.r2, .float .f64 R.r3, .float .f64 R.r4, .float .f64 R.r5, .float .f64 R.r6, .float .f64 R.r7, .float .f64 R.r8, .float .f64 R.r9, .float .f64 R.r10, .float .f64 R.r11, .int .i64 R.ro, .float .f64 R.r13] 43)) [.int .i64 R.ra, .int .i64 R.rb, .float .f64 R.r2, .float .f64 R.r3, .float .f64 R.r4, .float .f64 R.r5, .float .f64 R.r6, .float .f64 R.r7, .float .f64 R.r8, .float .f64 R.r9, .float .f64 R.r10, .float .f64 R.r11, .int .i64 R.ro, .float .f64 R.r13] 43; rwa [World.size_alloc] at h
 have x0 : ((w.alloc (.cells #[.int .i64 R.ra, .int .i64 R.rb, .float .f64 R.r2, .float .f64 R.r3, .float .f64 R.r4, .float .f64 R.r5, .float .f64 R.r6, .float .f64 R.r7, .float .f64 R.r8, .float .f64 R.r9, .float .f64 R.r10, .float .f64 R.r11, .int .i64 R.ro, .float .f64 R.r13] 43)).alloc (.cells #[.int .i64 R.ra, .int .i64 R.rb, .float .f64 R.r2, .float .f64 R.r3, .float .f64 R.r4, .float .f64 R.r5, .float .f64 R.r6, .float .f64 R.r7, .float .f64 R.r8, .float .f64 R.r9, .float .f64 R.r10, .float .f64 R.r11, .int .i64 R.ro, .float .f64 R.r13] 43)).cell? ⟨w.heap.size, 0, none⟩ = some (.int .i64 R.ra) := hT0 0 _ rfl
 have y0 : ((w.alloc (.cells #[.int .i64 R.ra, .int .i64 R.rb, .float .f64 R.r2, .float .f64 R.r3, .float .f64 R.r4, .float .f64 R.r5, .float .f64 R.r6, .float .f64 R.r7, .float .f64 R.r8, .float .f64 R.r9, .float .f64 R.r10, .float .f64 R.r11, .int .i64 R.ro, .float .f64 R.r13] 43)).alloc (.cells #[.int .i64 R.ra, .int .i64 R.rb, .float .f64 R.r2, .float .f64 R.r3, .float .f64 R.r4, .float .f64 R.r5, .float .f64 R.r6, .float .f64 R.r7, .float .f64 R.r8, .float .f64 R.r9, .float .f64 R.r10, .float .f64 R.r11, .int .i64 R.ro, .float .f64 R.r13] 43)).cell? ⟨w.heap.size + 1, 0, none⟩ = some (.int .i64 R.ra) := hT1 0 _ rfl
 have x1 : ((w.alloc (.cells #[.int .i64 R.ra, .int .i64 R.rb, .float .f64 R.r2, .float .f64 R.r3, .float .f64 R.r4, .float .f64 R.r5, .float .f64 R.r6, .float .f64 R.r7, .float .f64 R.r8, .float .f64 R.r9, .float .f64 R.r10, .float .f64 R.r11, .int .i64 R.ro, .float .f64 R.r13] 43)).alloc (.cells #[.int .i64 R.ra, .int .i64 R.rb, .float .f64 R.r2, .float .f64 R.r3, .float .f64 R.r4, .float .f64 R.r5, .float .f64 R.r6, .float .f64 R.r7, .float .f64 R.r8, .float .f64 R.r9, .float .f64 R.r10, .float .f64 R.r11, .int .i64 R.ro, .float .f64 R.r13] 43)).cell? ⟨w.heap.size, 1, none⟩ = some (.int .i64 R.rb) := hT0 1 _ rfl
 have y1 : ((w.alloc (.cells #[.int .i64 R.ra, .int .i64 R.rb, .float .f64 R.r2, .float .f64 R.r3, .float .f64 R.r4, .float .f64 R.r5, .float .f64 R.r6, .float .f64 R.r7, .float .f64 R.r8, .float .f64 R.r9, .float .f64 R.r10, .float .f64 R.r11, .int .i64 R.ro, .float .f64 R.r13] 43)).alloc (.cells #[.int .i64 R.ra, .int .i64 R.rb, .float .f64 R.r2, .float .f64 R.r3, .float .f64 R.r4, .float .f64 R.r5, .float .f64 R.r6, .float .f64 R.r7, .float .f64 R.r8, .float .f64 R.r9, .float .f64 R.r10, .float .f64 R.r11, .int .i64 R.ro, .float .f64 R.r13] 43)).cell? ⟨w.heap.size + 1, 1, none⟩ = some (.int .i64 R.rb) := hT1 1 _ rfl
 have x2 : ((w.alloc (.cells #[.int .i64 R.ra, .int .i64 R.rb, .float .f64 R.r2, .float .f64 R.r3, .float .f64 R.r4, .float .f64 R.r5, .float .f64 R.r6, .float .f64 R.r7, .float .f64 R.r8, .float .f64 R.r9, .float .f64 R.r10, .float .f64 R.r11, .int .i64 R.ro, .float .f64 R.r13] 43)).alloc (.cells #[.int .i64 R.ra, .int .i64 R.rb, .float .f64 R.r2, .float .f64 R.r3, .float .f64 R.r4, .float .f64 R.r5, .float .f64 R.r6, .float .f64 R.r7, .float .f64 R.r8, .float .f64 R.r9, .float .f64 R.r10, .float .f64 R.r11, .int .i64 R.ro, .float .f64 R.r13] 43)).cell? ⟨w.heap.size, 2, none⟩ = some (.float .f64 R.r2) := hT0 2 _ rfl
 have y2 : ((w.alloc (.cells #[.int .i64 R.ra, .int .i64 R.rb, .float .f64 R.r2, .float .f64 R.r3, .float .f64 R.r4, .float .f64 R.r5, .float .f64 R.r6, .float .f64 R.r7, .float .f64 R.r8, .float .f64 R.r9, .float .f64 R.r10, .float .f64 R.r11, .int .i64 R.ro, .float .f64 R.r13] 43)).alloc (.cells #[.int .i64 R.ra, .int .i64 R.rb, .float .f64 R.r2, .float .f64 R.r3, .float .f64 R.r4, .float .f64 R.r5, .float .f64 R.r6, .float .f64 R.r7, .float .f64 R.r8, .float .f64 R.r9, .float .f64 R.r10, .float .f64 R.r11, .int .i64 R.ro, .float .f64 R.r13] 43)).cell? ⟨w.heap.size + 1, 2, none⟩ = some (.float .f64 R.r2) := hT1 2 _ rfl
 have x3 : ((w.alloc (.cells #[.int .i64 R.ra, .int .i64 R.rb, .float .f64 R.r2, .float .f64 R.r3, .float .f64 R.r4, .float .f64 R.r5, .float .f64 R.r6, .float .f64 R.r7, .float .f64 R.r8, .float .f64 R.r9, .float .f64 R.r10, .float .f64 R.r11, .int .i64 R.ro, .float .f64 R.r13] 43)).alloc (.cells #[.int .i64 R.ra, .int .i64 R.rb, .float .f64 R.r2, .float .f64 R.r3, .float .f64 R.r4, .float .f64 R.r5, .float .f64 R.r6, .float .f64 R.r7, .float .f64 R.r8, .float .f64 R.r9, .float .f64 R.r10, .float .f64 R.r11, .int .i64 R.ro, .float .f64 R.r13] 43)).cell? ⟨w.heap.size, 3, none⟩ = some (.float .f64 R.r3) := hT0 3 _ rfl
 have y3 : ((w.alloc (.cells #[.int .i64 R.ra, .int .i64 R.rb, .float .f64 R.r2, .float .f64 R.r3, .float .f64 R.r4, .float .f64 R.r5, .float .f64 R.r6, .float .f64 R.r7, .float .f64 R.r8, .float .f64 R.r9, .float .f64 R.r10, .float .f64 R.r11, .int .i64 R.ro, .float .f64 R.r13] 43)).alloc (.cells #[.int .i64 R.ra, .int .i64 R.rb, .float .f64 R.r2, .float .f64 R.r3, .float .f64 R.r4, .float .f64 R.r5, .float .f64 R.r6, .float .f64 R.r7, .float .f64 R.r8, .float .f64 R.r9, .float .f64 R.r10, .float .f64 R.r11, .int .i64 R.ro, .float .f64 R.r13] 43)).cell? ⟨w.heap.size + 1, 3, none⟩ = some (.float .f64 R.r3) := hT1 3 _ rfl
 have x12 : ((w.alloc (.cells #[.int .i64 R.ra, .int .i64 R.rb, .float .f64 R.r2, .float .f64 R.r3, .float .f64 R.r4, .float .f64 R.r5, .float .f64 R.r6, .float .f64 R.r7, .float .f64 R.r8, .float .f64 R.r9, .float .f64 R.r10, .float .f64 R.r11, .int .i64 R.ro, .float .f64 R.r13] 43)).alloc (.cells #[.int .i64 R.ra, .int .i64 R.rb, .float .f64 R.r2, .float .f64 R.r3, .float .f64 R.r4, .float .f64 R.r5, .float .f64 R.r6, .float .f64 R.r7, .float .f64 R.r8, .float .f64 R.r9, .float .f64 R.r10, .float .f64 R.r11, .int .i64 R.ro, .float .f64 R.r13] 43)).cell? ⟨w.heap.size, 12, none⟩ = some (.int .i64 R.ro) := hT0 12 _ rfl
 have y12 : ((w.alloc (.cells #[.int .i64 R.ra, .int .i64 R.rb, .float .f64 R.r2, .float .f64 R.r3, .float .f64 R.r4, .float .f64 R.r5, .float .f64 R.r6, .float .f64 R.r7, .float .f64 R.r8, .float .f64 R.r9, .float .f64 R.r10, .float .f64 R.r11, .int .i64 R.ro, .float .f64 R.r13] 43)).alloc (.cells #[.int .i64 R.ra, .int .i64 R.rb, .float .f64 R.r2, .float .f64 R.r3, .float .f64 R.r4, .float .f64 R.r5, .float .f64 R.r6, .float .f64 R.r7, .float .f64 R.r8, .float .f64 R.r9, .float .f64 R.r10, .float .f64 R.r11, .int .i64 R.ro, .float .f64 R.r13] 43)).cell? ⟨w.heap.size + 1, 12, none⟩ = some (.int .i64 R.ro) := hT1 12 _ rfl
 have ok7 : ∀ i, i < 7 → okK .f64 (([R.r6, R.r7, R.r8, R.r9, R.r10, R.r11, R.r13] : List Nat).getD i 0) := fun i hi => by
  obtain ⟨o2, o3, o4, o5, o6, o7, o8, o9, o10, o11, o13⟩ := oR
  rcases (show i = 0 ∨ i = 1 ∨ i = 2 ∨ i = 3 ∨ i = 4 ∨ i = 5 ∨ i = 6 by omega) with rfl | rfl | rfl | rfl | rfl | rfl | rfl <;> assumption
 have t1 : Stg 1 := trivial
 go_enter Try.func82, Try.ntmps82
 repeat (first | (have zz := t1; clear zz t1; go_at_call 54; (with_reducible refine (rSame_any R.r2 R.r3 R.r2 R.r3 _).mono ?_); rintro e w1 ⟨rfl, hb⟩; rw [smK_self, smK_self]; have t2 : Stg 2 := trivial; (have c4 : w1.cell? ⟨w.heap.size, 4, none⟩ = some (.float .f64 R.r4) := keep hb (hT0 4 _ rfl)); (have c5 : w1.cell? ⟨w.heap.size, 5, none⟩ = some (.float .f64 R.r5) := keep hb (hT0 5 _ rfl)); (have d4 : w1.cell? ⟨w.heap.size + 1, 4, none⟩ = some (.float .f64 R.r4) := keep hb (hT1 4 _ rfl)); (have d5 : w1.cell? ⟨w.heap.size + 1, 5, none⟩ = some (.float .f64 R.r5) := keep hb (hT1 5 _ rfl))) | (have zz := t2; clear zz t2; go_at_call 54; (with_reducible refine (rSame_any R.r4 R.r5 R.r4 R.r5 _).mono ?_); rintro e w2 ⟨rfl, hb2⟩; rw [smK_self, smK_self]; replace hb2 := bl_trans hb hb2; (have e6 : w2.cell? ⟨w.heap.size, 6, none⟩ = some (.float .f64 R.r6) := keep hb2 (hT0 6 _ rfl)); (have e7 : w2.cell? ⟨w.heap.size, 7, none⟩ = some (.float .f64 R.r7) := keep hb2 (hT0 7 _ rfl)); (have e8 : w2.cell? ⟨w.heap.size, 8, none⟩ = some (.float .f64 R.r8) := keep hb2 (hT0 8 _ rfl)); (have e9 : w2.cell? ⟨w.heap.size, 9, none⟩ = some (.float .f64 R.r9) := keep hb2 (hT0 9 _ rfl)); (have e10 : w2.cell? ⟨w.heap.size, 10, none⟩ = some (.float .f64 R.r10) := keep hb2 (hT0 10 _ rfl)); (have e11 : w2.cell? ⟨w.heap.size, 11, none⟩ = some (.float .f64 R.r11) := keep hb2 (hT0 11 _ rfl)); (have e13 : w2.cell? ⟨w.heap.size, 13, none⟩ = some (.float .f64 R.r13) := keep hb2 (hT0 13 _ rfl)); (have f6 : (w2.alloc (.cells #[.float .f64 R.r6, .float .f64 R.r7, .float .f64 R.r8, .float .f64 R.r9, .float .f64 R.r10, .float .f64 R.r11, .float .f64 R.r13] 24)).cell? ⟨w.heap.size + 1, 6, none⟩ = some (.float .f64 R.r6) := up_alloc (keep hb2 (hT1 6 _ rfl))); (have f7 : (w2.alloc (.cells #[.float .f64 R.r6, .float .f64 R.r7, .float .f64 R.r8, .float .f64 R.r9, .float .f64 R.r10, .float .f64 R.r11, .float .f64 R.r13] 24)).cell? ⟨w.heap.size + 1, 7, none⟩ = some (.float .f64 R.r7) := up_alloc (keep hb2 (hT1 7 _ rfl))); (have f8 : (w2.alloc (.cells #[.float .f64 R.r6, .float .f64 R.r7, .float .f64 R.r8, .float .f64 R.r9, .float .f64 R.r10, .float .f64 R.r11, .float .f64 R.r13] 24)).cell? ⟨w.heap.size + 1, 8, none⟩ = some (.float .f64 R.r8) := up_alloc (keep hb2 (hT1 8 _ rfl))); (have f9 : (w2.alloc (.cells #[.float .f64 R.r6, .float .f64 R.r7, .float .f64 R.r8, .float .f64 R.r9, .float .f64 R.r10, .float .f64 R.r11, .float .f64 R.r13] 24)).cell? ⟨w.heap.size + 1, 9, none⟩ = some (.float .f64 R.r9) := up_alloc (keep hb2 (hT1 9 _ rfl))); (have f10 : (w2.alloc (.cells #[.float .f64 R.r6, .float .f64 R.r7, .float .f64 R.r8, .float .f64 R.r9, .float .f64 R.r10, .float .f64 R.r11, .float .f64 R.r13] 24)).cell? ⟨w.heap.size + 1, 10, none⟩ = some (.float .f64 R.r10) := up_alloc (keep hb2 (hT1 10 _ rfl))); (have f11 : (w2.alloc (.cells #[.float .f64 R.r6, .float .f64 R.r7, .float .f64 R.r8, .float .f64 R.r9, .float .f64 R.r10, .float .f64 R.r11, .float .f64 R.r13] 24)).cell? ⟨w.heap.size + 1, 11, none⟩ = some (.float .f64 R.r11) := up_alloc (keep hb2 (hT1 11 _ rfl))); (have f13 : (w2.alloc (.cells #[.float .f64 R.r6, .float .f64 R.r7, .float .f64 R.r8, .float .f64 R.r9, .float .f64 R.r10, .float .f64 R.r11, .float .f64 R.r13] 24)).cell? ⟨w.heap.size + 1, 13, none⟩ = some (.float .f64 R.r13) := up_alloc (keep hb2 (hT1 13 _ rfl)))) | (have hx7 : ∀ i, i < 7 → ((w2.alloc (.cells #[.float .f64 R.r6, .float .f64 R.r7, .float .f64 R.r8, .float .f64 R.r9, .float .f64 R.r10, .float .f64 R.r11, .float .f64 R.r13] 24)).alloc (.cells #[.float .f64 R.r6, .float .f64 R.r7, .float .f64 R.r8, .float .f64 R.r9, .float .f64 R.r10, .float .f64 R.r11, .float .f64 R.r13] 24)).cell? ⟨w2.heap.size, i, none⟩ = some (.float .f64 (([R.r6, R.r7, R.r8, R.r9, R.r10, R.r11, R.r13] : List Nat).getD i 0)) := fl7 (l := [R.r6, R.r7, R.r8, R.r9, R.r10, R.r11, R.r13]) (World.rangeAt_alloc (rng_new w2 [.float .f64 R.r6, .float .f64 R.r7, .float .f64 R.r8, .float .f64 R.r9, .float .f64 R.r10, .float .f64 R.r11, .float .f64 R.r13] 24) _); have hy7 : ∀ i, i < 7 → ((w2.alloc (.cells #[.float .f64 R.r6, .float .f64 R.r7, .float .f64 R.r8, .float .f64 R.r9, .float .f64 R.r10, .float .f64 R.r11, .float .f64 R.r13] 24)).alloc (.cells #[.float .f64 R.r6, .float .f64 R.r7, .float .f64 R.r8, .float .f64 R.r9, .float .f64 R.r10, .float .f64 R.r11, .float .f64 R.r13] 24)).cell? ⟨w2.heap.size + 1, i, none⟩ = some (.float .f64 (([R.r6, R.r7, R.r8, R.r9, R.r10, R.r11, R.r13] : List Nat).getD i 0)) := fl7 (l := [R.r6, R.r7, R.r8, R.r9, R.r10, R.r11, R.r13]) (by have h := rng_new (w2.alloc (.cells #[.float .f64 R.r6, .float .f64 R.r7, .float .f64 R.r8, .float .f64 R.r9, .float .f64 R.r10, .float .f64 R.r11, .float .f64 R.r13] 24)) [.float .f64 R.r6, .float .f64 R.r7, .float .f64 R.r8, .float .f64 R.r9, .float .f64 R.r10, .float .f64 R.r11, .float .f64 R.r13] 24; rw [World.size_alloc] at h; exact h); go_at_call 134; (with_reducible refine (sameAll21 w2.heap.size (w2.heap.size + 1) 7 (fun i => ([R.r6, R.r7, R.r8, R.r9, R.r10, R.r11, R.r13] : List Nat).getD i 0) (fun i => ([R.r6, R.r7, R.r8, R.r9, R.r10, R.r11, R.r13] : List Nat).getD i 0) _ (by decide) hx7 hy7 ok7 ok7 (fun i _ => smK_self .f64 _)).mono ?_); rintro e w3 ⟨rfl, hb3⟩) | go_values | go_skip | go_guarded | go_step | go_upon | go_back | dsimp only)
 go_ret
 exact ⟨rfl, bl_trans B0 (bl_trans hb2 (bl_trans (bl_alloc (bl_alloc (bl_refl w2) _ _) _ _) hb3))⟩
/-- stills of a list of rows: what it does not touch, or can't move, stays; masses stay -/
structure Al (Q : Nat → RD) (n : Nat) (M F : Nat → SD) : Prop where
 st : ∀ i, (mvB (M i) = false ∨ tchB Q n i = false) → F i = M i
 ms : ∀ i, (F i).sm = (M i).sm ∧ (F i).si = (M i).si
theorem Al.refl (Q : Nat → RD) (n : Nat) (M : Nat → SD) : Al Q n M M := ⟨fun _ _ => rfl, fun _ => ⟨rfl, rfl⟩⟩
theorem tch_at {Q : Nat → RD} {n k : Nat} (hk : k < n) : tchB Q n (Q k).ra.toNat = true ∧ tchB Q n (Q k).rb.toNat = true := by
 unfold tchB
 exact ⟨anyN_at (k := k) (by simp) hk, anyN_at (k := k) (by simp) hk⟩
theorem Al.step {Q : Nat → RD} {n k : Nat} {M F : Nat → SD} (h : Al Q n M F) (hk : k < n) {x y : SD} (hx : mvB (M (Q k).ra.toNat) = false → x = M (Q k).ra.toNat) (hy : mvB (M (Q k).rb.toNat) = false → y = M (Q k).rb.toNat) (mx : x.sm = (M (Q k).ra.toNat).sm ∧ x.si = (M (Q k).ra.toNat).si) (my : y.sm = (M (Q k).rb.toNat).sm ∧ y.si = (M (Q k).rb.toNat).si) : Al Q n M (setF (setF F (Q k).ra.toNat x) (Q k).rb.toNat y) := by
 have ht := tch_at (Q := Q) hk
 refine ⟨fun i hi => ?_, fun i => ?_⟩
 ·unfold setF
  split
  ·subst i
   rcases hi with hi | hi
   ·exact hy hi
   ·rw [ht.2] at hi; cases hi
  ·split
   ·subst i
    rcases hi with hi | hi
    ·exact hx hi
    ·rw [ht.1] at hi; cases hi
   ·exact h.st i hi
 ·unfold setF
  split
  ·subst i; exact my
  ·split
   ·subst i; exact mx
   ·exact h.ms i
end Go.Proofs.Ytfohggiehbplkaa
