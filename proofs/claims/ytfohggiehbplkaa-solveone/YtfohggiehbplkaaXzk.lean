/-
  Plain facts that go together.
-/
import Derived.Test.YtfohggiehbplkaaVec
import Derived.Test.YtfohggiehbplkaaXz
import Derived.Below
import Derived.OwnWalk
import Derived.Laws.AppendOwn
import Derived.Lib.SliceRun
import Derived.Laws.MakeOwn
import Derived.WalkKit
import Derived.WalkLawsBesides
import Derived.WalkSpells
import Derived.ProofKit
import Derived.OpenShut
import Derived.Deep.RegionHeld3
namespace Go.Proofs.Ytfohggiehbplkaa
open Go.ChangeShapes Go.WideShapes Go.ChangeAt Go.RowKit
set_option linter.unusedSimpArgs false
set_option linter.unusedVariables false
section
variable {Q : Nat → RD} {p : Nat → Bool} {rn : Nat} {M : Nat → SD}
/-- the picks' rows, Of told anew -/
abbrev QO (Q : Nat → RD) (p : Nat → Bool) (rn : Nat) : Nat → RD := onlyR Q (pickN p rn)
end
/-- a list of rows and one of numbers that grow together -/
structure TwoO (B : Nat) (w : World) (vo vn : Value) (c : Nat) (Ro Rn : List Value) : Prop where
 o : OwnR 14 B w vo c Ro
 n : OwnR 1 B w vn c Rn
 z : c = 0 → vo = .slice none 0 0 ∧ vn = .slice none 0 0
 d : ∀ go co gn cn, vo = .slice (some ⟨go, 0, none⟩) c co → vn = .slice (some ⟨gn, 0, none⟩) c cn → go ≠ gn
theorem TwoO.bel {B : Nat} {w w' : World} {vo vn : Value} {c : Nat} {Ro Rn : List Value} (h : TwoO B w vo vn c Ro Rn) (g : Bel w w') : TwoO B w' vo vn c Ro Rn := ⟨h.o.bel g, h.n.bel g, h.z, h.d⟩
set_option maxRecDepth 100000 in
set_option maxHeartbeats 4000000 in
theorem sameRows9 (ab ao ac bb bo bc n : Nat) (as_ bs_ : Option Addr) (Q : Nat → RD) (w : World) (ha : n = 0 ∨ as_ = some ⟨ab, ao, none⟩) (hb_ : n = 0 ∨ bs_ = some ⟨bb, bo, none⟩) (h1 : n ≤ ac) (h2 : n ≤ bc) (hn : n ≤ 9223372036854775807) (hS : Rws w ab ao n Q) (hT : Rws w bb bo n Q) (ok : ∀ i, i < n → rok (Q i)) : Calls Try.prog 35 #[.slice as_ n ac, .slice bs_ n bc] w fun e w' => e = .returned (.bool true) ∧ Bel w w' := by
 go_enter Try.func35, Try.ntmps35
 repeat (first | go_values | go_skip | go_guarded | go_step | go_upon | go_back | dsimp only)
 go_loopw [5] (fun i wr => ∃ k : Nat, k ≤ n ∧ i = .int .i64 k ∧ Bel w wr) (fun i _ => n - (intOf i).toNat)
 case atStart => exact ⟨0, by omega, rfl, bl_refl _⟩
 case round =>
  obtain ⟨k, hk, rfl, hB⟩ := hrel
  by_cases hlt : k < n
  ·have e1 : as_ = some ⟨ab, ao, none⟩ := by rcases ha with h | h; omega; exact h
   have e2 : bs_ = some ⟨bb, bo, none⟩ := by rcases hb_ with h | h; omega; exact h
   subst e1 e2
   have hkI : (k : Int) < (n : Int) := by omega
   have hx0 : wr.rangeAt ab (ao + k * 14) [.int .i64 (Q k).ra, .int .i64 (Q k).rb, .float .f64 (Q k).r2, .float .f64 (Q k).r3, .float .f64 (Q k).r4, .float .f64 (Q k).r5, .float .f64 (Q k).r6, .float .f64 (Q k).r7, .float .f64 (Q k).r8, .float .f64 (Q k).r9, .float .f64 (Q k).r10, .float .f64 (Q k).r11, .int .i64 (Q k).ro, .float .f64 (Q k).r13] := (hS.bel hB) k hlt
   have hy0 : wr.rangeAt bb (bo + k * 14) [.int .i64 (Q k).ra, .int .i64 (Q k).rb, .float .f64 (Q k).r2, .float .f64 (Q k).r3, .float .f64 (Q k).r4, .float .f64 (Q k).r5, .float .f64 (Q k).r6, .float .f64 (Q k).r7, .float .f64 (Q k).r8, .float .f64 (Q k).r9, .float .f64 (Q k).r10, .float .f64 (Q k).r11, .int .i64 (Q k).ro, .float .f64 (Q k).r13] := (hT.bel hB) k hlt
   replace ok := ok k hlt
   clear hS hT
   repeat (first | go_values | go_skip | go_guarded | go_step | go_upon | go_back | dsimp only)
   refine wp_region_mono 10 rfl (fun i W v => match i with | 0 => v = .slice (some ⟨ab, ao, none⟩) n ac | 1 => v = .int .i64 (k : Int) | 2 => v = .pointer (some ⟨ab, ao + k * 14, none⟩) | 3 => v = .agg #[.int .i64 (Q k).ra, .int .i64 (Q k).rb, .float .f64 (Q k).r2, .float .f64 (Q k).r3, .float .f64 (Q k).r4, .float .f64 (Q k).r5, .float .f64 (Q k).r6, .float .f64 (Q k).r7, .float .f64 (Q k).r8, .float .f64 (Q k).r9, .float .f64 (Q k).r10, .float .f64 (Q k).r11, .int .i64 (Q k).ro, .float .f64 (Q k).r13] | 4 => v = .slice (some ⟨bb, bo, none⟩) n bc | 5 => v = .int .i64 (k : Int) | 6 => v = .pointer (some ⟨bb, bo + k * 14, none⟩) | 7 => v = .agg #[.int .i64 (Q k).ra, .int .i64 (Q k).rb, .float .f64 (Q k).r2, .float .f64 (Q k).r3, .float .f64 (Q k).r4, .float .f64 (Q k).r5, .float .f64 (Q k).r6, .float .f64 (Q k).r7, .float .f64 (Q k).r8, .float .f64 (Q k).r9, .float .f64 (Q k).r10, .float .f64 (Q k).r11, .int .i64 (Q k).ro, .float .f64 (Q k).r13] | 8 => v = .bool true | 9 => v = .bool false | _ => False) ?A_wu (by kernel_rfl) (by kernel_rfl) ?hA_wu ?hmo_wu ?hq_wu ?ht_wu
   case hA_wu =>
    intro s
    simp only [putL, dstO, Act.put, List.getElem?_toArray, List.getElem?_cons_zero, List.getElem?_cons_succ, Option.bind_some, List.setIfInBounds_toArray, List.set_cons_zero, List.set_cons_succ, if_true]
    all_goals exact rfl
   case hmo_wu =>
    intro i W W' v hi hb h
    rcases (show i = 0 ∨ i = 1 ∨ i = 2 ∨ i = 3 ∨ i = 4 ∨ i = 5 ∨ i = 6 ∨ i = 7 ∨ i = 8 ∨ i = 9 by omega) with rfl | rfl | rfl | rfl | rfl | rfl | rfl | rfl | rfl | rfl
    all_goals exact h
   case hq_wu =>
    intro i o hi ho s W hs hb K hK
    rcases (show i = 0 ∨ i = 1 ∨ i = 2 ∨ i = 3 ∨ i = 4 ∨ i = 5 ∨ i = 6 ∨ i = 7 ∨ i = 8 ∨ i = 9 by omega) with rfl | rfl | rfl | rfl | rfl | rfl | rfl | rfl | rfl | rfl
    rotate_left 2
    cases ho
    have e0 : s 0 = _ := hs 0 (by decide) (by kernel_rfl)
    have e1 : s 1 = _ := hs 1 (by decide) (by kernel_rfl)
    simp only [e0, e1] at hK ⊢
    rotate_left 1
    ·cases ho
     have e2 : s 2 = _ := hs 2 (by decide) (by kernel_rfl)
     simp only [e2] at hK ⊢
     simp only [Act.put, List.setIfInBounds_toArray, List.set_cons_zero, List.set_cons_succ] at hK
     clear hs
     refine wp_load_mid (P := Try.prog) 43 _ rfl _ _ rfl [.int .i64 (Q k).ra, .int .i64 (Q k).rb, .float .f64 (Q k).r2, .float .f64 (Q k).r3, .float .f64 (Q k).r4, .float .f64 (Q k).r5, .float .f64 (Q k).r6, .float .f64 (Q k).r7, .float .f64 (Q k).r8, .float .f64 (Q k).r9, .float .f64 (Q k).r10, .float .f64 (Q k).r11, .int .i64 (Q k).ro, .float .f64 (Q k).r13] _ (rng_bel hx0 hb) Try.underlying43 rfl (by kernel_rfl) ?_; exact hK.out _ _ rfl (bl_refl _)
    rotate_left 2
    cases ho
    have e4 : s 4 = _ := hs 4 (by decide) (by kernel_rfl)
    have e5 : s 5 = _ := hs 5 (by decide) (by kernel_rfl)
    simp only [e4, e5] at hK ⊢
    rotate_left 1
    ·cases ho
     have e6 : s 6 = _ := hs 6 (by decide) (by kernel_rfl)
     simp only [e6] at hK ⊢
     simp only [Act.put, List.setIfInBounds_toArray, List.set_cons_zero, List.set_cons_succ] at hK
     clear hs
     refine wp_load_mid (P := Try.prog) 43 _ rfl _ _ rfl [.int .i64 (Q k).ra, .int .i64 (Q k).rb, .float .f64 (Q k).r2, .float .f64 (Q k).r3, .float .f64 (Q k).r4, .float .f64 (Q k).r5, .float .f64 (Q k).r6, .float .f64 (Q k).r7, .float .f64 (Q k).r8, .float .f64 (Q k).r9, .float .f64 (Q k).r10, .float .f64 (Q k).r11, .int .i64 (Q k).ro, .float .f64 (Q k).r13] _ (rng_bel hy0 hb) Try.underlying43 rfl (by kernel_rfl) ?_; exact hK.out _ _ rfl (bl_refl _)
    ·cases ho
     have e3 : s 3 = _ := hs 3 (by decide) (by kernel_rfl)
     have e7 : s 7 = _ := hs 7 (by decide) (by kernel_rfl)
     simp only [e3, e7] at hK ⊢
     simp only [Act.put, List.setIfInBounds_toArray, List.set_cons_zero, List.set_cons_succ] at hK
     clear hs
     go_simp
     all_goals (try go_wp2_with (first | (go_at_call 82; (with_reducible refine (sameRow21 (Q k) _ ok).mono ?_); rintro e w' ⟨rfl, hb1⟩)))
     all_goals first | exact hK.out _ _ rfl hb1 | exact hK.out _ _ rfl hb1 | with_reducible exact hK.out _ _ rfl (bl_refl _) | exact hK.out _ _ rfl (bl_refl _)
    cases ho
    have e8 : s 8 = _ := hs 8 (by decide) (by kernel_rfl)
    simp only [e8] at hK ⊢
    rotate_left 1
    all_goals
     try cases ho
     simp only [Act.put, List.setIfInBounds_toArray, List.set_cons_zero, List.set_cons_succ] at hK
     clear hs
     go_simp
     all_goals first | with_reducible exact hK.out _ _ rfl (bl_refl _) | exact hK.out _ _ rfl (bl_refl _)
   case ht_wu =>
    intro s W hs hb
    have e0 : s 0 = _ := hs 0 (by decide)
    have e1 : s 1 = _ := hs 1 (by decide)
    have e2 : s 2 = _ := hs 2 (by decide)
    have e3 : s 3 = _ := hs 3 (by decide)
    have e4 : s 4 = _ := hs 4 (by decide)
    have e5 : s 5 = _ := hs 5 (by decide)
    have e6 : s 6 = _ := hs 6 (by decide)
    have e7 : s 7 = _ := hs 7 (by decide)
    have e8 : s 8 = _ := hs 8 (by decide)
    have e9 : s 9 = _ := hs 9 (by decide)
    simp only [e0, e1, e2, e3, e4, e5, e6, e7, e8, e9]
    clear hs e0 e1 e2 e3 e4 e5 e6 e7 e8 e9
    repeat (first | go_values | go_skip | go_guarded | go_step | go_upon | go_back | dsimp only)
    exact ⟨⟨k + 1, by omega, by go_num, bl_trans hB hb⟩, by simp [intOf]; omega⟩
  ·have hkn : k = n := by omega
   subst hkn
   repeat (first | go_values | go_skip | go_guarded | go_step | go_upon | go_back | dsimp only)
   go_ret
   exact ⟨rfl, hB⟩
end Go.Proofs.Ytfohggiehbplkaa
