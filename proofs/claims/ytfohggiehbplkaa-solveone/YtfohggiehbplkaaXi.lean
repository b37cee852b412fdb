/-
  What each function of package poly answers, and what the reference of its chapter answers: one contract a function, for every float: the answer stands in the relation of its formula to what was given; of the memory that was there nothing has turned.
-/
import Derived.Test.YtfohggiehbplkaaVec
import Derived.Test.YtfohggiehbplkaaXh
import Derived.Below
import Derived.OwnWalk
import Derived.Laws.AppendOwn
import Derived.Lib.SliceRun
import Derived.Laws.MakeOwn
import Derived.WalkKit
import Derived.WalkLawsBesides
import Derived.WalkSpells
import Derived.ProofKit
import Derived.OpenShut
import Derived.Deep.RegionHeld3
namespace Go.Proofs.Ytfohggiehbplkaa
open Go.ChangeShapes Go.WideShapes Go.ChangeAt Go.RowKit
set_option linter.unusedVariables false
set_option linter.unusedSimpArgs false


theorem rg_isF {p X : Nat} (h : isF p X) : isF (rgK .f64 p) (bitsK (rgK .f64 X)) := by
 refine ⟨rg_ok p, ?_⟩
 cases hn : nanK .f64 p
 ·rw [← h.2, bits_num hn]
 ·have e : X = 9221120237041090560 := by rw [← h.2, bits_nan hn]
  have h1 : nanK .f64 (rgK .f64 p) = true := by
   rw [nanK_eq] at hn ⊢
   rw [show rgK .f64 (rgK .f64 p) = rgK .f64 p by rw [rg64, rg64]; omega]
   exact hn
  rw [bits_nan h1, e]
  decide +kernel
/-- what a row is off -/
def offF (R : RD) (a b : SD) : Nat := bif (!ltK .f64 0 (wtF R a b)) || ((ltK .f64 (lkF R a b) 0 && leK .f64 R.r11 R.r9) || (ltK .f64 0 (lkF R a b) && leK .f64 R.r10 R.r11)) then 0 else bitsK (rgK .f64 (lkF R a b))
set_option maxRecDepth 100000 in
set_option maxHeartbeats 4000000 in
theorem off_w (R : RD) (rv : Value) (sb so sn sc_ : Nat) (S : Nat → SD) (w : World) (hv : rv.oneCell' = true) (oR : rok R) (hsc : sn ≤ sc_) (hsm : sc_ ≤ maxLen) (hs : Sts w sb so sn S) (os : ∀ i, i < sn → sok (S i)) (hA0 : 0 ≤ R.ra) (hA1 : R.ra < sn) (hB0 : 0 ≤ R.rb) (hB1 : R.rb < sn) (hal : alB R (S R.ra.toNat) (S R.rb.toNat) = true) : Calls Try.prog 79 #[.agg #[rv, .slice (some ⟨sb, so, none⟩) sn sc_], .agg #[.int .i64 R.ra, .int .i64 R.rb, .float .f64 R.r2, .float .f64 R.r3, .float .f64 R.r4, .float .f64 R.r5, .float .f64 R.r6, .float .f64 R.r7, .float .f64 R.r8, .float .f64 R.r9, .float .f64 R.r10, .float .f64 R.r11, .int .i64 R.ro, .float .f64 R.r13]] w fun e w' => ∃ r, isF r (offF R (S R.ra.toNat) (S R.rb.toNat)) ∧ e = .returned (.float .f64 r) ∧ Bel w w' := by
 unfold maxLen at hsm
 have c1 := cmp_gt .f64
 have c2 := cmp_lt .f64
 have c3 := cmp_le .f64
 have c4 := cmp_ge .f64
 have c5 := cmp_eq .f64
 have c6 := cmp_le2 .f64
 have c7 := cmp_ge2 .f64
 have q2 := run_sub Try.prog
 have hAn : R.ra.toNat < sn := by omega
 have hBn : R.rb.toNat < sn := by omega
 have oA := os _ hAn
 have oB := os _ hBn
 have o8 := oR.2.2.2.2.2.2.1
 have B0 : Bel w ((w.alloc (.cells #[rv, .slice (some ⟨sb, so, none⟩) sn sc_] 116)).alloc (.cells #[.int .i64 R.ra, .int .i64 R.rb, .float .f64 R.r2, .float .f64 R.r3, .float .f64 R.r4, .float .f64 R.r5, .float .f64 R.r6, .float .f64 R.r7, .float .f64 R.r8, .float .f64 R.r9, .float .f64 R.r10, .float .f64 R.r11, .int .i64 R.ro, .float .f64 R.r13] 43)) := bl_alloc (bl_alloc (bl_refl w) _ _) _ _
 have hT0 : ((w.alloc (.cells #[rv, .slice (some ⟨sb, so, none⟩) sn sc_] 116)).alloc (.cells #[.int .i64 R.ra, .int .i64 R.rb, .float .f64 R.r2, .float .f64 R.r3, .float .f64 R.r4, .float .f64 R.r5, .float .f64 R.r6, .float .f64 R.r7, .float .f64 R.r8, .float .f64 R.r9, .float .f64 R.r10, .float .f64 R.r11, .int .i64 R.ro, .float .f64 R.r13] 43)).rangeAt (w.heap.size) 0 [rv, .slice (some ⟨sb, so, none⟩) sn sc_] := World.rangeAt_alloc (rng_new w [rv, .slice (some ⟨sb, so, none⟩) sn sc_] 116) _
 have hT1 : ((w.alloc (.cells #[rv, .slice (some ⟨sb, so, none⟩) sn sc_] 116)).alloc (.cells #[.int .i64 R.ra, .int .i64 R.rb, .float .f64 R.r2, .float .f64 R.r3, .float .f64 R.r4, .float .f64 R.r5, .float .f64 R.r6, .float .f64 R.r7, .float .f64 R.r8, .float .f64 R.r9, .float .f64 R.r10, .float .f64 R.r11, .int .i64 R.ro, .float .f64 R.r13] 43)).rangeAt (w.heap.size + 1) 0 [.int .i64 R.ra, .int .i64 R.rb, .float .f64 R.r2, .float .f64 R.r3, .float .f64 R.r4, .float .f64 R.r5, .float .f64 R.r6, .float .f64 R.r7, .float .f64 R.r8, .float .f64 R.r9, .float .f64 R.r10, .float .f64 R.r11, .int .i64 R.ro, .float .f64 R.r13] := by have h := rng_new (w.alloc (.cells #[rv, .slice (some ⟨sb, so, none⟩) sn sc_] 116)) [.int .i64 R.ra, .int .i64 R.rb, .float .f64 R.r2, .float .f64 R.r3, .float .f64 R.r4, .float .f64 R.r5, .float .f64 R.r6, .float .f64 R.r7, .float .f64 R.r8, .float .f64 R.r9, .float .f64 R.r10, .float .f64 R.r11, .int .i64 R.ro, .float .f64 R.r13] 43; rwa [World.size_alloc] at h
 have k0 : ((w.alloc (.cells #[rv, .slice (some ⟨sb, so, none⟩) sn sc_] 116)).alloc (.cells #[.int .i64 R.ra, .int .i64 R.rb, .float .f64 R.r2, .float .f64 R.r3, .float .f64 R.r4, .float .f64 R.r5, .float .f64 R.r6, .float .f64 R.r7, .float .f64 R.r8, .float .f64 R.r9, .float .f64 R.r10, .float .f64 R.r11, .int .i64 R.ro, .float .f64 R.r13] 43)).cell? ⟨w.heap.size, 1, none⟩ = some (.slice (some ⟨sb, so, none⟩) sn sc_) := hT0 1 _ rfl
 have k1 : ((w.alloc (.cells #[rv, .slice (some ⟨sb, so, none⟩) sn sc_] 116)).alloc (.cells #[.int .i64 R.ra, .int .i64 R.rb, .float .f64 R.r2, .float .f64 R.r3, .float .f64 R.r4, .float .f64 R.r5, .float .f64 R.r6, .float .f64 R.r7, .float .f64 R.r8, .float .f64 R.r9, .float .f64 R.r10, .float .f64 R.r11, .int .i64 R.ro, .float .f64 R.r13] 43)).cell? ⟨w.heap.size + 1, 0, none⟩ = some (.int .i64 R.ra) := hT1 0 _ rfl
 have k2 : ((w.alloc (.cells #[rv, .slice (some ⟨sb, so, none⟩) sn sc_] 116)).alloc (.cells #[.int .i64 R.ra, .int .i64 R.rb, .float .f64 R.r2, .float .f64 R.r3, .float .f64 R.r4, .float .f64 R.r5, .float .f64 R.r6, .float .f64 R.r7, .float .f64 R.r8, .float .f64 R.r9, .float .f64 R.r10, .float .f64 R.r11, .int .i64 R.ro, .float .f64 R.r13] 43)).cell? ⟨w.heap.size + 1, 1, none⟩ = some (.int .i64 R.rb) := hT1 1 _ rfl
 have hsA := (hs.bel B0) _ hAn
 have hsB := (hs.bel B0) _ hBn
 have kA0 : ((w.alloc (.cells #[rv, .slice (some ⟨sb, so, none⟩) sn sc_] 116)).alloc (.cells #[.int .i64 R.ra, .int .i64 R.rb, .float .f64 R.r2, .float .f64 R.r3, .float .f64 R.r4, .float .f64 R.r5, .float .f64 R.r6, .float .f64 R.r7, .float .f64 R.r8, .float .f64 R.r9, .float .f64 R.r10, .float .f64 R.r11, .int .i64 R.ro, .float .f64 R.r13] 43)).cell? ⟨sb, so + R.ra.toNat * 5, none⟩ = some (.float .f64 (S R.ra.toNat).sm) := hsA 0 _ rfl
 have kB0 : ((w.alloc (.cells #[rv, .slice (some ⟨sb, so, none⟩) sn sc_] 116)).alloc (.cells #[.int .i64 R.ra, .int .i64 R.rb, .float .f64 R.r2, .float .f64 R.r3, .float .f64 R.r4, .float .f64 R.r5, .float .f64 R.r6, .float .f64 R.r7, .float .f64 R.r8, .float .f64 R.r9, .float .f64 R.r10, .float .f64 R.r11, .int .i64 R.ro, .float .f64 R.r13] 43)).cell? ⟨sb, so + R.rb.toNat * 5, none⟩ = some (.float .f64 (S R.rb.toNat).sm) := hsB 0 _ rfl
 have kA1 : ((w.alloc (.cells #[rv, .slice (some ⟨sb, so, none⟩) sn sc_] 116)).alloc (.cells #[.int .i64 R.ra, .int .i64 R.rb, .float .f64 R.r2, .float .f64 R.r3, .float .f64 R.r4, .float .f64 R.r5, .float .f64 R.r6, .float .f64 R.r7, .float .f64 R.r8, .float .f64 R.r9, .float .f64 R.r10, .float .f64 R.r11, .int .i64 R.ro, .float .f64 R.r13] 43)).cell? ⟨sb, so + R.ra.toNat * 5 + 1, none⟩ = some (.float .f64 (S R.ra.toNat).si) := hsA 1 _ rfl
 have kB1 : ((w.alloc (.cells #[rv, .slice (some ⟨sb, so, none⟩) sn sc_] 116)).alloc (.cells #[.int .i64 R.ra, .int .i64 R.rb, .float .f64 R.r2, .float .f64 R.r3, .float .f64 R.r4, .float .f64 R.r5, .float .f64 R.r6, .float .f64 R.r7, .float .f64 R.r8, .float .f64 R.r9, .float .f64 R.r10, .float .f64 R.r11, .int .i64 R.ro, .float .f64 R.r13] 43)).cell? ⟨sb, so + R.rb.toNat * 5 + 1, none⟩ = some (.float .f64 (S R.rb.toNat).si) := hsB 1 _ rfl
 have kA2 : ((w.alloc (.cells #[rv, .slice (some ⟨sb, so, none⟩) sn sc_] 116)).alloc (.cells #[.int .i64 R.ra, .int .i64 R.rb, .float .f64 R.r2, .float .f64 R.r3, .float .f64 R.r4, .float .f64 R.r5, .float .f64 R.r6, .float .f64 R.r7, .float .f64 R.r8, .float .f64 R.r9, .float .f64 R.r10, .float .f64 R.r11, .int .i64 R.ro, .float .f64 R.r13] 43)).cell? ⟨sb, so + R.ra.toNat * 5 + 2, none⟩ = some (.float .f64 (S R.ra.toNat).sx) := hsA 2 _ rfl
 have kB2 : ((w.alloc (.cells #[rv, .slice (some ⟨sb, so, none⟩) sn sc_] 116)).alloc (.cells #[.int .i64 R.ra, .int .i64 R.rb, .float .f64 R.r2, .float .f64 R.r3, .float .f64 R.r4, .float .f64 R.r5, .float .f64 R.r6, .float .f64 R.r7, .float .f64 R.r8, .float .f64 R.r9, .float .f64 R.r10, .float .f64 R.r11, .int .i64 R.ro, .float .f64 R.r13] 43)).cell? ⟨sb, so + R.rb.toNat * 5 + 2, none⟩ = some (.float .f64 (S R.rb.toNat).sx) := hsB 2 _ rfl
 have kA3 : ((w.alloc (.cells #[rv, .slice (some ⟨sb, so, none⟩) sn sc_] 116)).alloc (.cells #[.int .i64 R.ra, .int .i64 R.rb, .float .f64 R.r2, .float .f64 R.r3, .float .f64 R.r4, .float .f64 R.r5, .float .f64 R.r6, .float .f64 R.r7, .float .f64 R.r8, .float .f64 R.r9, .float .f64 R.r10, .float .f64 R.r11, .int .i64 R.ro, .float .f64 R.r13] 43)).cell? ⟨sb, so + R.ra.toNat * 5 + 3, none⟩ = some (.float .f64 (S R.ra.toNat).sy) := hsA 3 _ rfl
 have kB3 : ((w.alloc (.cells #[rv, .slice (some ⟨sb, so, none⟩) sn sc_] 116)).alloc (.cells #[.int .i64 R.ra, .int .i64 R.rb, .float .f64 R.r2, .float .f64 R.r3, .float .f64 R.r4, .float .f64 R.r5, .float .f64 R.r6, .float .f64 R.r7, .float .f64 R.r8, .float .f64 R.r9, .float .f64 R.r10, .float .f64 R.r11, .int .i64 R.ro, .float .f64 R.r13] 43)).cell? ⟨sb, so + R.rb.toNat * 5 + 3, none⟩ = some (.float .f64 (S R.rb.toNat).sy) := hsB 3 _ rfl
 have kA4 : ((w.alloc (.cells #[rv, .slice (some ⟨sb, so, none⟩) sn sc_] 116)).alloc (.cells #[.int .i64 R.ra, .int .i64 R.rb, .float .f64 R.r2, .float .f64 R.r3, .float .f64 R.r4, .float .f64 R.r5, .float .f64 R.r6, .float .f64 R.r7, .float .f64 R.r8, .float .f64 R.r9, .float .f64 R.r10, .float .f64 R.r11, .int .i64 R.ro, .float .f64 R.r13] 43)).cell? ⟨sb, so + R.ra.toNat * 5 + 4, none⟩ = some (.float .f64 (S R.ra.toNat).ss) := hsA 4 _ rfl
 have kB4 : ((w.alloc (.cells #[rv, .slice (some ⟨sb, so, none⟩) sn sc_] 116)).alloc (.cells #[.int .i64 R.ra, .int .i64 R.rb, .float .f64 R.r2, .float .f64 R.r3, .float .f64 R.r4, .float .f64 R.r5, .float .f64 R.r6, .float .f64 R.r7, .float .f64 R.r8, .float .f64 R.r9, .float .f64 R.r10, .float .f64 R.r11, .int .i64 R.ro, .float .f64 R.r13] 43)).cell? ⟨sb, so + R.rb.toNat * 5 + 4, none⟩ = some (.float .f64 (S R.rb.toNat).ss) := hsB 4 _ rfl
 go_enter Try.func79, Try.ntmps79
 go_wp2
 refine wp_region_new 16 rfl (fun i v => match i with | 0 => v = .pointer (some ⟨w.heap.size, 1, none⟩) | 1 => v = .slice (some ⟨sb, so, none⟩) sn sc_ | 2 => v = .pointer (some ⟨w.heap.size + 1, 0, none⟩) | 3 => v = .int .i64 R.ra | 4 => v = .pointer (some ⟨sb, so + R.ra.toNat * 5, none⟩) | 5 => v = .agg #[.float .f64 (S R.ra.toNat).sm, .float .f64 (S R.ra.toNat).si, .float .f64 (S R.ra.toNat).sx, .float .f64 (S R.ra.toNat).sy, .float .f64 (S R.ra.toNat).ss] | 6 => v = .pointer (some ⟨w.heap.size, 1, none⟩) | 7 => v = .slice (some ⟨sb, so, none⟩) sn sc_ | 8 => v = .pointer (some ⟨w.heap.size + 1, 1, none⟩) | 9 => v = .int .i64 R.rb | 10 => v = .pointer (some ⟨sb, so + R.rb.toNat * 5, none⟩) | 11 => v = .agg #[.float .f64 (S R.rb.toNat).sm, .float .f64 (S R.rb.toNat).si, .float .f64 (S R.rb.toNat).sx, .float .f64 (S R.rb.toNat).sy, .float .f64 (S R.rb.toNat).ss] | _ => False) [(12, #[.float .f64 0, .float .f64 0, .float .f64 0, .float .f64 0, .float .f64 0], 45), (13, #[.float .f64 0, .float .f64 0, .float .f64 0, .float .f64 0, .float .f64 0], 45)] [(14, 12, 5), (15, 13, 11)] ?A_wn (by kernel_rfl) (by kernel_rfl) ?hA_wn ?ha_wn ?hst_wn ?hq_wn ?ht_wn
 case hA_wn =>
  intro s
  simp only [putL, dstO, Act.put, List.getElem?_toArray, List.getElem?_cons_zero, List.getElem?_cons_succ, Option.bind_some, List.setIfInBounds_toArray, List.set_cons_zero, List.set_cons_succ, if_true]
  all_goals exact rfl
 case ha_wn =>
  intro i o c ty hi ho hal B W K hK
  rcases (show i = 0 ∨ i = 1 ∨ i = 2 ∨ i = 3 ∨ i = 4 ∨ i = 5 ∨ i = 6 ∨ i = 7 ∨ i = 8 ∨ i = 9 ∨ i = 10 ∨ i = 11 ∨ i = 12 ∨ i = 13 ∨ i = 14 ∨ i = 15 by omega) with rfl | rfl | rfl | rfl | rfl | rfl | rfl | rfl | rfl | rfl | rfl | rfl | rfl | rfl | rfl | rfl
  ·cases (show none = some (c, ty) from hal)
  ·cases (show none = some (c, ty) from hal)
  ·cases (show none = some (c, ty) from hal)
  ·cases (show none = some (c, ty) from hal)
  ·cases (show none = some (c, ty) from hal)
  ·cases (show none = some (c, ty) from hal)
  ·cases (show none = some (c, ty) from hal)
  ·cases (show none = some (c, ty) from hal)
  ·cases (show none = some (c, ty) from hal)
  ·cases (show none = some (c, ty) from hal)
  ·cases (show none = some (c, ty) from hal)
  ·cases (show none = some (c, ty) from hal)
  ·cases ho; cases (show some (#[.float .f64 0, .float .f64 0, .float .f64 0, .float .f64 0, .float .f64 0], 45) = some (c, ty) from hal); go_simp; exact hK.out
  ·cases ho; cases (show some (#[.float .f64 0, .float .f64 0, .float .f64 0, .float .f64 0, .float .f64 0], 45) = some (c, ty) from hal); go_simp; exact hK.out
  ·cases (show none = some (c, ty) from hal)
  ·cases (show none = some (c, ty) from hal)
 case hst_wn =>
  intro t o a d c ty hlt ho hts hal s hs W b eb hc hf K hK
  rcases (show t = 0 ∨ t = 1 ∨ t = 2 ∨ t = 3 ∨ t = 4 ∨ t = 5 ∨ t = 6 ∨ t = 7 ∨ t = 8 ∨ t = 9 ∨ t = 10 ∨ t = 11 ∨ t = 12 ∨ t = 13 ∨ t = 14 ∨ t = 15 by omega) with rfl | rfl | rfl | rfl | rfl | rfl | rfl | rfl | rfl | rfl | rfl | rfl | rfl | rfl | rfl | rfl
  ·cases (show none = some (a, d) from hts)
  ·cases (show none = some (a, d) from hts)
  ·cases (show none = some (a, d) from hts)
  ·cases (show none = some (a, d) from hts)
  ·cases (show none = some (a, d) from hts)
  ·cases (show none = some (a, d) from hts)
  ·cases (show none = some (a, d) from hts)
  ·cases (show none = some (a, d) from hts)
  ·cases (show none = some (a, d) from hts)
  ·cases (show none = some (a, d) from hts)
  ·cases (show none = some (a, d) from hts)
  ·cases (show none = some (a, d) from hts)
  ·cases (show none = some (a, d) from hts)
  ·cases (show none = some (a, d) from hts)
  ·cases ho; cases (show some (12, 5) = some (a, d) from hts); cases (show some (#[.float .f64 0, .float .f64 0, .float .f64 0, .float .f64 0, .float .f64 0], 45) = some (c, ty) from hal)
   have e5 : s 5 = _ := hs 5 (by decide) rfl rfl (by kernel_rfl)
   obtain ⟨u0, hu0⟩ := Option.isSome_iff_exists.1 (hc 0 (by decide))
   obtain ⟨u1, hu1⟩ := Option.isSome_iff_exists.1 (hc 1 (by decide))
   obtain ⟨u2, hu2⟩ := Option.isSome_iff_exists.1 (hc 2 (by decide))
   obtain ⟨u3, hu3⟩ := Option.isSome_iff_exists.1 (hc 3 (by decide))
   obtain ⟨u4, hu4⟩ := Option.isSome_iff_exists.1 (hc 4 (by decide))
   simp only [eb, e5] at hK ⊢
   clear hs
   go_simp
   exact hK.out
  ·cases ho; cases (show some (13, 11) = some (a, d) from hts); cases (show some (#[.float .f64 0, .float .f64 0, .float .f64 0, .float .f64 0, .float .f64 0], 45) = some (c, ty) from hal)
   have e11 : s 11 = _ := hs 11 (by decide) rfl rfl (by kernel_rfl)
   obtain ⟨u0, hu0⟩ := Option.isSome_iff_exists.1 (hc 0 (by decide))
   obtain ⟨u1, hu1⟩ := Option.isSome_iff_exists.1 (hc 1 (by decide))
   obtain ⟨u2, hu2⟩ := Option.isSome_iff_exists.1 (hc 2 (by decide))
   obtain ⟨u3, hu3⟩ := Option.isSome_iff_exists.1 (hc 3 (by decide))
   obtain ⟨u4, hu4⟩ := Option.isSome_iff_exists.1 (hc 4 (by decide))
   simp only [eb, e11] at hK ⊢
   clear hs
   go_simp
   exact hK.out
 case hq_wn =>
  intro i o hi hal hts ho s hs W hb K hK
  have u0 := keep hb k0; have u1 := keep hb k1; have u2 := keep hb k2; have uA0 := keep hb kA0; have uA1 := keep hb kA1; have uA2 := keep hb kA2; have uA3 := keep hb kA3; have uA4 := keep hb kA4; have uB0 := keep hb kB0; have uB1 := keep hb kB1; have uB2 := keep hb kB2; have uB3 := keep hb kB3; have uB4 := keep hb kB4
  rcases (show i = 0 ∨ i = 1 ∨ i = 2 ∨ i = 3 ∨ i = 4 ∨ i = 5 ∨ i = 6 ∨ i = 7 ∨ i = 8 ∨ i = 9 ∨ i = 10 ∨ i = 11 ∨ i = 12 ∨ i = 13 ∨ i = 14 ∨ i = 15 by omega) with rfl | rfl | rfl | rfl | rfl | rfl | rfl | rfl | rfl | rfl | rfl | rfl | rfl | rfl | rfl | rfl
  rotate_left 1
  cases ho
  have e0 : s 0 = _ := hs 0 (by decide) rfl rfl (by kernel_rfl)
  simp only [e0] at hK ⊢
  rotate_left 2
  cases ho
  have e2 : s 2 = _ := hs 2 (by decide) rfl rfl (by kernel_rfl)
  simp only [e2] at hK ⊢
  rotate_left 1
  cases ho
  have e1 : s 1 = _ := hs 1 (by decide) rfl rfl (by kernel_rfl)
  have e3 : s 3 = _ := hs 3 (by decide) rfl rfl (by kernel_rfl)
  simp only [e1, e3] at hK ⊢
  rotate_left 1
  cases ho
  have e4 : s 4 = _ := hs 4 (by decide) rfl rfl (by kernel_rfl)
  simp only [e4] at hK ⊢
  rotate_left 2
  cases ho
  have e6 : s 6 = _ := hs 6 (by decide) rfl rfl (by kernel_rfl)
  simp only [e6] at hK ⊢
  rotate_left 2
  cases ho
  have e8 : s 8 = _ := hs 8 (by decide) rfl rfl (by kernel_rfl)
  simp only [e8] at hK ⊢
  rotate_left 1
  cases ho
  have e7 : s 7 = _ := hs 7 (by decide) rfl rfl (by kernel_rfl)
  have e9 : s 9 = _ := hs 9 (by decide) rfl rfl (by kernel_rfl)
  simp only [e7, e9] at hK ⊢
  rotate_left 1
  cases ho
  have e10 : s 10 = _ := hs 10 (by decide) rfl rfl (by kernel_rfl)
  simp only [e10] at hK ⊢
  rotate_left 1
  ·cases (show some _ = none from hal)
  ·cases (show some _ = none from hal)
  ·cases (show some _ = none from hts)
  ·cases (show some _ = none from hts)
  all_goals
   try cases ho
   simp only [Act.put, List.setIfInBounds_toArray, List.set_cons_zero, List.set_cons_succ] at hK
   clear hs hal hts
   go_simp
   all_goals first | exact hK.out _ _ rfl (bl_refl _) | exact hK.out _ _ rfl (by assumption) | exact hK.out _ _ (by assumption) (by assumption)
 case ht_wn =>
  intro s hs W hb hJ
  have e0 : s 0 = _ := hs 0 (by decide) rfl rfl
  have e1 : s 1 = _ := hs 1 (by decide) rfl rfl
  have e2 : s 2 = _ := hs 2 (by decide) rfl rfl
  have e3 : s 3 = _ := hs 3 (by decide) rfl rfl
  have e4 : s 4 = _ := hs 4 (by decide) rfl rfl
  have e5 : s 5 = _ := hs 5 (by decide) rfl rfl
  have e6 : s 6 = _ := hs 6 (by decide) rfl rfl
  have e7 : s 7 = _ := hs 7 (by decide) rfl rfl
  have e8 : s 8 = _ := hs 8 (by decide) rfl rfl
  have e9 : s 9 = _ := hs 9 (by decide) rfl rfl
  have e10 : s 10 = _ := hs 10 (by decide) rfl rfl
  have e11 : s 11 = _ := hs 11 (by decide) rfl rfl
  obtain ⟨p12, e12, n12, l12, cl12⟩ := hJ.1 12 _ _ (by decide) rfl rfl
  have k_p12_0 : W.cell? ⟨p12, 0, none⟩ = some (cellAt (s 5) 0) := cl12 0 (by decide)
  have k_p12_1 : W.cell? ⟨p12, 1, none⟩ = some (cellAt (s 5) 1) := cl12 1 (by decide)
  have k_p12_2 : W.cell? ⟨p12, 2, none⟩ = some (cellAt (s 5) 2) := cl12 2 (by decide)
  have k_p12_3 : W.cell? ⟨p12, 3, none⟩ = some (cellAt (s 5) 3) := cl12 3 (by decide)
  have k_p12_4 : W.cell? ⟨p12, 4, none⟩ = some (cellAt (s 5) 4) := cl12 4 (by decide)
  rw [e5] at k_p12_0 k_p12_1 k_p12_2 k_p12_3 k_p12_4
  simp only [cellAt] at k_p12_0 k_p12_1 k_p12_2 k_p12_3 k_p12_4
  obtain ⟨p13, e13, n13, l13, cl13⟩ := hJ.1 13 _ _ (by decide) rfl rfl
  have k_p13_0 : W.cell? ⟨p13, 0, none⟩ = some (cellAt (s 11) 0) := cl13 0 (by decide)
  have k_p13_1 : W.cell? ⟨p13, 1, none⟩ = some (cellAt (s 11) 1) := cl13 1 (by decide)
  have k_p13_2 : W.cell? ⟨p13, 2, none⟩ = some (cellAt (s 11) 2) := cl13 2 (by decide)
  have k_p13_3 : W.cell? ⟨p13, 3, none⟩ = some (cellAt (s 11) 3) := cl13 3 (by decide)
  have k_p13_4 : W.cell? ⟨p13, 4, none⟩ = some (cellAt (s 11) 4) := cl13 4 (by decide)
  rw [e11] at k_p13_0 k_p13_1 k_p13_2 k_p13_3 k_p13_4
  simp only [cellAt] at k_p13_0 k_p13_1 k_p13_2 k_p13_3 k_p13_4
  have ne1213 : p12 ≠ p13 := fun h => hJ.2 12 13 (by decide) (by decide) (by decide) rfl rfl rfl rfl (by rw [e12, e13, h])
  simp only [e0, e1, e2, e3, e4, e5, e6, e7, e8, e9, e10, e11, e12, e13]
  clear hs hJ e0 e1 e2 e3 e4 e5 e6 e7 e8 e9 e10 e11 e12 e13 cl12 cl13
  have hP : W.rangeAt p12 0 [.float .f64 (S R.ra.toNat).sm, .float .f64 (S R.ra.toNat).si, .float .f64 (S R.ra.toNat).sx, .float .f64 (S R.ra.toNat).sy, .float .f64 (S R.ra.toNat).ss] := fun j v hj => by
   rw [Nat.zero_add]
   rcases (show j = 0 ∨ j = 1 ∨ j = 2 ∨ j = 3 ∨ j = 4 from by have := (List.getElem?_eq_some_iff.1 hj).1; simp at this; omega) with rfl | rfl | rfl | rfl | rfl <;> (cases hj; assumption)
  have hQ : W.rangeAt p13 0 [.float .f64 (S R.rb.toNat).sm, .float .f64 (S R.rb.toNat).si, .float .f64 (S R.rb.toNat).sx, .float .f64 (S R.rb.toNat).sy, .float .f64 (S R.rb.toNat).ss] := fun j v hj => by
   rw [Nat.zero_add]
   rcases (show j = 0 ∨ j = 1 ∨ j = 2 ∨ j = 3 ∨ j = 4 from by have := (List.getElem?_eq_some_iff.1 hj).1; simp at this; omega) with rfl | rfl | rfl | rfl | rfl <;> (cases hj; assumption)
  have hR := rng_bel hT1 hb
  have BB := bl_trans B0 hb
  clear k_p12_0 k_p12_1 k_p12_2 k_p12_3 k_p12_4 k_p13_0 k_p13_1 k_p13_2 k_p13_3 k_p13_4
  repeat (first | (with_reducible show Oper.wp _ _ _ _ _ _; refine wp_load_mid (P := Try.prog) 43 _ rfl (w.heap.size + 1) 0 rfl [.int .i64 R.ra, .int .i64 R.rb, .float .f64 R.r2, .float .f64 R.r3, .float .f64 R.r4, .float .f64 R.r5, .float .f64 R.r6, .float .f64 R.r7, .float .f64 R.r8, .float .f64 R.r9, .float .f64 R.r10, .float .f64 R.r11, .int .i64 R.ro, .float .f64 R.r13] _ (by with_reducible assumption) Try.underlying43 rfl (by kernel_rfl) ?_; simp only [go_sem]) | (with_reducible show Oper.wp _ _ _ _ _ _; refine wp_load_mid (P := Try.prog) 45 _ rfl (p12) 0 rfl [.float .f64 (S R.ra.toNat).sm, .float .f64 (S R.ra.toNat).si, .float .f64 (S R.ra.toNat).sx, .float .f64 (S R.ra.toNat).sy, .float .f64 (S R.ra.toNat).ss] _ (by with_reducible assumption) Try.underlying45 rfl (by kernel_rfl) ?_; simp only [go_sem]) | (with_reducible show Oper.wp _ _ _ _ _ _; refine wp_load_mid (P := Try.prog) 45 _ rfl (p13) 0 rfl [.float .f64 (S R.rb.toNat).sm, .float .f64 (S R.rb.toNat).si, .float .f64 (S R.rb.toNat).sx, .float .f64 (S R.rb.toNat).sy, .float .f64 (S R.rb.toNat).ss] _ (by with_reducible assumption) Try.underlying45 rfl (by kernel_rfl) ?_; simp only [go_sem]) | (go_at_call 17; (with_reducible refine (wgt_ok R (S R.ra.toNat) (S R.rb.toNat) _ oR oA oB hal).mono ?_); rintro e w1 ⟨wt, hwt, rfl, hb1⟩; replace hR := rng_bel hR hb1; replace hP := rng_bel hP hb1; replace hQ := rng_bel hQ hb1; replace BB := bl_trans BB hb1) | (go_at_call 20; (with_reducible refine (spd_ok R (S R.ra.toNat) (S R.rb.toNat) _ oR oA oB hal).mono ?_); rintro e w2 ⟨sp, hsp, rfl, hb2⟩; replace hR := rng_bel hR hb2; replace hP := rng_bel hP hb2; replace hQ := rng_bel hQ hb2; replace BB := bl_trans BB hb2; (have hlk : ∀ W, isF (fv .sub .f64 R.r8 sp W) (lkF R (S R.ra.toNat) (S R.rb.toNat)) := fun W => o_is W (isF_r o8) hsp); have k8 : w2.cell? ⟨w.heap.size + 1, 8, none⟩ = some (.float .f64 R.r8) := hR 8 _ rfl; generalize hw9 : w2.drewN (fd .sub .f64 R.r8 sp) = w9; have BB9 : Bel w w9 := hw9 ▸ bl_drewN BB _; have hb9 : Bel w2 w9 := hw9 ▸ bl_drewN (bl_refl _) _; replace hR := rng_bel hR hb9; obtain ⟨p, ep⟩ : ∃ p, fv .sub .f64 R.r8 sp w2 = p := ⟨_, rfl⟩; have hp := hlk w2; rw [ep] at hp; (have j9 : w9.cell? ⟨w.heap.size + 1, 9, none⟩ = some (.float .f64 R.r9) := hR 9 _ rfl); (have j10 : w9.cell? ⟨w.heap.size + 1, 10, none⟩ = some (.float .f64 R.r10) := hR 10 _ rfl); (have j11 : w9.cell? ⟨w.heap.size + 1, 11, none⟩ = some (.float .f64 R.r11) := hR 11 _ rfl); (have E : offF R (S R.ra.toNat) (S R.rb.toNat) = bif (!ltK .f64 0 wt) || ((ltK .f64 p 0 && leK .f64 R.r11 R.r9) || (ltK .f64 0 p && leK .f64 R.r10 R.r11)) then 0 else bitsK (rgK .f64 (lkF R (S R.ra.toNat) (S R.rb.toNat))) := by unfold offF; rw [lt0_is hwt, lt_is hp isF_zero, lt0_is hp]); clear hlk hsp hwt; (rcases (show (ltK .f64 0 wt = false) ∨ (ltK .f64 0 wt = true ∧ ltK .f64 p 0 = true ∧ leK .f64 R.r11 R.r9 = true) ∨ (ltK .f64 0 wt = true ∧ ltK .f64 p 0 = true ∧ leK .f64 R.r11 R.r9 = false ∧ ltK .f64 0 p = false) ∨ (ltK .f64 0 wt = true ∧ ltK .f64 p 0 = true ∧ leK .f64 R.r11 R.r9 = false ∧ ltK .f64 0 p = true ∧ leK .f64 R.r10 R.r11 = true) ∨ (ltK .f64 0 wt = true ∧ ltK .f64 p 0 = true ∧ leK .f64 R.r11 R.r9 = false ∧ ltK .f64 0 p = true ∧ leK .f64 R.r10 R.r11 = false) ∨ (ltK .f64 0 wt = true ∧ ltK .f64 p 0 = false ∧ ltK .f64 0 p = false) ∨ (ltK .f64 0 wt = true ∧ ltK .f64 p 0 = false ∧ ltK .f64 0 p = true ∧ leK .f64 R.r10 R.r11 = true) ∨ (ltK .f64 0 wt = true ∧ ltK .f64 p 0 = false ∧ ltK .f64 0 p = true ∧ leK .f64 R.r10 R.r11 = false) by cases ltK .f64 0 wt <;> cases ltK .f64 p 0 <;> cases leK .f64 R.r11 R.r9 <;> cases ltK .f64 0 p <;> cases leK .f64 R.r10 R.r11 <;> simp) with g1 | ⟨g1, g2, g3⟩ | ⟨g1, g2, g3, g4⟩ | ⟨g1, g2, g3, g4, g5⟩ | ⟨g1, g2, g3, g4, g5⟩ | ⟨g1, g2, g4⟩ | ⟨g1, g2, g4, g5⟩ | ⟨g1, g2, g4, g5⟩)) | go_values | go_skip | go_guarded | go_step | go_upon | go_back | dsimp only)
  all_goals
   repeat (first | (go_at_call 22; refine (abs_any p _ hp.1).mono ?_; rintro e w8 ⟨rfl, hw8⟩; rw [hw8]) | go_values | go_skip | go_guarded | go_step | go_upon | go_back | dsimp only)
   go_ret
   first
    | exact ⟨0, by rw [E]; simp only [*, Bool.not_true, Bool.not_false, Bool.true_or, Bool.or_true, Bool.and_true, Bool.true_and, Bool.and_false, Bool.false_and, Bool.or_false, Bool.false_or, cond_true, cond_false]; exact isF_zero, rfl, BB9⟩
    | exact ⟨_, by rw [E]; simp only [*, Bool.not_true, Bool.not_false, Bool.true_or, Bool.or_true, Bool.and_true, Bool.true_and, Bool.and_false, Bool.false_and, Bool.or_false, Bool.false_or, cond_true, cond_false]; exact rg_isF hp, rfl, BB9⟩

end Go.Proofs.Ytfohggiehbplkaa
