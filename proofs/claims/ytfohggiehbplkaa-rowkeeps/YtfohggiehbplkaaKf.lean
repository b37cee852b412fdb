/-
  What each function of package poly answers, and what the reference of its chapter answers: one contract a function, for every float: the answer stands in the relation of its formula to what was given; of the memory that was there nothing has turned.
-/
import Derived.Test.YtfohggiehbplkaaVec
import Derived.Test.YtfohggiehbplkaaKe
import Derived.Below
import Derived.WalkKit
import Derived.WalkLawsBesides
import Derived.WalkSpells
import Derived.ProofKit
import Derived.OpenShut
import Derived.Deep.RegionHeld3
namespace Go.Proofs.Ytfohggiehbplkaa
open Go.ChangeShapes Go.WideShapes Go.ChangeAt Go.RowKit
set_option linter.unusedVariables false
set_option linter.unusedSimpArgs false


theorem put28 (b : Nat) (c0 c1 c2 c3 c4 c5 c6 c7 c8 c9 c10 c11 c12 c13 c14 c15 c16 c17 c18 c19 c20 c21 c22 c23 c24 c25 c26 c27 : Value) (W : World) : putN b 28 (.agg #[c0, c1, c2, c3, c4, c5, c6, c7, c8, c9, c10, c11, c12, c13, c14, c15, c16, c17, c18, c19, c20, c21, c22, c23, c24, c25, c26, c27]) W = W.setCells b 0 [c0, c1, c2, c3, c4, c5, c6, c7, c8, c9, c10, c11, c12, c13, c14, c15, c16, c17, c18, c19, c20, c21, c22, c23, c24, c25, c26, c27] := by
  simp only [putN, World.setCells]
  rfl

set_option maxRecDepth 100000 in
set_option maxHeartbeats 4000000 in
theorem keep_ok (T : TD) (pb po pn pc_ : Nat) (ps : Option Addr) (P : Nat → PD) (rb ro rn rc_ : Nat) (rs : Option Addr) (Q : Nat → RD) (w : World) (hps : pn = 0 ∨ ps = some ⟨pb, po, none⟩) (hpc : pn ≤ pc_) (hpm : pc_ ≤ maxLen) (hp : Pts w pb po pn P) (op : ∀ i, i < pn → pok (P i)) (hrs : rn = 0 ∨ rs = some ⟨rb, ro, none⟩) (hrc : rn ≤ rc_) (hrm : rc_ ≤ maxLen) (hr : Rws w rb ro rn Q) (he : ckE T pn P = 0) (hne : rn = rwN T pn) : Calls Try.prog 11 #[.agg #[.int .i64 T.ta, .int .i64 T.tp, .int .i64 T.tb, .int .i64 T.tq, .bool T.ts, .float .f64 T.tx, .float .f64 T.ty, .slice ps pn pc_], .slice rs rn rc_] w fun e w' => ∃ g cap, pn ≤ cap ∧ cap ≤ maxLen ∧ w.heap.size ≤ g ∧ Pts w' g 0 pn (kpP P Q (mN T pn)) ∧ w'.there g 0 (pn * 6) ∧ e = .returned (.tuple #[.agg #[.int .i64 T.ta, .int .i64 T.tp, .int .i64 T.tb, .int .i64 T.tq, .bool T.ts, .float .f64 T.tx, .float .f64 T.ty, .slice (some ⟨g, 0, none⟩) pn cap], .int .i64 0]) ∧ Bel w w' := by
  have hpm9 := hpm
  have hrm9 := hrm
  unfold maxLen at hpm hrm
  have hz0 : ((w.alloc (.cells #[.int .i64 T.ta, .int .i64 T.tp, .int .i64 T.tb, .int .i64 T.tq, .bool T.ts, .float .f64 T.tx, .float .f64 T.ty, .slice ps pn pc_] 29)).alloc (.cells #[.int .i64 0, .int .i64 0, .int .i64 0, .int .i64 0, .bool false, .float .f64 0, .float .f64 0, .slice none 0 0] 29)).heap.size = w.heap.size + 1 + 1 := by simp only [World.size_alloc]
  have hT : ((w.alloc (.cells #[.int .i64 T.ta, .int .i64 T.tp, .int .i64 T.tb, .int .i64 T.tq, .bool T.ts, .float .f64 T.tx, .float .f64 T.ty, .slice ps pn pc_] 29)).alloc (.cells #[.int .i64 0, .int .i64 0, .int .i64 0, .int .i64 0, .bool false, .float .f64 0, .float .f64 0, .slice none 0 0] 29)).rangeAt (w.heap.size) 0 [.int .i64 T.ta, .int .i64 T.tp, .int .i64 T.tb, .int .i64 T.tq, .bool T.ts, .float .f64 T.tx, .float .f64 T.ty, .slice ps pn pc_] := World.rangeAt_alloc (rng_new w [.int .i64 T.ta, .int .i64 T.tp, .int .i64 T.tb, .int .i64 T.tq, .bool T.ts, .float .f64 T.tx, .float .f64 T.ty, .slice ps pn pc_] 29) _
  have hTt : ((w.alloc (.cells #[.int .i64 T.ta, .int .i64 T.tp, .int .i64 T.tb, .int .i64 T.tq, .bool T.ts, .float .f64 T.tx, .float .f64 T.ty, .slice ps pn pc_] 29)).alloc (.cells #[.int .i64 0, .int .i64 0, .int .i64 0, .int .i64 0, .bool false, .float .f64 0, .float .f64 0, .slice none 0 0] 29)).there (w.heap.size) 0 8 := World.there_alloc (there_new w [.int .i64 T.ta, .int .i64 T.tp, .int .i64 T.tb, .int .i64 T.tq, .bool T.ts, .float .f64 T.tx, .float .f64 T.ty, .slice ps pn pc_] 29) _
  have hU : ((w.alloc (.cells #[.int .i64 T.ta, .int .i64 T.tp, .int .i64 T.tb, .int .i64 T.tq, .bool T.ts, .float .f64 T.tx, .float .f64 T.ty, .slice ps pn pc_] 29)).alloc (.cells #[.int .i64 0, .int .i64 0, .int .i64 0, .int .i64 0, .bool false, .float .f64 0, .float .f64 0, .slice none 0 0] 29)).there (w.heap.size + 1) 0 8 := by have h := there_new (w.alloc (.cells #[.int .i64 T.ta, .int .i64 T.tp, .int .i64 T.tb, .int .i64 T.tq, .bool T.ts, .float .f64 T.tx, .float .f64 T.ty, .slice ps pn pc_] 29)) [.int .i64 0, .int .i64 0, .int .i64 0, .int .i64 0, .bool false, .float .f64 0, .float .f64 0, .slice none 0 0] 29; rwa [World.size_alloc] at h
  have BB : Bel w ((w.alloc (.cells #[.int .i64 T.ta, .int .i64 T.tp, .int .i64 T.tb, .int .i64 T.tq, .bool T.ts, .float .f64 T.tx, .float .f64 T.ty, .slice ps pn pc_] 29)).alloc (.cells #[.int .i64 0, .int .i64 0, .int .i64 0, .int .i64 0, .bool false, .float .f64 0, .float .f64 0, .slice none 0 0] 29)) := bl_alloc (bl_alloc (bl_refl w) _ _) _ _
  have hn8 := (ck_eight he).2
  have hn1 := (ck_eight he).1
  have hm2 := rw_mN T pn
  have hml := mN_le T pn
  have hneI : ((rn : Int) != (rwN T pn : Nat)) = false := by simp; omega
  have hqI : ((rn : Int)).tdiv 2 = ((mN T pn : Nat) : Int) := by rw [hne, hm2, show ((2 * mN T pn : Nat) : Int) = 2 * ((mN T pn : Nat) : Int) by omega]; exact Int.mul_tdiv_cancel_left _ (by decide)
  have hne9 := hide hne
  have hm9 := hide hm2
  clear hne hm2
  go_enter Try.func11, Try.ntmps11
  repeat (first | ((with_reducible show Oper.wp _ { dst := some 10, op := Op.load 29 _, type := _, pos := _, after := _, guard := _ } _ _ _ _); refine wp_load_mid (P := Try.prog) 29 _ rfl _ _ rfl [.int .i64 T.ta, .int .i64 T.tp, .int .i64 T.tb, .int .i64 T.tq, .bool T.ts, .float .f64 T.tx, .float .f64 T.ty, .slice ps pn pc_] _ hT Try.underlying29 rfl (by kernel_rfl) ?_; (try simp only [go_sem])) | (go_at_call 47; (with_reducible refine (touchCheck_w T pb po pn pc_ ps P _ hps hpc hpm9 (hp.bel BB) op).mono ?_); rintro e w1 ⟨rfl, hb1⟩; rw [he]; replace hT := rng_bel hT hb1; replace hTt := bel_there hTt hb1; replace hU := bel_there hU hb1; have hzhb1 := hb1.size; replace BB := bl_trans BB hb1) | ((with_reducible show Oper.wp _ { dst := some 18, op := Op.load 29 _, type := _, pos := _, after := _, guard := _ } _ _ _ _); refine wp_load_mid (P := Try.prog) 29 _ rfl _ _ rfl [.int .i64 T.ta, .int .i64 T.tp, .int .i64 T.tb, .int .i64 T.tq, .bool T.ts, .float .f64 T.tx, .float .f64 T.ty, .slice ps pn pc_] _ hT Try.underlying29 rfl (by kernel_rfl) ?_; (try simp only [go_sem])) | (go_at_call 48; (with_reducible refine (rowsOf_w T ps pn pc_ _ hn8).mono ?_); rintro e w2 ⟨rfl, hb2⟩; replace hT := rng_bel hT hb2; replace hTt := bel_there hTt hb2; replace hU := bel_there hU hb2; have hzhb2 := hb2.size; replace BB := bl_trans BB hb2; have kS := hT 7 _ rfl; rw [Nat.zero_add] at kS) | (go_at_call 49; (with_reducible refine (cloneP_w pb po pn pc_ ps P _ hps hpc hpm9 (hp.bel BB) (by omega)).mono ?_); rintro e w3 ⟨v, ⟨g, cap, sl, rfl, hsl, hgc, hcm, hgw, hPg, hgt⟩, rfl, hb3⟩; obtain rfl : sl = some ⟨g, 0, none⟩ := (by rcases hsl with h | h; (exact absurd h (by omega)); exact h); replace hT := rng_bel hT hb3; replace hTt := bel_there hTt hb3; replace hU := bel_there hU hb3; have hzhb3 := hb3.size; replace BB := bl_trans BB hb3; have kS := hT 7 _ rfl; rw [Nat.zero_add] at kS; have fS := (hTt 7 (by decide)).2; rw [Nat.zero_add] at fS) | go_values | go_skip | go_guarded | go_step | go_upon | go_back | dsimp only)
  have hgH : w.heap.size + 1 < g := by omega
  have hT4 : (w3.setCell ⟨w.heap.size, 7, none⟩ (.slice (some ⟨g, 0, none⟩) pn cap)).rangeAt (w.heap.size) 0 [.int .i64 T.ta, .int .i64 T.tp, .int .i64 T.tb, .int .i64 T.tq, .bool T.ts, .float .f64 T.tx, .float .f64 T.ty, (.slice (some ⟨g, 0, none⟩) pn cap)] := rng_upd (k := 7) (v := (.slice (some ⟨g, 0, none⟩) pn cap)) hT (by simp)
  have hU4 : (w3.setCell ⟨w.heap.size, 7, none⟩ (.slice (some ⟨g, 0, none⟩) pn cap)).there (w.heap.size + 1) 0 8 := there_set hU
  have hP4 : Pts (w3.setCell ⟨w.heap.size, 7, none⟩ (.slice (some ⟨g, 0, none⟩) pn cap)) g 0 pn (kpP P Q 0) := by rw [kpP_zero]; exact fun i hi => rng_set_far (hPg i hi) (by simp; omega)
  have hg4 : (w3.setCell ⟨w.heap.size, 7, none⟩ (.slice (some ⟨g, 0, none⟩) pn cap)).there g 0 (pn * 6) := there_set hgt
  have hB4 : Bel w (w3.setCell ⟨w.heap.size, 7, none⟩ (.slice (some ⟨g, 0, none⟩) pn cap)) := bl_set BB (Nat.le_refl _)
  have hs4 : w.heap.size + 1 < (w3.setCell ⟨w.heap.size, 7, none⟩ (.slice (some ⟨g, 0, none⟩) pn cap)).heap.size := by rw [size_set]; omega
  go_loopw [29] (fun i wr => ∃ k : Nat, k ≤ mN T pn ∧ i = .int .i64 k ∧ Bel w wr ∧ wr.rangeAt (w.heap.size) 0 [.int .i64 T.ta, .int .i64 T.tp, .int .i64 T.tb, .int .i64 T.tq, .bool T.ts, .float .f64 T.tx, .float .f64 T.ty, (.slice (some ⟨g, 0, none⟩) pn cap)] ∧ wr.there (w.heap.size + 1) 0 8 ∧ Pts wr g 0 pn (kpP P Q k) ∧ wr.there g 0 (pn * 6) ∧ w.heap.size + 1 < wr.heap.size) (fun i _ => mN T pn - (intOf i).toNat)
  case atStart => exact ⟨0, by omega, rfl, hB4, hT4, hU4, hP4, hg4, hs4⟩
  case round =>
    obtain ⟨k, hk, rfl, hB, hTr, hUr, hPr, hgtr, hsr⟩ := hrel
    clear hT4 hU4 hP4 hg4 hB4 hs4 hT hTt hU hPg hgt kS fS
    by_cases hlt : k < mN T pn
    · have e9 : rs = some ⟨rb, ro, none⟩ := by rcases hrs with h | h; (exact absurd h (by have u1 := unhide hne9; have u2 := unhide hm9; omega)); exact h
      subst e9
      have hkI : (k : Int) < ((mN T pn : Nat) : Int) := by omega
      have hkp : k < pn := by omega
      have hkpI : (k : Int) < (pn : Int) := by omega
      have hkcI : (k : Int) < (cap : Int) := by omega
      have hq0 : wr.rangeAt rb (ro + (2 * k) * 14) [.int .i64 (Q (2 * k)).ra, .int .i64 (Q (2 * k)).rb, .float .f64 (Q (2 * k)).r2, .float .f64 (Q (2 * k)).r3, .float .f64 (Q (2 * k)).r4, .float .f64 (Q (2 * k)).r5, .float .f64 (Q (2 * k)).r6, .float .f64 (Q (2 * k)).r7, .float .f64 (Q (2 * k)).r8, .float .f64 (Q (2 * k)).r9, .float .f64 (Q (2 * k)).r10, .float .f64 (Q (2 * k)).r11, .int .i64 (Q (2 * k)).ro, .float .f64 (Q (2 * k)).r13] := (hr.bel hB) (2 * k) (by have u1 := unhide hne9; have u2 := unhide hm9; omega)
      have hq1 : wr.rangeAt rb (ro + (2 * k + 1) * 14) [.int .i64 (Q (2 * k + 1)).ra, .int .i64 (Q (2 * k + 1)).rb, .float .f64 (Q (2 * k + 1)).r2, .float .f64 (Q (2 * k + 1)).r3, .float .f64 (Q (2 * k + 1)).r4, .float .f64 (Q (2 * k + 1)).r5, .float .f64 (Q (2 * k + 1)).r6, .float .f64 (Q (2 * k + 1)).r7, .float .f64 (Q (2 * k + 1)).r8, .float .f64 (Q (2 * k + 1)).r9, .float .f64 (Q (2 * k + 1)).r10, .float .f64 (Q (2 * k + 1)).r11, .int .i64 (Q (2 * k + 1)).ro, .float .f64 (Q (2 * k + 1)).r13] := (hr.bel hB) (2 * k + 1) (by have u1 := unhide hne9; have u2 := unhide hm9; omega)
      have h2I : 2 * (k : Int) < (rn : Int) := by have u1 := unhide hne9; have u2 := unhide hm9; omega
      have h2C : 2 * (k : Int) < (rc_ : Int) := by have u1 := unhide hne9; have u2 := unhide hm9; omega
      have h3I : 2 * (k : Int) + 1 < (rn : Int) := by have u1 := unhide hne9; have u2 := unhide hm9; omega
      have h3C : 2 * (k : Int) + 1 < (rc_ : Int) := by have u1 := unhide hne9; have u2 := unhide hm9; omega
      have hw2 : IntKind.i64.wrap (2 * (k : Int)) = 2 * (k : Int) := by rw [IntKind.wrap_i64]; omega
      have hw3 : IntKind.i64.wrap (2 * (k : Int) + 1) = 2 * (k : Int) + 1 := by rw [IntKind.wrap_i64]; omega
      repeat (first | go_values | go_skip | go_guarded | go_step | go_upon | go_back | dsimp only)
      refine wp_region_new 14 rfl (fun i v => match i with | 0 => v = .slice (some ⟨rb, ro, none⟩) rn rc_ | 1 => v = .int .i64 (k : Int) | 2 => v = .int .i64 (2 * (k : Int)) | 3 => v = .pointer (some ⟨rb, ro + (2 * k) * 14, none⟩) | 4 => v = .agg #[.int .i64 (Q (2 * k)).ra, .int .i64 (Q (2 * k)).rb, .float .f64 (Q (2 * k)).r2, .float .f64 (Q (2 * k)).r3, .float .f64 (Q (2 * k)).r4, .float .f64 (Q (2 * k)).r5, .float .f64 (Q (2 * k)).r6, .float .f64 (Q (2 * k)).r7, .float .f64 (Q (2 * k)).r8, .float .f64 (Q (2 * k)).r9, .float .f64 (Q (2 * k)).r10, .float .f64 (Q (2 * k)).r11, .int .i64 (Q (2 * k)).ro, .float .f64 (Q (2 * k)).r13] | 5 => v = .slice (some ⟨rb, ro, none⟩) rn rc_ | 6 => v = .int .i64 (k : Int) | 7 => v = .int .i64 (2 * (k : Int)) | 8 => v = .int .i64 (2 * (k : Int) + 1) | 9 => v = .pointer (some ⟨rb, ro + (2 * k + 1) * 14, none⟩) | 10 => v = .agg #[.int .i64 (Q (2 * k + 1)).ra, .int .i64 (Q (2 * k + 1)).rb, .float .f64 (Q (2 * k + 1)).r2, .float .f64 (Q (2 * k + 1)).r3, .float .f64 (Q (2 * k + 1)).r4, .float .f64 (Q (2 * k + 1)).r5, .float .f64 (Q (2 * k + 1)).r6, .float .f64 (Q (2 * k + 1)).r7, .float .f64 (Q (2 * k + 1)).r8, .float .f64 (Q (2 * k + 1)).r9, .float .f64 (Q (2 * k + 1)).r10, .float .f64 (Q (2 * k + 1)).r11, .int .i64 (Q (2 * k + 1)).ro, .float .f64 (Q (2 * k + 1)).r13] | 11 => v = .agg #[.int .i64 (Q (2 * k)).ra, .int .i64 (Q (2 * k)).rb, .float .f64 (Q (2 * k)).r2, .float .f64 (Q (2 * k)).r3, .float .f64 (Q (2 * k)).r4, .float .f64 (Q (2 * k)).r5, .float .f64 (Q (2 * k)).r6, .float .f64 (Q (2 * k)).r7, .float .f64 (Q (2 * k)).r8, .float .f64 (Q (2 * k)).r9, .float .f64 (Q (2 * k)).r10, .float .f64 (Q (2 * k)).r11, .int .i64 (Q (2 * k)).ro, .float .f64 (Q (2 * k)).r13, .int .i64 (Q (2 * k + 1)).ra, .int .i64 (Q (2 * k + 1)).rb, .float .f64 (Q (2 * k + 1)).r2, .float .f64 (Q (2 * k + 1)).r3, .float .f64 (Q (2 * k + 1)).r4, .float .f64 (Q (2 * k + 1)).r5, .float .f64 (Q (2 * k + 1)).r6, .float .f64 (Q (2 * k + 1)).r7, .float .f64 (Q (2 * k + 1)).r8, .float .f64 (Q (2 * k + 1)).r9, .float .f64 (Q (2 * k + 1)).r10, .float .f64 (Q (2 * k + 1)).r11, .int .i64 (Q (2 * k + 1)).ro, .float .f64 (Q (2 * k + 1)).r13] | _ => False) [(12, #[.int .i64 0, .int .i64 0, .float .f64 0, .float .f64 0, .float .f64 0, .float .f64 0, .float .f64 0, .float .f64 0, .float .f64 0, .float .f64 0, .float .f64 0, .float .f64 0, .int .i64 0, .float .f64 0, .int .i64 0, .int .i64 0, .float .f64 0, .float .f64 0, .float .f64 0, .float .f64 0, .float .f64 0, .float .f64 0, .float .f64 0, .float .f64 0, .float .f64 0, .float .f64 0, .int .i64 0, .float .f64 0], 91)] [(13, 12, 11)] ?A_wn (by kernel_rfl) (by kernel_rfl) ?hA_wn ?ha_wn ?hst_wn ?hq_wn ?ht_wn
      case hA_wn =>
        intro s
        simp only [putL, dstO, Act.put, List.getElem?_toArray, List.getElem?_cons_zero, List.getElem?_cons_succ, Option.bind_some, List.setIfInBounds_toArray, List.set_cons_zero, List.set_cons_succ, if_true]
        all_goals exact rfl
      case ha_wn =>
        intro i o c ty hi ho hal B W K hK
        rcases (show i = 0 ∨ i = 1 ∨ i = 2 ∨ i = 3 ∨ i = 4 ∨ i = 5 ∨ i = 6 ∨ i = 7 ∨ i = 8 ∨ i = 9 ∨ i = 10 ∨ i = 11 ∨ i = 12 ∨ i = 13 by omega) with rfl | rfl | rfl | rfl | rfl | rfl | rfl | rfl | rfl | rfl | rfl | rfl | rfl | rfl
        · cases (show none = some (c, ty) from hal)
        · cases (show none = some (c, ty) from hal)
        · cases (show none = some (c, ty) from hal)
        · cases (show none = some (c, ty) from hal)
        · cases (show none = some (c, ty) from hal)
        · cases (show none = some (c, ty) from hal)
        · cases (show none = some (c, ty) from hal)
        · cases (show none = some (c, ty) from hal)
        · cases (show none = some (c, ty) from hal)
        · cases (show none = some (c, ty) from hal)
        · cases (show none = some (c, ty) from hal)
        · cases (show none = some (c, ty) from hal)
        · cases ho; cases (show some (#[.int .i64 0, .int .i64 0, .float .f64 0, .float .f64 0, .float .f64 0, .float .f64 0, .float .f64 0, .float .f64 0, .float .f64 0, .float .f64 0, .float .f64 0, .float .f64 0, .int .i64 0, .float .f64 0, .int .i64 0, .int .i64 0, .float .f64 0, .float .f64 0, .float .f64 0, .float .f64 0, .float .f64 0, .float .f64 0, .float .f64 0, .float .f64 0, .float .f64 0, .float .f64 0, .int .i64 0, .float .f64 0], 91) = some (c, ty) from hal); go_simp; exact hK.out
        · cases (show none = some (c, ty) from hal)
      case hst_wn =>
        intro t o a d c ty hlt ho hts hal s hs W b_9 eb hc hf K hK
        rcases (show t = 0 ∨ t = 1 ∨ t = 2 ∨ t = 3 ∨ t = 4 ∨ t = 5 ∨ t = 6 ∨ t = 7 ∨ t = 8 ∨ t = 9 ∨ t = 10 ∨ t = 11 ∨ t = 12 ∨ t = 13 by omega) with rfl | rfl | rfl | rfl | rfl | rfl | rfl | rfl | rfl | rfl | rfl | rfl | rfl | rfl
        · cases (show none = some (a, d) from hts)
        · cases (show none = some (a, d) from hts)
        · cases (show none = some (a, d) from hts)
        · cases (show none = some (a, d) from hts)
        · cases (show none = some (a, d) from hts)
        · cases (show none = some (a, d) from hts)
        · cases (show none = some (a, d) from hts)
        · cases (show none = some (a, d) from hts)
        · cases (show none = some (a, d) from hts)
        · cases (show none = some (a, d) from hts)
        · cases (show none = some (a, d) from hts)
        · cases (show none = some (a, d) from hts)
        · cases (show none = some (a, d) from hts)
        · cases ho; cases (show some (12, 11) = some (a, d) from hts); cases (show some (#[.int .i64 0, .int .i64 0, .float .f64 0, .float .f64 0, .float .f64 0, .float .f64 0, .float .f64 0, .float .f64 0, .float .f64 0, .float .f64 0, .float .f64 0, .float .f64 0, .int .i64 0, .float .f64 0, .int .i64 0, .int .i64 0, .float .f64 0, .float .f64 0, .float .f64 0, .float .f64 0, .float .f64 0, .float .f64 0, .float .f64 0, .float .f64 0, .float .f64 0, .float .f64 0, .int .i64 0, .float .f64 0], 91) = some (c, ty) from hal)
          have e11 : s 11 = _ := hs 11 (by decide) rfl rfl (by kernel_rfl)
          obtain ⟨u0, hu0⟩ := Option.isSome_iff_exists.1 (hc 0 (by decide))
          obtain ⟨u1, hu1⟩ := Option.isSome_iff_exists.1 (hc 1 (by decide))
          obtain ⟨u2, hu2⟩ := Option.isSome_iff_exists.1 (hc 2 (by decide))
          obtain ⟨u3, hu3⟩ := Option.isSome_iff_exists.1 (hc 3 (by decide))
          obtain ⟨u4, hu4⟩ := Option.isSome_iff_exists.1 (hc 4 (by decide))
          obtain ⟨u5, hu5⟩ := Option.isSome_iff_exists.1 (hc 5 (by decide))
          obtain ⟨u6, hu6⟩ := Option.isSome_iff_exists.1 (hc 6 (by decide))
          obtain ⟨u7, hu7⟩ := Option.isSome_iff_exists.1 (hc 7 (by decide))
          obtain ⟨u8, hu8⟩ := Option.isSome_iff_exists.1 (hc 8 (by decide))
          obtain ⟨u9, hu9⟩ := Option.isSome_iff_exists.1 (hc 9 (by decide))
          obtain ⟨u10, hu10⟩ := Option.isSome_iff_exists.1 (hc 10 (by decide))
          obtain ⟨u11, hu11⟩ := Option.isSome_iff_exists.1 (hc 11 (by decide))
          obtain ⟨u12, hu12⟩ := Option.isSome_iff_exists.1 (hc 12 (by decide))
          obtain ⟨u13, hu13⟩ := Option.isSome_iff_exists.1 (hc 13 (by decide))
          obtain ⟨u14, hu14⟩ := Option.isSome_iff_exists.1 (hc 14 (by decide))
          obtain ⟨u15, hu15⟩ := Option.isSome_iff_exists.1 (hc 15 (by decide))
          obtain ⟨u16, hu16⟩ := Option.isSome_iff_exists.1 (hc 16 (by decide))
          obtain ⟨u17, hu17⟩ := Option.isSome_iff_exists.1 (hc 17 (by decide))
          obtain ⟨u18, hu18⟩ := Option.isSome_iff_exists.1 (hc 18 (by decide))
          obtain ⟨u19, hu19⟩ := Option.isSome_iff_exists.1 (hc 19 (by decide))
          obtain ⟨u20, hu20⟩ := Option.isSome_iff_exists.1 (hc 20 (by decide))
          obtain ⟨u21, hu21⟩ := Option.isSome_iff_exists.1 (hc 21 (by decide))
          obtain ⟨u22, hu22⟩ := Option.isSome_iff_exists.1 (hc 22 (by decide))
          obtain ⟨u23, hu23⟩ := Option.isSome_iff_exists.1 (hc 23 (by decide))
          obtain ⟨u24, hu24⟩ := Option.isSome_iff_exists.1 (hc 24 (by decide))
          obtain ⟨u25, hu25⟩ := Option.isSome_iff_exists.1 (hc 25 (by decide))
          obtain ⟨u26, hu26⟩ := Option.isSome_iff_exists.1 (hc 26 (by decide))
          obtain ⟨u27, hu27⟩ := Option.isSome_iff_exists.1 (hc 27 (by decide))
          simp only [eb, e11] at hK ⊢
          clear hs
          refine wp_store_mid (P := Try.prog) 91 _ _ rfl b_9 0 #[.int .i64 (Q (2 * k)).ra, .int .i64 (Q (2 * k)).rb, .float .f64 (Q (2 * k)).r2, .float .f64 (Q (2 * k)).r3, .float .f64 (Q (2 * k)).r4, .float .f64 (Q (2 * k)).r5, .float .f64 (Q (2 * k)).r6, .float .f64 (Q (2 * k)).r7, .float .f64 (Q (2 * k)).r8, .float .f64 (Q (2 * k)).r9, .float .f64 (Q (2 * k)).r10, .float .f64 (Q (2 * k)).r11, .int .i64 (Q (2 * k)).ro, .float .f64 (Q (2 * k)).r13, .int .i64 (Q (2 * k + 1)).ra, .int .i64 (Q (2 * k + 1)).rb, .float .f64 (Q (2 * k + 1)).r2, .float .f64 (Q (2 * k + 1)).r3, .float .f64 (Q (2 * k + 1)).r4, .float .f64 (Q (2 * k + 1)).r5, .float .f64 (Q (2 * k + 1)).r6, .float .f64 (Q (2 * k + 1)).r7, .float .f64 (Q (2 * k + 1)).r8, .float .f64 (Q (2 * k + 1)).r9, .float .f64 (Q (2 * k + 1)).r10, .float .f64 (Q (2 * k + 1)).r11, .int .i64 (Q (2 * k + 1)).ro, .float .f64 (Q (2 * k + 1)).r13] rfl rfl (fun j hj => ⟨by rw [Nat.zero_add]; exact hc j hj, by rw [Nat.zero_add]; exact hf _⟩) (by kernel_rfl) (by kernel_rfl) ?_
          have hk := hK.out
          exact Eq.mp (congrArg (K _) (put28 b_9 _ _ _ _ _ _ _ _ _ _ _ _ _ _ _ _ _ _ _ _ _ _ _ _ _ _ _ _ W)) hk
      case hq_wn =>
        intro i o hi hal hts ho s hs W hb K hK
        have lrb := hq0
        rcases (show i = 0 ∨ i = 1 ∨ i = 2 ∨ i = 3 ∨ i = 4 ∨ i = 5 ∨ i = 6 ∨ i = 7 ∨ i = 8 ∨ i = 9 ∨ i = 10 ∨ i = 11 ∨ i = 12 ∨ i = 13 by omega) with rfl | rfl | rfl | rfl | rfl | rfl | rfl | rfl | rfl | rfl | rfl | rfl | rfl | rfl
        · cases ho
          simp only [Act.put, List.setIfInBounds_toArray, List.set_cons_zero, List.set_cons_succ] at hK
          clear hs hal hts
          go_simp
          all_goals first | exact hK.out _ _ rfl (bl_refl _) | exact hK.out _ _ rfl (by assumption) | exact hK.out _ _ (by assumption) (by assumption)
        · cases ho
          simp only [Act.put, List.setIfInBounds_toArray, List.set_cons_zero, List.set_cons_succ] at hK
          clear hs hal hts
          go_simp
          all_goals first | exact hK.out _ _ rfl (bl_refl _) | exact hK.out _ _ rfl (by assumption) | exact hK.out _ _ (by assumption) (by assumption)
        · cases ho
          have e1 : s 1 = _ := hs 1 (by decide) rfl rfl (by kernel_rfl)
          simp only [e1] at hK ⊢
          simp only [Act.put, List.setIfInBounds_toArray, List.set_cons_zero, List.set_cons_succ] at hK
          clear hs hal hts
          go_simp
          all_goals first | exact hK.out _ _ rfl (bl_refl _) | exact hK.out _ _ rfl (by assumption) | exact hK.out _ _ (by assumption) (by assumption)
        · cases ho
          have e0 : s 0 = _ := hs 0 (by decide) rfl rfl (by kernel_rfl)
          have e2 : s 2 = _ := hs 2 (by decide) rfl rfl (by kernel_rfl)
          simp only [e0, e2] at hK ⊢
          simp only [Act.put, List.setIfInBounds_toArray, List.set_cons_zero, List.set_cons_succ] at hK
          clear hs hal hts
          go_simp
          all_goals first | exact hK.out _ _ rfl (bl_refl _) | exact hK.out _ _ rfl (by assumption) | exact hK.out _ _ (by assumption) (by assumption)
        · cases ho
          have e3 : s 3 = _ := hs 3 (by decide) rfl rfl (by kernel_rfl)
          simp only [e3] at hK ⊢
          simp only [Act.put, List.setIfInBounds_toArray, List.set_cons_zero, List.set_cons_succ] at hK
          clear hs hal hts
          refine wp_load_mid (P := Try.prog) 43 _ rfl _ _ rfl [.int .i64 (Q (2 * k)).ra, .int .i64 (Q (2 * k)).rb, .float .f64 (Q (2 * k)).r2, .float .f64 (Q (2 * k)).r3, .float .f64 (Q (2 * k)).r4, .float .f64 (Q (2 * k)).r5, .float .f64 (Q (2 * k)).r6, .float .f64 (Q (2 * k)).r7, .float .f64 (Q (2 * k)).r8, .float .f64 (Q (2 * k)).r9, .float .f64 (Q (2 * k)).r10, .float .f64 (Q (2 * k)).r11, .int .i64 (Q (2 * k)).ro, .float .f64 (Q (2 * k)).r13] _ (rng_bel hq0 hb) Try.underlying43 rfl (by kernel_rfl) ?_; exact hK.out _ _ rfl (bl_refl _)
        · cases ho
          simp only [Act.put, List.setIfInBounds_toArray, List.set_cons_zero, List.set_cons_succ] at hK
          clear hs hal hts
          go_simp
          all_goals first | exact hK.out _ _ rfl (bl_refl _) | exact hK.out _ _ rfl (by assumption) | exact hK.out _ _ (by assumption) (by assumption)
        · cases ho
          simp only [Act.put, List.setIfInBounds_toArray, List.set_cons_zero, List.set_cons_succ] at hK
          clear hs hal hts
          go_simp
          all_goals first | exact hK.out _ _ rfl (bl_refl _) | exact hK.out _ _ rfl (by assumption) | exact hK.out _ _ (by assumption) (by assumption)
        · cases ho
          have e6 : s 6 = _ := hs 6 (by decide) rfl rfl (by kernel_rfl)
          simp only [e6] at hK ⊢
          simp only [Act.put, List.setIfInBounds_toArray, List.set_cons_zero, List.set_cons_succ] at hK
          clear hs hal hts
          go_simp
          all_goals first | exact hK.out _ _ rfl (bl_refl _) | exact hK.out _ _ rfl (by assumption) | exact hK.out _ _ (by assumption) (by assumption)
        · cases ho
          have e7 : s 7 = _ := hs 7 (by decide) rfl rfl (by kernel_rfl)
          simp only [e7] at hK ⊢
          simp only [Act.put, List.setIfInBounds_toArray, List.set_cons_zero, List.set_cons_succ] at hK
          clear hs hal hts
          go_simp
          all_goals first | exact hK.out _ _ rfl (bl_refl _) | exact hK.out _ _ rfl (by assumption) | exact hK.out _ _ (by assumption) (by assumption)
        · cases ho
          have e5 : s 5 = _ := hs 5 (by decide) rfl rfl (by kernel_rfl)
          have e8 : s 8 = _ := hs 8 (by decide) rfl rfl (by kernel_rfl)
          simp only [e5, e8] at hK ⊢
          simp only [Act.put, List.setIfInBounds_toArray, List.set_cons_zero, List.set_cons_succ] at hK
          clear hs hal hts
          go_simp
          all_goals first | exact hK.out _ _ rfl (bl_refl _) | exact hK.out _ _ rfl (by assumption) | exact hK.out _ _ (by assumption) (by assumption)
        · cases ho
          have e9 : s 9 = _ := hs 9 (by decide) rfl rfl (by kernel_rfl)
          simp only [e9] at hK ⊢
          simp only [Act.put, List.setIfInBounds_toArray, List.set_cons_zero, List.set_cons_succ] at hK
          clear hs hal hts
          refine wp_load_mid (P := Try.prog) 43 _ rfl _ _ rfl [.int .i64 (Q (2 * k + 1)).ra, .int .i64 (Q (2 * k + 1)).rb, .float .f64 (Q (2 * k + 1)).r2, .float .f64 (Q (2 * k + 1)).r3, .float .f64 (Q (2 * k + 1)).r4, .float .f64 (Q (2 * k + 1)).r5, .float .f64 (Q (2 * k + 1)).r6, .float .f64 (Q (2 * k + 1)).r7, .float .f64 (Q (2 * k + 1)).r8, .float .f64 (Q (2 * k + 1)).r9, .float .f64 (Q (2 * k + 1)).r10, .float .f64 (Q (2 * k + 1)).r11, .int .i64 (Q (2 * k + 1)).ro, .float .f64 (Q (2 * k + 1)).r13] _ (rng_bel hq1 hb) Try.underlying43 rfl (by kernel_rfl) ?_; exact hK.out _ _ rfl (bl_refl _)
        · cases ho
          have e4 : s 4 = _ := hs 4 (by decide) rfl rfl (by kernel_rfl)
          have e10 : s 10 = _ := hs 10 (by decide) rfl rfl (by kernel_rfl)
          simp only [e4, e10] at hK ⊢
          simp only [Act.put, List.setIfInBounds_toArray, List.set_cons_zero, List.set_cons_succ] at hK
          clear hs hal hts
          refine wp_build 91 _ rfl (.agg #[.int .i64 (Q (2 * k)).ra, .int .i64 (Q (2 * k)).rb, .float .f64 (Q (2 * k)).r2, .float .f64 (Q (2 * k)).r3, .float .f64 (Q (2 * k)).r4, .float .f64 (Q (2 * k)).r5, .float .f64 (Q (2 * k)).r6, .float .f64 (Q (2 * k)).r7, .float .f64 (Q (2 * k)).r8, .float .f64 (Q (2 * k)).r9, .float .f64 (Q (2 * k)).r10, .float .f64 (Q (2 * k)).r11, .int .i64 (Q (2 * k)).ro, .float .f64 (Q (2 * k)).r13, .int .i64 (Q (2 * k + 1)).ra, .int .i64 (Q (2 * k + 1)).rb, .float .f64 (Q (2 * k + 1)).r2, .float .f64 (Q (2 * k + 1)).r3, .float .f64 (Q (2 * k + 1)).r4, .float .f64 (Q (2 * k + 1)).r5, .float .f64 (Q (2 * k + 1)).r6, .float .f64 (Q (2 * k + 1)).r7, .float .f64 (Q (2 * k + 1)).r8, .float .f64 (Q (2 * k + 1)).r9, .float .f64 (Q (2 * k + 1)).r10, .float .f64 (Q (2 * k + 1)).r11, .int .i64 (Q (2 * k + 1)).ro, .float .f64 (Q (2 * k + 1)).r13]) (by kernel_rfl) ?_; exact hK.out _ _ rfl (bl_refl _)
        · cases (show some _ = none from hal)
        · cases (show some _ = none from hts)
      case ht_wn =>
        intro s hs W hb hJ
        have e0 : s 0 = _ := hs 0 (by decide) rfl rfl
        have e1 : s 1 = _ := hs 1 (by decide) rfl rfl
        have e2 : s 2 = _ := hs 2 (by decide) rfl rfl
        have e3 : s 3 = _ := hs 3 (by decide) rfl rfl
        have e4 : s 4 = _ := hs 4 (by decide) rfl rfl
        have e5 : s 5 = _ := hs 5 (by decide) rfl rfl
        have e6 : s 6 = _ := hs 6 (by decide) rfl rfl
        have e7 : s 7 = _ := hs 7 (by decide) rfl rfl
        have e8 : s 8 = _ := hs 8 (by decide) rfl rfl
        have e9 : s 9 = _ := hs 9 (by decide) rfl rfl
        have e10 : s 10 = _ := hs 10 (by decide) rfl rfl
        have e11 : s 11 = _ := hs 11 (by decide) rfl rfl
        obtain ⟨p12, e12, n12, l12, cl12⟩ := hJ.1 12 _ _ (by decide) rfl rfl
        have k_p12_0 : W.cell? ⟨p12, 0, none⟩ = some (cellAt (s 11) 0) := cl12 0 (by decide)
        have k_p12_1 : W.cell? ⟨p12, 1, none⟩ = some (cellAt (s 11) 1) := cl12 1 (by decide)
        have k_p12_2 : W.cell? ⟨p12, 2, none⟩ = some (cellAt (s 11) 2) := cl12 2 (by decide)
        have k_p12_3 : W.cell? ⟨p12, 3, none⟩ = some (cellAt (s 11) 3) := cl12 3 (by decide)
        have k_p12_4 : W.cell? ⟨p12, 4, none⟩ = some (cellAt (s 11) 4) := cl12 4 (by decide)
        have k_p12_5 : W.cell? ⟨p12, 5, none⟩ = some (cellAt (s 11) 5) := cl12 5 (by decide)
        have k_p12_6 : W.cell? ⟨p12, 6, none⟩ = some (cellAt (s 11) 6) := cl12 6 (by decide)
        have k_p12_7 : W.cell? ⟨p12, 7, none⟩ = some (cellAt (s 11) 7) := cl12 7 (by decide)
        have k_p12_8 : W.cell? ⟨p12, 8, none⟩ = some (cellAt (s 11) 8) := cl12 8 (by decide)
        have k_p12_9 : W.cell? ⟨p12, 9, none⟩ = some (cellAt (s 11) 9) := cl12 9 (by decide)
        have k_p12_10 : W.cell? ⟨p12, 10, none⟩ = some (cellAt (s 11) 10) := cl12 10 (by decide)
        have k_p12_11 : W.cell? ⟨p12, 11, none⟩ = some (cellAt (s 11) 11) := cl12 11 (by decide)
        have k_p12_12 : W.cell? ⟨p12, 12, none⟩ = some (cellAt (s 11) 12) := cl12 12 (by decide)
        have k_p12_13 : W.cell? ⟨p12, 13, none⟩ = some (cellAt (s 11) 13) := cl12 13 (by decide)
        have k_p12_14 : W.cell? ⟨p12, 14, none⟩ = some (cellAt (s 11) 14) := cl12 14 (by decide)
        have k_p12_15 : W.cell? ⟨p12, 15, none⟩ = some (cellAt (s 11) 15) := cl12 15 (by decide)
        have k_p12_16 : W.cell? ⟨p12, 16, none⟩ = some (cellAt (s 11) 16) := cl12 16 (by decide)
        have k_p12_17 : W.cell? ⟨p12, 17, none⟩ = some (cellAt (s 11) 17) := cl12 17 (by decide)
        have k_p12_18 : W.cell? ⟨p12, 18, none⟩ = some (cellAt (s 11) 18) := cl12 18 (by decide)
        have k_p12_19 : W.cell? ⟨p12, 19, none⟩ = some (cellAt (s 11) 19) := cl12 19 (by decide)
        have k_p12_20 : W.cell? ⟨p12, 20, none⟩ = some (cellAt (s 11) 20) := cl12 20 (by decide)
        have k_p12_21 : W.cell? ⟨p12, 21, none⟩ = some (cellAt (s 11) 21) := cl12 21 (by decide)
        have k_p12_22 : W.cell? ⟨p12, 22, none⟩ = some (cellAt (s 11) 22) := cl12 22 (by decide)
        have k_p12_23 : W.cell? ⟨p12, 23, none⟩ = some (cellAt (s 11) 23) := cl12 23 (by decide)
        have k_p12_24 : W.cell? ⟨p12, 24, none⟩ = some (cellAt (s 11) 24) := cl12 24 (by decide)
        have k_p12_25 : W.cell? ⟨p12, 25, none⟩ = some (cellAt (s 11) 25) := cl12 25 (by decide)
        have k_p12_26 : W.cell? ⟨p12, 26, none⟩ = some (cellAt (s 11) 26) := cl12 26 (by decide)
        have k_p12_27 : W.cell? ⟨p12, 27, none⟩ = some (cellAt (s 11) 27) := cl12 27 (by decide)
        rw [e11] at k_p12_0 k_p12_1 k_p12_2 k_p12_3 k_p12_4 k_p12_5 k_p12_6 k_p12_7 k_p12_8 k_p12_9 k_p12_10 k_p12_11 k_p12_12 k_p12_13 k_p12_14 k_p12_15 k_p12_16 k_p12_17 k_p12_18 k_p12_19 k_p12_20 k_p12_21 k_p12_22 k_p12_23 k_p12_24 k_p12_25 k_p12_26 k_p12_27
        simp only [cellAt] at k_p12_0 k_p12_1 k_p12_2 k_p12_3 k_p12_4 k_p12_5 k_p12_6 k_p12_7 k_p12_8 k_p12_9 k_p12_10 k_p12_11 k_p12_12 k_p12_13 k_p12_14 k_p12_15 k_p12_16 k_p12_17 k_p12_18 k_p12_19 k_p12_20 k_p12_21 k_p12_22 k_p12_23 k_p12_24 k_p12_25 k_p12_26 k_p12_27
        simp only [e0, e1, e2, e3, e4, e5, e6, e7, e8, e9, e10, e11, e12]
        clear hs hJ e0 e1 e2 e3 e4 e5 e6 e7 e8 e9 e10 e11 e12 cl12
        clear k_p12_0 k_p12_1 k_p12_2 k_p12_3 k_p12_4 k_p12_5 k_p12_6 k_p12_7 k_p12_8 k_p12_9 k_p12_10 k_p12_12 k_p12_13 k_p12_14 k_p12_15 k_p12_16 k_p12_17 k_p12_18 k_p12_19 k_p12_20 k_p12_21 k_p12_22 k_p12_23 k_p12_24 k_p12_26 k_p12_27
        have hT8 := rng_bel hTr hb
        have hU8 := bel_there hUr hb
        have hPg8 := hPr.bel hb
        have hgt8 := bel_there hgtr hb
        have hB8 := bl_trans hB hb
        have hs8 := Nat.lt_of_lt_of_le hsr hb.size
        have hgl8 : g < W.heap.size := hPg8.lt (by omega)
        have kS8 := hT8 7 _ rfl
        rw [Nat.zero_add] at kS8
        repeat (first | go_values | go_skip | go_guarded | go_step | go_upon | go_back | dsimp only)
        refine wp_region_knot 16 rfl (fun i v => match i with | 0 => v = .pointer (some ⟨g, k * 6, none⟩) | 1 => v = .pointer (some ⟨g, k * 6, none⟩) | 2 => v = .pointer (some ⟨p12, 0, none⟩) | 3 => v = .pointer (some ⟨p12, 11, none⟩) | 4 => v = .float .f64 (Q (2 * k)).r11 | 5 => v = .float .f64 (kpF (Q (2 * k)).r11) | 6 => v = .pointer (some ⟨p12, 14, none⟩) | 7 => v = .pointer (some ⟨p12, 25, none⟩) | 8 => v = .float .f64 (Q (2 * k + 1)).r11 | 9 => v = .float .f64 (kpF (Q (2 * k + 1)).r11) | 10 => v = .pointer (some ⟨g, k * 6, none⟩) | 11 => v = .pointer (some ⟨g, k * 6 + 5, none⟩) | 13 => v = .pointer (some ⟨g, k * 6, none⟩) | 14 => v = .pointer (some ⟨g, k * 6 + 4, none⟩) | _ => False) (fun i => match i with | 4 => true | 5 => true | 8 => true | 9 => true | _ => false) (fun i => match i with | 12 => some (g, k * 6 + 5, 5) | 15 => some (g, k * 6 + 4, 9) | _ => none) (fun i => match i with | 12 => 1 | 15 => 1 | _ => 0) [g] 6 ?A_wk (by kernel_rfl) (by kernel_rfl) ?hA_wk ?hpre_wk ?hdep_wk ?hne_wk ?hq_wk ?hp_wk ?hst_wk ?ht_wk
        case hA_wk =>
          intro s
          simp only [putL, dstO, Act.put, List.getElem?_toArray, List.getElem?_cons_zero, List.getElem?_cons_succ, Option.bind_some, List.setIfInBounds_toArray, List.set_cons_zero, List.set_cons_succ, if_true]
          all_goals exact rfl
        case hpre_wk =>
          intro i j b o d hi hr hso
          have hj : j = 12 ∨ j = 15 := by
            split at hso
            all_goals first | omega | (cases hso; done)
          rcases (show i = 0 ∨ i = 1 ∨ i = 2 ∨ i = 3 ∨ i = 4 ∨ i = 5 ∨ i = 6 ∨ i = 7 ∨ i = 8 ∨ i = 9 ∨ i = 10 ∨ i = 11 ∨ i = 12 ∨ i = 13 ∨ i = 14 ∨ i = 15 by omega) with rfl | rfl | rfl | rfl | rfl | rfl | rfl | rfl | rfl | rfl | rfl | rfl | rfl | rfl | rfl | rfl
          all_goals first
            | (cases hr; done)
            | (rcases hj with rfl | rfl <;> (show rch _ _ _ _ = true) <;> kernel_rfl)
        case hdep_wk =>
          intro i b o d hso
          split at hso
          all_goals first | (cases hso; done) | (cases hso; exact ⟨by decide, rfl, by simp, by decide, rfl, by kernel_rfl⟩)
        case hne_wk =>
          intro i j b o d o' d' hij h1 h2
          split at h1
          all_goals (try (cases h1; done))
          all_goals split at h2
          all_goals (try (cases h2; done))
          all_goals (cases h1; cases h2; first | (exact absurd rfl hij) | (exact absurd rfl hne9) | (exact absurd rfl hne9.symm) | (simp only []; omega) | omega)
        case hq_wk =>
          intro i o hi ho hso hrd s hs W hb K hK
          have u11 := keep hb k_p12_11; have u25 := keep hb k_p12_25
          rcases (show i = 0 ∨ i = 1 ∨ i = 2 ∨ i = 3 ∨ i = 4 ∨ i = 5 ∨ i = 6 ∨ i = 7 ∨ i = 8 ∨ i = 9 ∨ i = 10 ∨ i = 11 ∨ i = 12 ∨ i = 13 ∨ i = 14 ∨ i = 15 by omega) with rfl | rfl | rfl | rfl | rfl | rfl | rfl | rfl | rfl | rfl | rfl | rfl | rfl | rfl | rfl | rfl
          · cases hrd
          · cases hrd
          · cases hrd
          · cases hrd
          · cases ho
            have e3 : s 3 = _ := hs 3 (by decide) rfl (by kernel_rfl)
            simp only [e3] at hK ⊢
            simp only [Act.put, List.setIfInBounds_toArray, List.set_cons_zero, List.set_cons_succ] at hK
            clear hs
            go_simp
            all_goals first | with_reducible exact hK.out _ _ rfl (bl_refl _) | exact hK.out _ _ rfl (bl_refl _)
          · cases ho
            have e4 : s 4 = _ := hs 4 (by decide) rfl (by kernel_rfl)
            simp only [e4] at hK ⊢
            simp only [Act.put, List.setIfInBounds_toArray, List.set_cons_zero, List.set_cons_succ] at hK
            clear hs
            go_simp
            all_goals (try go_wp2_with (first | (go_at_call 50; (with_reducible refine (kept_w _ _).mono ?_); rintro e w' ⟨rfl, rfl⟩)))
            all_goals first | with_reducible exact hK.out _ _ rfl (bl_refl _) | exact hK.out _ _ rfl (bl_refl _)
          · cases hrd
          · cases hrd
          · cases ho
            have e7 : s 7 = _ := hs 7 (by decide) rfl (by kernel_rfl)
            simp only [e7] at hK ⊢
            simp only [Act.put, List.setIfInBounds_toArray, List.set_cons_zero, List.set_cons_succ] at hK
            clear hs
            go_simp
            all_goals first | with_reducible exact hK.out _ _ rfl (bl_refl _) | exact hK.out _ _ rfl (bl_refl _)
          · cases ho
            have e8 : s 8 = _ := hs 8 (by decide) rfl (by kernel_rfl)
            simp only [e8] at hK ⊢
            simp only [Act.put, List.setIfInBounds_toArray, List.set_cons_zero, List.set_cons_succ] at hK
            clear hs
            go_simp
            all_goals (try go_wp2_with (first | (go_at_call 50; (with_reducible refine (kept_w _ _).mono ?_); rintro e w' ⟨rfl, rfl⟩)))
            all_goals first | with_reducible exact hK.out _ _ rfl (bl_refl _) | exact hK.out _ _ rfl (bl_refl _)
          · cases hrd
          · cases hrd
          · cases hso
          · cases hrd
          · cases hrd
          · cases hso
        case hp_wk =>
          intro i o hi ho hso hrd s hs W K hK
          rcases (show i = 0 ∨ i = 1 ∨ i = 2 ∨ i = 3 ∨ i = 4 ∨ i = 5 ∨ i = 6 ∨ i = 7 ∨ i = 8 ∨ i = 9 ∨ i = 10 ∨ i = 11 ∨ i = 12 ∨ i = 13 ∨ i = 14 ∨ i = 15 by omega) with rfl | rfl | rfl | rfl | rfl | rfl | rfl | rfl | rfl | rfl | rfl | rfl | rfl | rfl | rfl | rfl
          · cases ho
            simp only [Act.put, List.setIfInBounds_toArray, List.set_cons_zero, List.set_cons_succ] at hK
            clear hs
            go_simp
            all_goals first | with_reducible exact hK.out _ rfl | exact hK.out _ rfl
          · cases ho
            simp only [Act.put, List.setIfInBounds_toArray, List.set_cons_zero, List.set_cons_succ] at hK
            clear hs
            go_simp
            all_goals first | with_reducible exact hK.out _ rfl | exact hK.out _ rfl
          · cases ho
            simp only [Act.put, List.setIfInBounds_toArray, List.set_cons_zero, List.set_cons_succ] at hK
            clear hs
            go_simp
            all_goals first | with_reducible exact hK.out _ rfl | exact hK.out _ rfl
          · cases ho
            have e2 : s 2 = _ := hs 2 (by decide) rfl (by kernel_rfl)
            simp only [e2] at hK ⊢
            simp only [Act.put, List.setIfInBounds_toArray, List.set_cons_zero, List.set_cons_succ] at hK
            clear hs
            go_simp
            all_goals first | with_reducible exact hK.out _ rfl | exact hK.out _ rfl
          · cases hrd
          · cases hrd
          · cases ho
            simp only [Act.put, List.setIfInBounds_toArray, List.set_cons_zero, List.set_cons_succ] at hK
            clear hs
            go_simp
            all_goals first | with_reducible exact hK.out _ rfl | exact hK.out _ rfl
          · cases ho
            have e6 : s 6 = _ := hs 6 (by decide) rfl (by kernel_rfl)
            simp only [e6] at hK ⊢
            simp only [Act.put, List.setIfInBounds_toArray, List.set_cons_zero, List.set_cons_succ] at hK
            clear hs
            go_simp
            all_goals first | with_reducible exact hK.out _ rfl | exact hK.out _ rfl
          · cases hrd
          · cases hrd
          · cases ho
            have e0 : s 0 = _ := hs 0 (by decide) rfl (by kernel_rfl)
            simp only [e0] at hK ⊢
            simp only [Act.put, List.setIfInBounds_toArray, List.set_cons_zero, List.set_cons_succ] at hK
            clear hs
            go_simp
            all_goals first | with_reducible exact hK.out _ rfl | exact hK.out _ rfl
          · cases ho
            have e10 : s 10 = _ := hs 10 (by decide) rfl (by kernel_rfl)
            simp only [e10] at hK ⊢
            simp only [Act.put, List.setIfInBounds_toArray, List.set_cons_zero, List.set_cons_succ] at hK
            clear hs
            go_simp
            all_goals first | with_reducible exact hK.out _ rfl | exact hK.out _ rfl
          · cases hso
          · cases ho
            have e1 : s 1 = _ := hs 1 (by decide) rfl (by kernel_rfl)
            simp only [e1] at hK ⊢
            simp only [Act.put, List.setIfInBounds_toArray, List.set_cons_zero, List.set_cons_succ] at hK
            clear hs
            go_simp
            all_goals first | with_reducible exact hK.out _ rfl | exact hK.out _ rfl
          · cases ho
            have e13 : s 13 = _ := hs 13 (by decide) rfl (by kernel_rfl)
            simp only [e13] at hK ⊢
            simp only [Act.put, List.setIfInBounds_toArray, List.set_cons_zero, List.set_cons_succ] at hK
            clear hs
            go_simp
            all_goals first | with_reducible exact hK.out _ rfl | exact hK.out _ rfl
          · cases hso
        case hst_wk =>
          intro i o b q d hi ho hso s hs W hb K hK
          rcases (show i = 0 ∨ i = 1 ∨ i = 2 ∨ i = 3 ∨ i = 4 ∨ i = 5 ∨ i = 6 ∨ i = 7 ∨ i = 8 ∨ i = 9 ∨ i = 10 ∨ i = 11 ∨ i = 12 ∨ i = 13 ∨ i = 14 ∨ i = 15 by omega) with rfl | rfl | rfl | rfl | rfl | rfl | rfl | rfl | rfl | rfl | rfl | rfl | rfl | rfl | rfl | rfl
          · cases hso
          · cases hso
          · cases hso
          · cases hso
          · cases hso
          · cases hso
          · cases hso
          · cases hso
          · cases hso
          · cases hso
          · cases hso
          · cases hso
          · cases ho
            cases hso
            have e5 : s 5 = _ := hs 5 (by decide) rfl (by kernel_rfl)
            have e11 : s 11 = _ := hs 11 (by decide) rfl (by kernel_rfl)
            simp only [e5, e11] at hK ⊢
            have hth := there_sub (o := k * 6 + 5) (n := 1) (hb.thr _ _ _ hgt8) (by omega)
            have hc1 := (hth 0 (by decide)).1
            have hf1 := (hth 0 (by decide)).2
            rw [Nat.add_zero] at hc1 hf1
            obtain ⟨u1, hu1⟩ := Option.isSome_iff_exists.1 hc1
            go_simp
            exact hK.out _ (.inr rfl) rfl hth
          · cases hso
          · cases hso
          · cases ho
            cases hso
            have e9 : s 9 = _ := hs 9 (by decide) rfl (by kernel_rfl)
            have e14 : s 14 = _ := hs 14 (by decide) rfl (by kernel_rfl)
            simp only [e9, e14] at hK ⊢
            have hth := there_sub (o := k * 6 + 4) (n := 1) (hb.thr _ _ _ hgt8) (by omega)
            have hc1 := (hth 0 (by decide)).1
            have hf1 := (hth 0 (by decide)).2
            rw [Nat.add_zero] at hc1 hf1
            obtain ⟨u1, hu1⟩ := Option.isSome_iff_exists.1 hc1
            go_simp
            exact hK.out _ (.inr rfl) rfl hth
        case ht_wk =>
          intro s hs W2 hfx hout hin
          have e0 : s 0 = _ := hs 0 (by decide) rfl
          have e1 : s 1 = _ := hs 1 (by decide) rfl
          have e2 : s 2 = _ := hs 2 (by decide) rfl
          have e3 : s 3 = _ := hs 3 (by decide) rfl
          have e4 : s 4 = _ := hs 4 (by decide) rfl
          have e5 : s 5 = _ := hs 5 (by decide) rfl
          have e6 : s 6 = _ := hs 6 (by decide) rfl
          have e7 : s 7 = _ := hs 7 (by decide) rfl
          have e8 : s 8 = _ := hs 8 (by decide) rfl
          have e9 : s 9 = _ := hs 9 (by decide) rfl
          have e10 : s 10 = _ := hs 10 (by decide) rfl
          have e11 : s 11 = _ := hs 11 (by decide) rfl
          have e13 : s 13 = _ := hs 13 (by decide) rfl
          have e14 : s 14 = _ := hs 14 (by decide) rfl
          simp only [e0, e1, e2, e3, e4, e5, e6, e7, e8, e9, e10, e11, e13, e14]
          obtain ⟨cs1, g1, g2, g3⟩ := hin 12 _ _ _ rfl
          obtain ⟨cs2, g4, g5, g6⟩ := hin 15 _ _ _ rfl
          rw [e5] at g1
          rw [e9] at g4
          have i1 : cs1 = [.float .f64 (kpF (Q (2 * k)).r11)] := by rcases g1 with g1 | g1; (cases g1); exact g1
          have i2 : cs2 = [.float .f64 (kpF (Q (2 * k + 1)).r11)] := by rcases g4 with g4 | g4; (cases g4); exact g4
          subst i1 i2
          have c5 := g3 0 _ rfl
          have c4 := g6 0 _ rfl
          rw [Nat.add_zero] at c5 c4
          clear hs hin g1 g2 g4 g5 g3 g6 e0 e1 e2 e3 e4 e5 e6 e7 e8 e9 e10 e11 e13 e14
          have hP9 := pts_put (Q := Q) hkp hPg8 c5 c4 (fun q n1 n2 => hout g q hgl8 (by rintro ⟨j, o, d, h1, h2, h3, h4⟩; dsimp only at h1 h4; split at h1 <;> cases h1; exact n1 (by have h5 : q < k * 6 + 5 + 1 := h4; omega); exact n2 (by have h5 : q < k * 6 + 4 + 1 := h4; omega)))
          repeat (first | go_values | go_skip | go_guarded | go_step | go_upon | go_back | dsimp only)
          exact ⟨⟨k + 1, by omega, by go_num, hfx.bel hB8 (by simp only [List.mem_singleton]; rintro _ rfl; omega), hfx.rng (by simp only [List.mem_singleton]; omega) hT8, hfx.thr _ _ _ hU8, hP9, hfx.thr _ _ _ hgt8, Nat.lt_of_lt_of_le hs8 hfx.size⟩, by simp [intOf]; omega⟩
    · have hkn : k = mN T pn := by omega
      subst hkn
      repeat (first | ((with_reducible show Oper.wp _ { dst := some 63, op := Op.load 29 _, type := _, pos := _, after := _, guard := _ } _ _ _ _); refine wp_load_mid (P := Try.prog) 29 _ rfl _ _ rfl [.int .i64 T.ta, .int .i64 T.tp, .int .i64 T.tb, .int .i64 T.tq, .bool T.ts, .float .f64 T.tx, .float .f64 T.ty, (.slice (some ⟨g, 0, none⟩) pn cap)] _ hTr Try.underlying29 rfl (by kernel_rfl) ?_; (try simp only [go_sem])) | ((with_reducible show Oper.wp _ { dst := _, op := Op.store 29 _ _, type := _, pos := _, after := _, guard := _ } _ _ _ _); refine wp_store_mid (P := Try.prog) 29 _ _ rfl (w.heap.size + 1) (0) #[.int .i64 T.ta, .int .i64 T.tp, .int .i64 T.tb, .int .i64 T.tq, .bool T.ts, .float .f64 T.tx, .float .f64 T.ty, (.slice (some ⟨g, 0, none⟩) pn cap)] rfl rfl hUr (by kernel_rfl) (by kernel_rfl) ?_; (try simp only [go_sem])) | go_values | go_skip | go_guarded | go_step | go_upon | go_back | dsimp only)
      refine bodyPost_ret (results_ct (c := 4) (r := 5) (ty := 29) rfl rfl (run_loadVar_mid _ (w.heap.size + 1) 0 29 [.int .i64 T.ta, .int .i64 T.tp, .int .i64 T.tb, .int .i64 T.tq, .bool T.ts, .float .f64 T.tx, .float .f64 T.ty, (.slice (some ⟨g, 0, none⟩) pn cap)] _ (World.rangeAt_setCells_same _ _ _ _ hUr) Try.underlying29 rfl (by kernel_rfl)) rfl) rfl ?_
      exact ⟨g, cap, hgc, hcm, by omega, fun i hi => World.rangeAt_setCells_apart (hPr i hi) _ _ _ (.inl (by omega)), World.there_setCells hgtr _ _ _, rfl, bel_setsJ _ _ hB (by omega)⟩

end Go.Proofs.Ytfohggiehbplkaa
