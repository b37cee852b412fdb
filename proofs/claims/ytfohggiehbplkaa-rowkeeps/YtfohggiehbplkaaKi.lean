/-
  What each function of package poly answers, and what the reference of its chapter answers: one contract a function, for every float: the answer stands in the relation of its formula to what was given; of the memory that was there nothing has turned.
-/
import Derived.Test.YtfohggiehbplkaaVec
import Derived.Test.YtfohggiehbplkaaKh
import Derived.Below
import Derived.WalkKit
import Derived.WalkLawsBesides
import Derived.WalkSpells
import Derived.ProofKit
import Derived.OpenShut
import Derived.Deep.RegionHeld3
namespace Go.Proofs.Ytfohggiehbplkaa
open Go.ChangeShapes Go.WideShapes Go.ChangeAt Go.RowKit
set_option linter.unusedVariables false
set_option linter.unusedSimpArgs false


set_option maxRecDepth 100000 in
set_option maxHeartbeats 4000000 in
theorem rkeep_ok_false (T : TD) (pb po pn pc_ : Nat) (ps : Option Addr) (P : Nat → PD) (rb ro rn rc_ : Nat) (rs : Option Addr) (Q : Nat → RD) (w : World) (hps : pn = 0 ∨ ps = some ⟨pb, po, none⟩) (hpc : pn ≤ pc_) (hpm : pc_ ≤ maxLen) (hp : Pts w pb po pn P) (op : ∀ i, i < pn → pok (P i)) (oT : okK .f64 T.tx ∧ okK .f64 T.ty) (hrs : rn = 0 ∨ rs = some ⟨rb, ro, none⟩) (hrc : rn ≤ rc_) (hrm : rc_ ≤ maxLen) (hr : Rws w rb ro rn Q) (he : ckE T pn P = 0) (hts : Hid (T.ts = false)) (hne : rn = rwN T pn) : Calls Try.prog 12 #[.agg #[.int .i64 T.ta, .int .i64 T.tp, .int .i64 T.tb, .int .i64 T.tq, .bool T.ts, .float .f64 T.tx, .float .f64 T.ty, .slice ps pn pc_], .slice rs rn rc_] w fun e w' => ∃ g cap, pn ≤ cap ∧ cap ≤ maxLen ∧ w.heap.size ≤ g ∧ Pts w' g 0 pn (kpP P Q (mN T pn)) ∧ w'.there g 0 (pn * 6) ∧ e = .returned (.tuple #[.agg #[.int .i64 T.ta, .int .i64 T.tp, .int .i64 T.tb, .int .i64 T.tq, .bool T.ts, .float .f64 T.tx, .float .f64 T.ty, .slice (some ⟨g, 0, none⟩) pn cap], .int .i64 0]) ∧ Bel w w' := by
  have hpm9 := hpm
  have hrm9 := hrm
  unfold maxLen at hpm hrm
  have hz0 : ((w.alloc (.cells #[.int .i64 T.ta, .int .i64 T.tp, .int .i64 T.tb, .int .i64 T.tq, .bool T.ts, .float .f64 T.tx, .float .f64 T.ty, .slice ps pn pc_] 29)).alloc (.cells #[.int .i64 0, .int .i64 0, .int .i64 0, .int .i64 0, .bool false, .float .f64 0, .float .f64 0, .slice none 0 0] 29)).heap.size = w.heap.size + 1 + 1 := by simp only [World.size_alloc]
  have hT : ((w.alloc (.cells #[.int .i64 T.ta, .int .i64 T.tp, .int .i64 T.tb, .int .i64 T.tq, .bool T.ts, .float .f64 T.tx, .float .f64 T.ty, .slice ps pn pc_] 29)).alloc (.cells #[.int .i64 0, .int .i64 0, .int .i64 0, .int .i64 0, .bool false, .float .f64 0, .float .f64 0, .slice none 0 0] 29)).rangeAt (w.heap.size) 0 [.int .i64 T.ta, .int .i64 T.tp, .int .i64 T.tb, .int .i64 T.tq, .bool T.ts, .float .f64 T.tx, .float .f64 T.ty, .slice ps pn pc_] := World.rangeAt_alloc (rng_new w [.int .i64 T.ta, .int .i64 T.tp, .int .i64 T.tb, .int .i64 T.tq, .bool T.ts, .float .f64 T.tx, .float .f64 T.ty, .slice ps pn pc_] 29) _
  have hTt : ((w.alloc (.cells #[.int .i64 T.ta, .int .i64 T.tp, .int .i64 T.tb, .int .i64 T.tq, .bool T.ts, .float .f64 T.tx, .float .f64 T.ty, .slice ps pn pc_] 29)).alloc (.cells #[.int .i64 0, .int .i64 0, .int .i64 0, .int .i64 0, .bool false, .float .f64 0, .float .f64 0, .slice none 0 0] 29)).there (w.heap.size) 0 8 := World.there_alloc (there_new w [.int .i64 T.ta, .int .i64 T.tp, .int .i64 T.tb, .int .i64 T.tq, .bool T.ts, .float .f64 T.tx, .float .f64 T.ty, .slice ps pn pc_] 29) _
  have hU : ((w.alloc (.cells #[.int .i64 T.ta, .int .i64 T.tp, .int .i64 T.tb, .int .i64 T.tq, .bool T.ts, .float .f64 T.tx, .float .f64 T.ty, .slice ps pn pc_] 29)).alloc (.cells #[.int .i64 0, .int .i64 0, .int .i64 0, .int .i64 0, .bool false, .float .f64 0, .float .f64 0, .slice none 0 0] 29)).there (w.heap.size + 1) 0 8 := by have h := there_new (w.alloc (.cells #[.int .i64 T.ta, .int .i64 T.tp, .int .i64 T.tb, .int .i64 T.tq, .bool T.ts, .float .f64 T.tx, .float .f64 T.ty, .slice ps pn pc_] 29)) [.int .i64 0, .int .i64 0, .int .i64 0, .int .i64 0, .bool false, .float .f64 0, .float .f64 0, .slice none 0 0] 29; rwa [World.size_alloc] at h
  have BB : Bel w ((w.alloc (.cells #[.int .i64 T.ta, .int .i64 T.tp, .int .i64 T.tb, .int .i64 T.tq, .bool T.ts, .float .f64 T.tx, .float .f64 T.ty, .slice ps pn pc_] 29)).alloc (.cells #[.int .i64 0, .int .i64 0, .int .i64 0, .int .i64 0, .bool false, .float .f64 0, .float .f64 0, .slice none 0 0] 29)) := bl_alloc (bl_alloc (bl_refl w) _ _) _ _
  have hn8 := (ck_eight he).2
  have hn1 := (ck_eight he).1
  have hm2 := rw_mN T pn
  have hml := mN_le T pn
  have hneI : ((rn : Int) != 2 * (pn : Int)) = false := by have e := unhide hts; unfold rwN at hne; rw [e] at hne; simp at hne ⊢; omega
  have hqI : (2 * (pn : Int)).tdiv 2 = ((mN T pn : Nat) : Int) := by have e := unhide hts; unfold mN; rw [e]; first | rfl | exact Int.mul_tdiv_cancel_left _ (by decide)
  have hw1 : IntKind.i64.wrap (2 * (pn : Int)) = 2 * (pn : Int) := by rw [IntKind.wrap_i64]; omega
  have hne9 := hide hne
  have hm9 := hide hm2
  clear hne hm2
  go_enter Try.func12, Try.ntmps12
  repeat (first | ((with_reducible show Oper.wp _ { dst := some 10, op := Op.load 29 _, type := _, pos := _, after := _, guard := _ } _ _ _ _); refine wp_load_mid (P := Try.prog) 29 _ rfl _ _ rfl [.int .i64 T.ta, .int .i64 T.tp, .int .i64 T.tb, .int .i64 T.tq, .bool T.ts, .float .f64 T.tx, .float .f64 T.ty, .slice ps pn pc_] _ hT Try.underlying29 rfl (by kernel_rfl) ?_; (try simp only [go_sem])) | (go_at_call 51; (with_reducible refine (rCheck_w T pb po pn pc_ ps P _ hps hpc hpm9 (hp.bel BB) op oT).mono ?_); rintro e w1 ⟨rfl, hb1⟩; rw [he]; replace hT := rng_bel hT hb1; replace hTt := bel_there hTt hb1; replace hU := bel_there hU hb1; have hzhb1 := hb1.size; replace BB := bl_trans BB hb1; have kS := hT 7 _ rfl; rw [Nat.zero_add] at kS; have k4 := hT 4 _ rfl; rw [Nat.zero_add, unhide hts] at k4) | ((with_reducible show Oper.wp _ { dst := some 27, op := Op.load 29 _, type := _, pos := _, after := _, guard := _ } _ _ _ _); refine wp_load_mid (P := Try.prog) 29 _ rfl _ _ rfl [.int .i64 T.ta, .int .i64 T.tp, .int .i64 T.tb, .int .i64 T.tq, .bool T.ts, .float .f64 T.tx, .float .f64 T.ty, .slice ps pn pc_] _ hT Try.underlying29 rfl (by kernel_rfl) ?_; (try simp only [go_sem])) | (go_at_call 52; (with_reducible refine (twin_w T pb po pn pc_ ps P _ hps hpc hpm9 (hp.bel BB) op (by omega) (by omega)).mono ?_); rintro e w5 ⟨g, cap, hgc, hcm, hgw, hgl, hPg, hgt, rfl, hb5⟩; replace hT := rng_bel hT hb5; replace hTt := bel_there hTt hb5; replace hU := bel_there hU hb5; have hzhb5 := hb5.size; replace BB := bl_trans BB hb5; have hX : (w5.alloc (.cells #[.int .i64 0, .int .i64 0, .int .i64 0, .int .i64 0, .bool false, .float .f64 0, .float .f64 0, .slice none 0 0] 29)).there w5.heap.size 0 8 := there_new w5 [.int .i64 0, .int .i64 0, .int .i64 0, .int .i64 0, .bool false, .float .f64 0, .float .f64 0, .slice none 0 0] 29) | ((with_reducible show Oper.wp _ { dst := _, op := Op.store 29 _ _, type := _, pos := _, after := _, guard := _ } _ _ _ _); refine wp_store_mid (P := Try.prog) 29 _ _ rfl (w5.heap.size) (0) #[.int .i64 T.ta, .int .i64 T.tp, .int .i64 T.tb, .int .i64 T.tq, .bool T.ts, .float .f64 T.tx, .float .f64 T.ty, (.slice (some ⟨g, 0, none⟩) pn cap)] rfl rfl hX (by kernel_rfl) (by kernel_rfl) ?_; (try simp only [go_sem])) | go_values | go_skip | go_guarded | go_step | go_upon | go_back | dsimp only)
  have hT4 : ((w5.alloc (.cells #[.int .i64 0, .int .i64 0, .int .i64 0, .int .i64 0, .bool false, .float .f64 0, .float .f64 0, .slice none 0 0] 29)).setCells w5.heap.size 0 [.int .i64 T.ta, .int .i64 T.tp, .int .i64 T.tb, .int .i64 T.tq, .bool T.ts, .float .f64 T.tx, .float .f64 T.ty, (.slice (some ⟨g, 0, none⟩) pn cap)]).rangeAt w5.heap.size 0 [.int .i64 T.ta, .int .i64 T.tp, .int .i64 T.tb, .int .i64 T.tq, .bool T.ts, .float .f64 T.tx, .float .f64 T.ty, (.slice (some ⟨g, 0, none⟩) pn cap)] := World.rangeAt_setCells_same _ _ _ _ hX
  have hB5 : Bel w5 ((w5.alloc (.cells #[.int .i64 0, .int .i64 0, .int .i64 0, .int .i64 0, .bool false, .float .f64 0, .float .f64 0, .slice none 0 0] 29)).setCells w5.heap.size 0 [.int .i64 T.ta, .int .i64 T.tp, .int .i64 T.tb, .int .i64 T.tq, .bool T.ts, .float .f64 T.tx, .float .f64 T.ty, (.slice (some ⟨g, 0, none⟩) pn cap)]) := bel_setsJ _ _ (bl_alloc (bl_refl _) _ _) (Nat.le_refl _)
  have hU4 : ((w5.alloc (.cells #[.int .i64 0, .int .i64 0, .int .i64 0, .int .i64 0, .bool false, .float .f64 0, .float .f64 0, .slice none 0 0] 29)).setCells w5.heap.size 0 [.int .i64 T.ta, .int .i64 T.tp, .int .i64 T.tb, .int .i64 T.tq, .bool T.ts, .float .f64 T.tx, .float .f64 T.ty, (.slice (some ⟨g, 0, none⟩) pn cap)]).there (w.heap.size + 1) 0 8 := bel_there hU hB5
  have hP4 : Pts ((w5.alloc (.cells #[.int .i64 0, .int .i64 0, .int .i64 0, .int .i64 0, .bool false, .float .f64 0, .float .f64 0, .slice none 0 0] 29)).setCells w5.heap.size 0 [.int .i64 T.ta, .int .i64 T.tp, .int .i64 T.tb, .int .i64 T.tq, .bool T.ts, .float .f64 T.tx, .float .f64 T.ty, (.slice (some ⟨g, 0, none⟩) pn cap)]) g 0 pn (kpP P Q 0) := by rw [kpP_zero]; exact hPg.bel hB5
  have hg4 : ((w5.alloc (.cells #[.int .i64 0, .int .i64 0, .int .i64 0, .int .i64 0, .bool false, .float .f64 0, .float .f64 0, .slice none 0 0] 29)).setCells w5.heap.size 0 [.int .i64 T.ta, .int .i64 T.tp, .int .i64 T.tb, .int .i64 T.tq, .bool T.ts, .float .f64 T.tx, .float .f64 T.ty, (.slice (some ⟨g, 0, none⟩) pn cap)]).there g 0 (pn * 6) := bel_there hgt hB5
  have hB4 : Bel w ((w5.alloc (.cells #[.int .i64 0, .int .i64 0, .int .i64 0, .int .i64 0, .bool false, .float .f64 0, .float .f64 0, .slice none 0 0] 29)).setCells w5.heap.size 0 [.int .i64 T.ta, .int .i64 T.tp, .int .i64 T.tb, .int .i64 T.tq, .bool T.ts, .float .f64 T.tx, .float .f64 T.ty, (.slice (some ⟨g, 0, none⟩) pn cap)]) := bl_trans BB hB5
  have hs4 : w.heap.size + 1 < ((w5.alloc (.cells #[.int .i64 0, .int .i64 0, .int .i64 0, .int .i64 0, .bool false, .float .f64 0, .float .f64 0, .slice none 0 0] 29)).setCells w5.heap.size 0 [.int .i64 T.ta, .int .i64 T.tp, .int .i64 T.tb, .int .i64 T.tq, .bool T.ts, .float .f64 T.tx, .float .f64 T.ty, (.slice (some ⟨g, 0, none⟩) pn cap)]).heap.size := Nat.lt_of_lt_of_le (by omega) hB5.size
  have hgH : w.heap.size + 1 < g := by omega
  clear hT hTt hU hPg hgt kS k4 BB
  generalize hbx : w5.heap.size = bx at hT4 hgl hU4 hP4 hg4 hB4 hs4 ⊢
  clear hX
  go_loopw [9] (fun i wr => ∃ k : Nat, k ≤ mN T pn ∧ i = .int .i64 k ∧ Bel w wr ∧ wr.rangeAt bx 0 [.int .i64 T.ta, .int .i64 T.tp, .int .i64 T.tb, .int .i64 T.tq, .bool T.ts, .float .f64 T.tx, .float .f64 T.ty, (.slice (some ⟨g, 0, none⟩) pn cap)] ∧ wr.there (w.heap.size + 1) 0 8 ∧ Pts wr g 0 pn (kpP P Q k) ∧ wr.there g 0 (pn * 6) ∧ w.heap.size + 1 < wr.heap.size) (fun i _ => mN T pn - (intOf i).toNat)
  case atStart => exact ⟨0, by omega, rfl, hB4, hT4, hU4, hP4, hg4, hs4⟩
  case round =>
    obtain ⟨k, hk, rfl, hB, hTr, hUr, hPr, hgtr, hsr⟩ := hrel
    clear hT4 hU4 hP4 hg4 hB4 hs4
    by_cases hlt : k < mN T pn
    · have e9 : rs = some ⟨rb, ro, none⟩ := by rcases hrs with h | h; (exact absurd h (by have u1 := unhide hne9; have u2 := unhide hm9; omega)); exact h
      subst e9
      have hkI : (k : Int) < ((mN T pn : Nat) : Int) := by omega
      have hkp : k < pn := by omega
      have hkpI : (k : Int) < (pn : Int) := by omega
      have hkcI : (k : Int) < (cap : Int) := by omega
      have hrb : rb < w.heap.size := World.block_lt_of_cell? w _ (hr 0 (by have u1 := unhide hne9; have u2 := unhide hm9; omega) 0 _ rfl)
      have hgl9 : g < wr.heap.size := hPr.lt (by omega)
      have kB : wr.cell? ⟨bx, 7, none⟩ = some (.slice (some ⟨g, 0, none⟩) pn cap) := by have h := hTr 7 _ rfl; rwa [Nat.zero_add] at h
      have kq0 : wr.cell? ⟨rb, ro + (2 * k) * 14 + 11, none⟩ = some (.float .f64 (Q (2 * k)).r11) := ((hr.bel hB) (2 * k) (by have u1 := unhide hne9; have u2 := unhide hm9; omega)) 11 _ rfl
      have kq1 : wr.cell? ⟨rb, ro + (2 * k + 1) * 14 + 11, none⟩ = some (.float .f64 (Q (2 * k + 1)).r11) := ((hr.bel hB) (2 * k + 1) (by have u1 := unhide hne9; have u2 := unhide hm9; omega)) 11 _ rfl
      have h2I : 2 * (k : Int) < (rn : Int) := by have u1 := unhide hne9; have u2 := unhide hm9; omega
      have h2C : 2 * (k : Int) < (rc_ : Int) := by have u1 := unhide hne9; have u2 := unhide hm9; omega
      have h3I : 2 * (k : Int) + 1 < (rn : Int) := by have u1 := unhide hne9; have u2 := unhide hm9; omega
      have h3C : 2 * (k : Int) + 1 < (rc_ : Int) := by have u1 := unhide hne9; have u2 := unhide hm9; omega
      have hw2 : IntKind.i64.wrap (2 * (k : Int)) = 2 * (k : Int) := by rw [IntKind.wrap_i64]; omega
      have hw3 : IntKind.i64.wrap (2 * (k : Int) + 1) = 2 * (k : Int) + 1 := by rw [IntKind.wrap_i64]; omega
      repeat (first | go_values | go_skip | go_guarded | go_step | go_upon | go_back | dsimp only)
      refine wp_region_knot 13 rfl (fun i v => match i with | 0 => v = .pointer (some ⟨bx, 7, none⟩) | 1 => v = (.slice (some ⟨g, 0, none⟩) pn cap) | 2 => v = .int .i64 (k : Int) | 3 => v = .slice (some ⟨rb, ro, none⟩) rn rc_ | 4 => v = .int .i64 (k : Int) | 5 => v = .int .i64 (2 * (k : Int)) | 6 => v = .pointer (some ⟨rb, ro + (2 * k) * 14, none⟩) | 7 => v = .pointer (some ⟨rb, ro + (2 * k) * 14 + 11, none⟩) | 8 => v = .float .f64 (Q (2 * k)).r11 | 9 => v = .float .f64 (kpF (Q (2 * k)).r11) | 10 => v = .pointer (some ⟨g, k * 6, none⟩) | 11 => v = .pointer (some ⟨g, k * 6 + 5, none⟩) | _ => False) (fun i => match i with | 1 => true | 8 => true | 9 => true | _ => false) (fun i => match i with | 12 => some (g, k * 6 + 5, 9) | _ => none) (fun i => match i with | 12 => 1 | _ => 0) [g] 6 ?A_wk (by kernel_rfl) (by kernel_rfl) ?hA_wk ?hpre_wk ?hdep_wk ?hne_wk ?hq_wk ?hp_wk ?hst_wk ?ht_wk
      case hA_wk =>
        intro s
        simp only [putL, dstO, Act.put, List.getElem?_toArray, List.getElem?_cons_zero, List.getElem?_cons_succ, Option.bind_some, List.setIfInBounds_toArray, List.set_cons_zero, List.set_cons_succ, if_true]
        all_goals exact rfl
      case hpre_wk =>
        intro i j b o d hi hr hso
        have hj : j = 12 := by
          split at hso
          all_goals first | omega | (cases hso; done)
        rcases (show i = 0 ∨ i = 1 ∨ i = 2 ∨ i = 3 ∨ i = 4 ∨ i = 5 ∨ i = 6 ∨ i = 7 ∨ i = 8 ∨ i = 9 ∨ i = 10 ∨ i = 11 ∨ i = 12 by omega) with rfl | rfl | rfl | rfl | rfl | rfl | rfl | rfl | rfl | rfl | rfl | rfl | rfl
        all_goals first
          | (cases hr; done)
          | (rcases hj with rfl <;> (show rch _ _ _ _ = true) <;> kernel_rfl)
      case hdep_wk =>
        intro i b o d hso
        split at hso
        all_goals first | (cases hso; done) | (cases hso; exact ⟨by decide, rfl, by simp, by decide, rfl, by kernel_rfl⟩)
      case hne_wk =>
        intro i j b o d o' d' hij h1 h2
        split at h1
        all_goals (try (cases h1; done))
        all_goals split at h2
        all_goals (try (cases h2; done))
        all_goals (cases h1; cases h2; first | (exact absurd rfl hij) | (exact absurd rfl hne9) | (exact absurd rfl hne9.symm) | (simp only []; omega) | omega)
      case hq_wk =>
        intro i o hi ho hso hrd s hs W hb K hK
        have u0 := keep hb kB; have u1 := keep hb kq0
        rcases (show i = 0 ∨ i = 1 ∨ i = 2 ∨ i = 3 ∨ i = 4 ∨ i = 5 ∨ i = 6 ∨ i = 7 ∨ i = 8 ∨ i = 9 ∨ i = 10 ∨ i = 11 ∨ i = 12 by omega) with rfl | rfl | rfl | rfl | rfl | rfl | rfl | rfl | rfl | rfl | rfl | rfl | rfl
        · cases hrd
        · cases ho
          have e0 : s 0 = _ := hs 0 (by decide) rfl (by kernel_rfl)
          simp only [e0] at hK ⊢
          simp only [Act.put, List.setIfInBounds_toArray, List.set_cons_zero, List.set_cons_succ] at hK
          clear hs
          go_simp
          all_goals first | with_reducible exact hK.out _ _ rfl (bl_refl _) | exact hK.out _ _ rfl (bl_refl _)
        · cases hrd
        · cases hrd
        · cases hrd
        · cases hrd
        · cases hrd
        · cases hrd
        · cases ho
          have e7 : s 7 = _ := hs 7 (by decide) rfl (by kernel_rfl)
          simp only [e7] at hK ⊢
          simp only [Act.put, List.setIfInBounds_toArray, List.set_cons_zero, List.set_cons_succ] at hK
          clear hs
          go_simp
          all_goals first | with_reducible exact hK.out _ _ rfl (bl_refl _) | exact hK.out _ _ rfl (bl_refl _)
        · cases ho
          have e8 : s 8 = _ := hs 8 (by decide) rfl (by kernel_rfl)
          simp only [e8] at hK ⊢
          simp only [Act.put, List.setIfInBounds_toArray, List.set_cons_zero, List.set_cons_succ] at hK
          clear hs
          go_simp
          all_goals (try go_wp2_with (first | (go_at_call 53; (with_reducible refine (real_w _ _).mono ?_); rintro e w' ⟨rfl, rfl⟩)))
          all_goals first | with_reducible exact hK.out _ _ rfl (bl_refl _) | exact hK.out _ _ rfl (bl_refl _)
        · cases hrd
        · cases hrd
        · cases hso
      case hp_wk =>
        intro i o hi ho hso hrd s hs W K hK
        rcases (show i = 0 ∨ i = 1 ∨ i = 2 ∨ i = 3 ∨ i = 4 ∨ i = 5 ∨ i = 6 ∨ i = 7 ∨ i = 8 ∨ i = 9 ∨ i = 10 ∨ i = 11 ∨ i = 12 by omega) with rfl | rfl | rfl | rfl | rfl | rfl | rfl | rfl | rfl | rfl | rfl | rfl | rfl
        · cases ho
          simp only [Act.put, List.setIfInBounds_toArray, List.set_cons_zero, List.set_cons_succ] at hK
          clear hs
          go_simp
          all_goals first | with_reducible exact hK.out _ rfl | exact hK.out _ rfl
        · cases hrd
        · cases ho
          simp only [Act.put, List.setIfInBounds_toArray, List.set_cons_zero, List.set_cons_succ] at hK
          clear hs
          go_simp
          all_goals first | with_reducible exact hK.out _ rfl | exact hK.out _ rfl
        · cases ho
          simp only [Act.put, List.setIfInBounds_toArray, List.set_cons_zero, List.set_cons_succ] at hK
          clear hs
          go_simp
          all_goals first | with_reducible exact hK.out _ rfl | exact hK.out _ rfl
        · cases ho
          simp only [Act.put, List.setIfInBounds_toArray, List.set_cons_zero, List.set_cons_succ] at hK
          clear hs
          go_simp
          all_goals first | with_reducible exact hK.out _ rfl | exact hK.out _ rfl
        · cases ho
          have e4 : s 4 = _ := hs 4 (by decide) rfl (by kernel_rfl)
          simp only [e4] at hK ⊢
          simp only [Act.put, List.setIfInBounds_toArray, List.set_cons_zero, List.set_cons_succ] at hK
          clear hs
          go_simp
          all_goals first | with_reducible exact hK.out _ rfl | exact hK.out _ rfl
        · cases ho
          have e3 : s 3 = _ := hs 3 (by decide) rfl (by kernel_rfl)
          have e5 : s 5 = _ := hs 5 (by decide) rfl (by kernel_rfl)
          simp only [e3, e5] at hK ⊢
          simp only [Act.put, List.setIfInBounds_toArray, List.set_cons_zero, List.set_cons_succ] at hK
          clear hs
          go_simp
          all_goals first | with_reducible exact hK.out _ rfl | exact hK.out _ rfl
        · cases ho
          have e6 : s 6 = _ := hs 6 (by decide) rfl (by kernel_rfl)
          simp only [e6] at hK ⊢
          simp only [Act.put, List.setIfInBounds_toArray, List.set_cons_zero, List.set_cons_succ] at hK
          clear hs
          go_simp
          all_goals first | with_reducible exact hK.out _ rfl | exact hK.out _ rfl
        · cases hrd
        · cases hrd
        · cases ho
          have e1 : s 1 = _ := hs 1 (by decide) rfl (by kernel_rfl)
          have e2 : s 2 = _ := hs 2 (by decide) rfl (by kernel_rfl)
          simp only [e1, e2] at hK ⊢
          simp only [Act.put, List.setIfInBounds_toArray, List.set_cons_zero, List.set_cons_succ] at hK
          clear hs
          go_simp
          all_goals first | with_reducible exact hK.out _ rfl | exact hK.out _ rfl
        · cases ho
          have e10 : s 10 = _ := hs 10 (by decide) rfl (by kernel_rfl)
          simp only [e10] at hK ⊢
          simp only [Act.put, List.setIfInBounds_toArray, List.set_cons_zero, List.set_cons_succ] at hK
          clear hs
          go_simp
          all_goals first | with_reducible exact hK.out _ rfl | exact hK.out _ rfl
        · cases hso
      case hst_wk =>
        intro i o b q d hi ho hso s hs W hb K hK
        rcases (show i = 0 ∨ i = 1 ∨ i = 2 ∨ i = 3 ∨ i = 4 ∨ i = 5 ∨ i = 6 ∨ i = 7 ∨ i = 8 ∨ i = 9 ∨ i = 10 ∨ i = 11 ∨ i = 12 by omega) with rfl | rfl | rfl | rfl | rfl | rfl | rfl | rfl | rfl | rfl | rfl | rfl | rfl
        · cases hso
        · cases hso
        · cases hso
        · cases hso
        · cases hso
        · cases hso
        · cases hso
        · cases hso
        · cases hso
        · cases hso
        · cases hso
        · cases hso
        · cases ho
          cases hso
          have e9 : s 9 = _ := hs 9 (by decide) rfl (by kernel_rfl)
          have e11 : s 11 = _ := hs 11 (by decide) rfl (by kernel_rfl)
          simp only [e9, e11] at hK ⊢
          have hth := there_sub (o := k * 6 + 5) (n := 1) (hb.thr _ _ _ hgtr) (by omega)
          have hc1 := (hth 0 (by decide)).1
          have hf1 := (hth 0 (by decide)).2
          rw [Nat.add_zero] at hc1 hf1
          obtain ⟨u1, hu1⟩ := Option.isSome_iff_exists.1 hc1
          go_simp
          exact hK.out _ (.inr rfl) rfl hth
      case ht_wk =>
        intro s hs Wa hfx hout hin
        have e0 : s 0 = _ := hs 0 (by decide) rfl
        have e1 : s 1 = _ := hs 1 (by decide) rfl
        have e2 : s 2 = _ := hs 2 (by decide) rfl
        have e3 : s 3 = _ := hs 3 (by decide) rfl
        have e4 : s 4 = _ := hs 4 (by decide) rfl
        have e5 : s 5 = _ := hs 5 (by decide) rfl
        have e6 : s 6 = _ := hs 6 (by decide) rfl
        have e7 : s 7 = _ := hs 7 (by decide) rfl
        have e8 : s 8 = _ := hs 8 (by decide) rfl
        have e9 : s 9 = _ := hs 9 (by decide) rfl
        have e10 : s 10 = _ := hs 10 (by decide) rfl
        have e11 : s 11 = _ := hs 11 (by decide) rfl
        simp only [e0, e1, e2, e3, e4, e5, e6, e7, e8, e9, e10, e11]
        obtain ⟨cs1, g1, g2, g3⟩ := hin 12 _ _ _ rfl
        rw [e9] at g1
        have i1 : cs1 = [.float .f64 (kpF (Q (2 * k)).r11)] := by rcases g1 with g1 | g1; (cases g1); exact g1
        subst i1
        have c5 := g3 0 _ rfl
        rw [Nat.add_zero] at c5
        clear hs hin g1 g2 g3 e0 e1 e2 e3 e4 e5 e6 e7 e8 e9 e10 e11
        have hfxA := hfx
        have houtA : ∀ q, q ≠ k * 6 + 5 → Wa.cell? ⟨g, q, none⟩ = wr.cell? ⟨g, q, none⟩ := fun q n1 => hout g q hgl9 (by rintro ⟨j, o, d, h1, h2, h3, h4⟩; dsimp only at h1 h4; split at h1 <;> cases h1; (have h5 : q < k * 6 + 5 + 1 := h4); omega)
        have kB9 := hfx.cell (by simp only [List.mem_singleton]; omega) kB
        have kq9 := hfx.cell (by simp only [List.mem_singleton]; omega) kq1
        have hgt9 := hfx.thr _ _ _ hgtr
        clear hfx hout
        repeat (first | go_values | go_skip | go_guarded | go_step | go_upon | go_back | dsimp only)
        refine wp_region_knot 14 rfl (fun i v => match i with | 0 => v = .pointer (some ⟨bx, 7, none⟩) | 1 => v = (.slice (some ⟨g, 0, none⟩) pn cap) | 2 => v = .int .i64 (k : Int) | 3 => v = .slice (some ⟨rb, ro, none⟩) rn rc_ | 4 => v = .int .i64 (k : Int) | 5 => v = .int .i64 (2 * (k : Int)) | 6 => v = .int .i64 (2 * (k : Int) + 1) | 7 => v = .pointer (some ⟨rb, ro + (2 * k + 1) * 14, none⟩) | 8 => v = .pointer (some ⟨rb, ro + (2 * k + 1) * 14 + 11, none⟩) | 9 => v = .float .f64 (Q (2 * k + 1)).r11 | 10 => v = .float .f64 (kpF (Q (2 * k + 1)).r11) | 11 => v = .pointer (some ⟨g, k * 6, none⟩) | 12 => v = .pointer (some ⟨g, k * 6 + 4, none⟩) | _ => False) (fun i => match i with | 1 => true | 9 => true | 10 => true | _ => false) (fun i => match i with | 13 => some (g, k * 6 + 4, 10) | _ => none) (fun i => match i with | 13 => 1 | _ => 0) [g] 6 ?A_wl (by kernel_rfl) (by kernel_rfl) ?hA_wl ?hpre_wl ?hdep_wl ?hne_wl ?hq_wl ?hp_wl ?hst_wl ?ht_wl
        case hA_wl =>
          intro s
          simp only [putL, dstO, Act.put, List.getElem?_toArray, List.getElem?_cons_zero, List.getElem?_cons_succ, Option.bind_some, List.setIfInBounds_toArray, List.set_cons_zero, List.set_cons_succ, if_true]
          all_goals exact rfl
        case hpre_wl =>
          intro i j b o d hi hr hso
          have hj : j = 13 := by
            split at hso
            all_goals first | omega | (cases hso; done)
          rcases (show i = 0 ∨ i = 1 ∨ i = 2 ∨ i = 3 ∨ i = 4 ∨ i = 5 ∨ i = 6 ∨ i = 7 ∨ i = 8 ∨ i = 9 ∨ i = 10 ∨ i = 11 ∨ i = 12 ∨ i = 13 by omega) with rfl | rfl | rfl | rfl | rfl | rfl | rfl | rfl | rfl | rfl | rfl | rfl | rfl | rfl
          all_goals first
            | (cases hr; done)
            | (rcases hj with rfl <;> (show rch _ _ _ _ = true) <;> kernel_rfl)
        case hdep_wl =>
          intro i b o d hso
          split at hso
          all_goals first | (cases hso; done) | (cases hso; exact ⟨by decide, rfl, by simp, by decide, rfl, by kernel_rfl⟩)
        case hne_wl =>
          intro i j b o d o' d' hij h1 h2
          split at h1
          all_goals (try (cases h1; done))
          all_goals split at h2
          all_goals (try (cases h2; done))
          all_goals (cases h1; cases h2; first | (exact absurd rfl hij) | (exact absurd rfl hne9) | (exact absurd rfl hne9.symm) | (simp only []; omega) | omega)
        case hq_wl =>
          intro i o hi ho hso hrd s hs W hb K hK
          have u0 := keep hb kB9; have u1 := keep hb kq9
          rcases (show i = 0 ∨ i = 1 ∨ i = 2 ∨ i = 3 ∨ i = 4 ∨ i = 5 ∨ i = 6 ∨ i = 7 ∨ i = 8 ∨ i = 9 ∨ i = 10 ∨ i = 11 ∨ i = 12 ∨ i = 13 by omega) with rfl | rfl | rfl | rfl | rfl | rfl | rfl | rfl | rfl | rfl | rfl | rfl | rfl | rfl
          · cases hrd
          · cases ho
            have e0 : s 0 = _ := hs 0 (by decide) rfl (by kernel_rfl)
            simp only [e0] at hK ⊢
            simp only [Act.put, List.setIfInBounds_toArray, List.set_cons_zero, List.set_cons_succ] at hK
            clear hs
            go_simp
            all_goals first | with_reducible exact hK.out _ _ rfl (bl_refl _) | exact hK.out _ _ rfl (bl_refl _)
          · cases hrd
          · cases hrd
          · cases hrd
          · cases hrd
          · cases hrd
          · cases hrd
          · cases hrd
          · cases ho
            have e8 : s 8 = _ := hs 8 (by decide) rfl (by kernel_rfl)
            simp only [e8] at hK ⊢
            simp only [Act.put, List.setIfInBounds_toArray, List.set_cons_zero, List.set_cons_succ] at hK
            clear hs
            go_simp
            all_goals first | with_reducible exact hK.out _ _ rfl (bl_refl _) | exact hK.out _ _ rfl (bl_refl _)
          · cases ho
            have e9 : s 9 = _ := hs 9 (by decide) rfl (by kernel_rfl)
            simp only [e9] at hK ⊢
            simp only [Act.put, List.setIfInBounds_toArray, List.set_cons_zero, List.set_cons_succ] at hK
            clear hs
            go_simp
            all_goals (try go_wp2_with (first | (go_at_call 53; (with_reducible refine (real_w _ _).mono ?_); rintro e w' ⟨rfl, rfl⟩)))
            all_goals first | with_reducible exact hK.out _ _ rfl (bl_refl _) | exact hK.out _ _ rfl (bl_refl _)
          · cases hrd
          · cases hrd
          · cases hso
        case hp_wl =>
          intro i o hi ho hso hrd s hs W K hK
          rcases (show i = 0 ∨ i = 1 ∨ i = 2 ∨ i = 3 ∨ i = 4 ∨ i = 5 ∨ i = 6 ∨ i = 7 ∨ i = 8 ∨ i = 9 ∨ i = 10 ∨ i = 11 ∨ i = 12 ∨ i = 13 by omega) with rfl | rfl | rfl | rfl | rfl | rfl | rfl | rfl | rfl | rfl | rfl | rfl | rfl | rfl
          · cases ho
            simp only [Act.put, List.setIfInBounds_toArray, List.set_cons_zero, List.set_cons_succ] at hK
            clear hs
            go_simp
            all_goals first | with_reducible exact hK.out _ rfl | exact hK.out _ rfl
          · cases hrd
          · cases ho
            simp only [Act.put, List.setIfInBounds_toArray, List.set_cons_zero, List.set_cons_succ] at hK
            clear hs
            go_simp
            all_goals first | with_reducible exact hK.out _ rfl | exact hK.out _ rfl
          · cases ho
            simp only [Act.put, List.setIfInBounds_toArray, List.set_cons_zero, List.set_cons_succ] at hK
            clear hs
            go_simp
            all_goals first | with_reducible exact hK.out _ rfl | exact hK.out _ rfl
          · cases ho
            simp only [Act.put, List.setIfInBounds_toArray, List.set_cons_zero, List.set_cons_succ] at hK
            clear hs
            go_simp
            all_goals first | with_reducible exact hK.out _ rfl | exact hK.out _ rfl
          · cases ho
            have e4 : s 4 = _ := hs 4 (by decide) rfl (by kernel_rfl)
            simp only [e4] at hK ⊢
            simp only [Act.put, List.setIfInBounds_toArray, List.set_cons_zero, List.set_cons_succ] at hK
            clear hs
            go_simp
            all_goals first | with_reducible exact hK.out _ rfl | exact hK.out _ rfl
          · cases ho
            have e5 : s 5 = _ := hs 5 (by decide) rfl (by kernel_rfl)
            simp only [e5] at hK ⊢
            simp only [Act.put, List.setIfInBounds_toArray, List.set_cons_zero, List.set_cons_succ] at hK
            clear hs
            go_simp
            all_goals first | with_reducible exact hK.out _ rfl | exact hK.out _ rfl
          · cases ho
            have e3 : s 3 = _ := hs 3 (by decide) rfl (by kernel_rfl)
            have e6 : s 6 = _ := hs 6 (by decide) rfl (by kernel_rfl)
            simp only [e3, e6] at hK ⊢
            simp only [Act.put, List.setIfInBounds_toArray, List.set_cons_zero, List.set_cons_succ] at hK
            clear hs
            go_simp
            all_goals first | with_reducible exact hK.out _ rfl | exact hK.out _ rfl
          · cases ho
            have e7 : s 7 = _ := hs 7 (by decide) rfl (by kernel_rfl)
            simp only [e7] at hK ⊢
            simp only [Act.put, List.setIfInBounds_toArray, List.set_cons_zero, List.set_cons_succ] at hK
            clear hs
            go_simp
            all_goals first | with_reducible exact hK.out _ rfl | exact hK.out _ rfl
          · cases hrd
          · cases hrd
          · cases ho
            have e1 : s 1 = _ := hs 1 (by decide) rfl (by kernel_rfl)
            have e2 : s 2 = _ := hs 2 (by decide) rfl (by kernel_rfl)
            simp only [e1, e2] at hK ⊢
            simp only [Act.put, List.setIfInBounds_toArray, List.set_cons_zero, List.set_cons_succ] at hK
            clear hs
            go_simp
            all_goals first | with_reducible exact hK.out _ rfl | exact hK.out _ rfl
          · cases ho
            have e11 : s 11 = _ := hs 11 (by decide) rfl (by kernel_rfl)
            simp only [e11] at hK ⊢
            simp only [Act.put, List.setIfInBounds_toArray, List.set_cons_zero, List.set_cons_succ] at hK
            clear hs
            go_simp
            all_goals first | with_reducible exact hK.out _ rfl | exact hK.out _ rfl
          · cases hso
        case hst_wl =>
          intro i o b q d hi ho hso s hs W hb K hK
          rcases (show i = 0 ∨ i = 1 ∨ i = 2 ∨ i = 3 ∨ i = 4 ∨ i = 5 ∨ i = 6 ∨ i = 7 ∨ i = 8 ∨ i = 9 ∨ i = 10 ∨ i = 11 ∨ i = 12 ∨ i = 13 by omega) with rfl | rfl | rfl | rfl | rfl | rfl | rfl | rfl | rfl | rfl | rfl | rfl | rfl | rfl
          · cases hso
          · cases hso
          · cases hso
          · cases hso
          · cases hso
          · cases hso
          · cases hso
          · cases hso
          · cases hso
          · cases hso
          · cases hso
          · cases hso
          · cases hso
          · cases ho
            cases hso
            have e10 : s 10 = _ := hs 10 (by decide) rfl (by kernel_rfl)
            have e12 : s 12 = _ := hs 12 (by decide) rfl (by kernel_rfl)
            simp only [e10, e12] at hK ⊢
            have hth := there_sub (o := k * 6 + 4) (n := 1) (hb.thr _ _ _ hgt9) (by omega)
            have hc1 := (hth 0 (by decide)).1
            have hf1 := (hth 0 (by decide)).2
            rw [Nat.add_zero] at hc1 hf1
            obtain ⟨u1, hu1⟩ := Option.isSome_iff_exists.1 hc1
            go_simp
            exact hK.out _ (.inr rfl) rfl hth
        case ht_wl =>
          intro s hs Wb hfx hout hin
          have e0 : s 0 = _ := hs 0 (by decide) rfl
          have e1 : s 1 = _ := hs 1 (by decide) rfl
          have e2 : s 2 = _ := hs 2 (by decide) rfl
          have e3 : s 3 = _ := hs 3 (by decide) rfl
          have e4 : s 4 = _ := hs 4 (by decide) rfl
          have e5 : s 5 = _ := hs 5 (by decide) rfl
          have e6 : s 6 = _ := hs 6 (by decide) rfl
          have e7 : s 7 = _ := hs 7 (by decide) rfl
          have e8 : s 8 = _ := hs 8 (by decide) rfl
          have e9 : s 9 = _ := hs 9 (by decide) rfl
          have e10 : s 10 = _ := hs 10 (by decide) rfl
          have e11 : s 11 = _ := hs 11 (by decide) rfl
          have e12 : s 12 = _ := hs 12 (by decide) rfl
          simp only [e0, e1, e2, e3, e4, e5, e6, e7, e8, e9, e10, e11, e12]
          obtain ⟨cs1, g1, g2, g3⟩ := hin 13 _ _ _ rfl
          rw [e10] at g1
          have i1 : cs1 = [.float .f64 (kpF (Q (2 * k + 1)).r11)] := by rcases g1 with g1 | g1; (cases g1); exact g1
          subst i1
          have c4 := g3 0 _ rfl
          rw [Nat.add_zero] at c4
          clear hs hin g1 g2 g3 e0 e1 e2 e3 e4 e5 e6 e7 e8 e9 e10 e11 e12
          have c5b := (hout g (k * 6 + 5) (Nat.lt_of_lt_of_le hgl9 hfxA.size) (by rintro ⟨j, o, d, h1, h2, h3, h4⟩; dsimp only at h1 h4; split at h1 <;> cases h1; (have h5 : k * 6 + 5 < k * 6 + 4 + 1 := h4); omega)).trans c5
          have hP9 := pts_put (Q := Q) hkp hPr c5b c4 (fun q n1 n2 => (hout g q (Nat.lt_of_lt_of_le hgl9 hfxA.size) (by rintro ⟨j, o, d, h1, h2, h3, h4⟩; dsimp only at h1 h4; split at h1 <;> cases h1; (have h5 : q < k * 6 + 4 + 1 := h4); omega)).trans (houtA q n1))
          have hfx := hfxA.trans hfx
          repeat (first | go_values | go_skip | go_guarded | go_step | go_upon | go_back | dsimp only)
          exact ⟨⟨k + 1, by omega, by go_num, hfx.bel hB (by simp only [List.mem_singleton]; rintro _ rfl; omega), hfx.rng (by simp only [List.mem_singleton]; omega) hTr, hfx.thr _ _ _ hUr, hP9, hfx.thr _ _ _ hgtr, Nat.lt_of_lt_of_le hsr hfx.size⟩, by simp [intOf]; omega⟩
    · have hkn : k = mN T pn := by omega
      subst hkn
      repeat (first | ((with_reducible show Oper.wp _ { dst := some 60, op := Op.load 29 _, type := _, pos := _, after := _, guard := _ } _ _ _ _); refine wp_load_mid (P := Try.prog) 29 _ rfl _ _ rfl [.int .i64 T.ta, .int .i64 T.tp, .int .i64 T.tb, .int .i64 T.tq, .bool T.ts, .float .f64 T.tx, .float .f64 T.ty, (.slice (some ⟨g, 0, none⟩) pn cap)] _ hTr Try.underlying29 rfl (by kernel_rfl) ?_; (try simp only [go_sem])) | ((with_reducible show Oper.wp _ { dst := _, op := Op.store 29 _ _, type := _, pos := _, after := _, guard := _ } _ _ _ _); refine wp_store_mid (P := Try.prog) 29 _ _ rfl (w.heap.size + 1) (0) #[.int .i64 T.ta, .int .i64 T.tp, .int .i64 T.tb, .int .i64 T.tq, .bool T.ts, .float .f64 T.tx, .float .f64 T.ty, (.slice (some ⟨g, 0, none⟩) pn cap)] rfl rfl hUr (by kernel_rfl) (by kernel_rfl) ?_; (try simp only [go_sem])) | go_values | go_skip | go_guarded | go_step | go_upon | go_back | dsimp only)
      refine bodyPost_ret (results_ct (c := 4) (r := 5) (ty := 29) rfl rfl (run_loadVar_mid _ (w.heap.size + 1) 0 29 [.int .i64 T.ta, .int .i64 T.tp, .int .i64 T.tb, .int .i64 T.tq, .bool T.ts, .float .f64 T.tx, .float .f64 T.ty, (.slice (some ⟨g, 0, none⟩) pn cap)] _ (World.rangeAt_setCells_same _ _ _ _ hUr) Try.underlying29 rfl (by kernel_rfl)) rfl) rfl ?_
      exact ⟨g, cap, hgc, hcm, by omega, fun i hi => World.rangeAt_setCells_apart (hPr i hi) _ _ _ (.inl (by omega)), World.there_setCells hgtr _ _ _, rfl, bel_setsJ _ _ hB (by omega)⟩

set_option maxRecDepth 100000 in
set_option maxHeartbeats 4000000 in
theorem rkeep_ok_true (T : TD) (pb po pn pc_ : Nat) (ps : Option Addr) (P : Nat → PD) (rb ro rn rc_ : Nat) (rs : Option Addr) (Q : Nat → RD) (w : World) (hps : pn = 0 ∨ ps = some ⟨pb, po, none⟩) (hpc : pn ≤ pc_) (hpm : pc_ ≤ maxLen) (hp : Pts w pb po pn P) (op : ∀ i, i < pn → pok (P i)) (oT : okK .f64 T.tx ∧ okK .f64 T.ty) (hrs : rn = 0 ∨ rs = some ⟨rb, ro, none⟩) (hrc : rn ≤ rc_) (hrm : rc_ ≤ maxLen) (hr : Rws w rb ro rn Q) (he : ckE T pn P = 0) (hts : Hid (T.ts = true)) (hne : rn = rwN T pn) : Calls Try.prog 12 #[.agg #[.int .i64 T.ta, .int .i64 T.tp, .int .i64 T.tb, .int .i64 T.tq, .bool T.ts, .float .f64 T.tx, .float .f64 T.ty, .slice ps pn pc_], .slice rs rn rc_] w fun e w' => ∃ g cap, pn ≤ cap ∧ cap ≤ maxLen ∧ w.heap.size ≤ g ∧ Pts w' g 0 pn (kpP P Q (mN T pn)) ∧ w'.there g 0 (pn * 6) ∧ e = .returned (.tuple #[.agg #[.int .i64 T.ta, .int .i64 T.tp, .int .i64 T.tb, .int .i64 T.tq, .bool T.ts, .float .f64 T.tx, .float .f64 T.ty, .slice (some ⟨g, 0, none⟩) pn cap], .int .i64 0]) ∧ Bel w w' := by
  have hpm9 := hpm
  have hrm9 := hrm
  unfold maxLen at hpm hrm
  have hz0 : ((w.alloc (.cells #[.int .i64 T.ta, .int .i64 T.tp, .int .i64 T.tb, .int .i64 T.tq, .bool T.ts, .float .f64 T.tx, .float .f64 T.ty, .slice ps pn pc_] 29)).alloc (.cells #[.int .i64 0, .int .i64 0, .int .i64 0, .int .i64 0, .bool false, .float .f64 0, .float .f64 0, .slice none 0 0] 29)).heap.size = w.heap.size + 1 + 1 := by simp only [World.size_alloc]
  have hT : ((w.alloc (.cells #[.int .i64 T.ta, .int .i64 T.tp, .int .i64 T.tb, .int .i64 T.tq, .bool T.ts, .float .f64 T.tx, .float .f64 T.ty, .slice ps pn pc_] 29)).alloc (.cells #[.int .i64 0, .int .i64 0, .int .i64 0, .int .i64 0, .bool false, .float .f64 0, .float .f64 0, .slice none 0 0] 29)).rangeAt (w.heap.size) 0 [.int .i64 T.ta, .int .i64 T.tp, .int .i64 T.tb, .int .i64 T.tq, .bool T.ts, .float .f64 T.tx, .float .f64 T.ty, .slice ps pn pc_] := World.rangeAt_alloc (rng_new w [.int .i64 T.ta, .int .i64 T.tp, .int .i64 T.tb, .int .i64 T.tq, .bool T.ts, .float .f64 T.tx, .float .f64 T.ty, .slice ps pn pc_] 29) _
  have hTt : ((w.alloc (.cells #[.int .i64 T.ta, .int .i64 T.tp, .int .i64 T.tb, .int .i64 T.tq, .bool T.ts, .float .f64 T.tx, .float .f64 T.ty, .slice ps pn pc_] 29)).alloc (.cells #[.int .i64 0, .int .i64 0, .int .i64 0, .int .i64 0, .bool false, .float .f64 0, .float .f64 0, .slice none 0 0] 29)).there (w.heap.size) 0 8 := World.there_alloc (there_new w [.int .i64 T.ta, .int .i64 T.tp, .int .i64 T.tb, .int .i64 T.tq, .bool T.ts, .float .f64 T.tx, .float .f64 T.ty, .slice ps pn pc_] 29) _
  have hU : ((w.alloc (.cells #[.int .i64 T.ta, .int .i64 T.tp, .int .i64 T.tb, .int .i64 T.tq, .bool T.ts, .float .f64 T.tx, .float .f64 T.ty, .slice ps pn pc_] 29)).alloc (.cells #[.int .i64 0, .int .i64 0, .int .i64 0, .int .i64 0, .bool false, .float .f64 0, .float .f64 0, .slice none 0 0] 29)).there (w.heap.size + 1) 0 8 := by have h := there_new (w.alloc (.cells #[.int .i64 T.ta, .int .i64 T.tp, .int .i64 T.tb, .int .i64 T.tq, .bool T.ts, .float .f64 T.tx, .float .f64 T.ty, .slice ps pn pc_] 29)) [.int .i64 0, .int .i64 0, .int .i64 0, .int .i64 0, .bool false, .float .f64 0, .float .f64 0, .slice none 0 0] 29; rwa [World.size_alloc] at h
  have BB : Bel w ((w.alloc (.cells #[.int .i64 T.ta, .int .i64 T.tp, .int .i64 T.tb, .int .i64 T.tq, .bool T.ts, .float .f64 T.tx, .float .f64 T.ty, .slice ps pn pc_] 29)).alloc (.cells #[.int .i64 0, .int .i64 0, .int .i64 0, .int .i64 0, .bool false, .float .f64 0, .float .f64 0, .slice none 0 0] 29)) := bl_alloc (bl_alloc (bl_refl w) _ _) _ _
  have hn8 := (ck_eight he).2
  have hn1 := (ck_eight he).1
  have hm2 := rw_mN T pn
  have hml := mN_le T pn
  have hneI : ((rn : Int) != (0 : Int)) = false := by have e := unhide hts; unfold rwN at hne; rw [e] at hne; simp at hne ⊢; omega
  have hqI : ((0 : Int)).tdiv 2 = ((mN T pn : Nat) : Int) := by have e := unhide hts; unfold mN; rw [e]; first | rfl | exact Int.mul_tdiv_cancel_left _ (by decide)
  have hw1 : IntKind.i64.wrap (2 * (pn : Int)) = 2 * (pn : Int) := by rw [IntKind.wrap_i64]; omega
  have hne9 := hide hne
  have hm9 := hide hm2
  clear hne hm2
  go_enter Try.func12, Try.ntmps12
  repeat (first | ((with_reducible show Oper.wp _ { dst := some 10, op := Op.load 29 _, type := _, pos := _, after := _, guard := _ } _ _ _ _); refine wp_load_mid (P := Try.prog) 29 _ rfl _ _ rfl [.int .i64 T.ta, .int .i64 T.tp, .int .i64 T.tb, .int .i64 T.tq, .bool T.ts, .float .f64 T.tx, .float .f64 T.ty, .slice ps pn pc_] _ hT Try.underlying29 rfl (by kernel_rfl) ?_; (try simp only [go_sem])) | (go_at_call 51; (with_reducible refine (rCheck_w T pb po pn pc_ ps P _ hps hpc hpm9 (hp.bel BB) op oT).mono ?_); rintro e w1 ⟨rfl, hb1⟩; rw [he]; replace hT := rng_bel hT hb1; replace hTt := bel_there hTt hb1; replace hU := bel_there hU hb1; have hzhb1 := hb1.size; replace BB := bl_trans BB hb1; have kS := hT 7 _ rfl; rw [Nat.zero_add] at kS; have k4 := hT 4 _ rfl; rw [Nat.zero_add, unhide hts] at k4) | ((with_reducible show Oper.wp _ { dst := some 27, op := Op.load 29 _, type := _, pos := _, after := _, guard := _ } _ _ _ _); refine wp_load_mid (P := Try.prog) 29 _ rfl _ _ rfl [.int .i64 T.ta, .int .i64 T.tp, .int .i64 T.tb, .int .i64 T.tq, .bool T.ts, .float .f64 T.tx, .float .f64 T.ty, .slice ps pn pc_] _ hT Try.underlying29 rfl (by kernel_rfl) ?_; (try simp only [go_sem])) | (go_at_call 52; (with_reducible refine (twin_w T pb po pn pc_ ps P _ hps hpc hpm9 (hp.bel BB) op (by omega) (by omega)).mono ?_); rintro e w5 ⟨g, cap, hgc, hcm, hgw, hgl, hPg, hgt, rfl, hb5⟩; replace hT := rng_bel hT hb5; replace hTt := bel_there hTt hb5; replace hU := bel_there hU hb5; have hzhb5 := hb5.size; replace BB := bl_trans BB hb5; have hX : (w5.alloc (.cells #[.int .i64 0, .int .i64 0, .int .i64 0, .int .i64 0, .bool false, .float .f64 0, .float .f64 0, .slice none 0 0] 29)).there w5.heap.size 0 8 := there_new w5 [.int .i64 0, .int .i64 0, .int .i64 0, .int .i64 0, .bool false, .float .f64 0, .float .f64 0, .slice none 0 0] 29) | ((with_reducible show Oper.wp _ { dst := _, op := Op.store 29 _ _, type := _, pos := _, after := _, guard := _ } _ _ _ _); refine wp_store_mid (P := Try.prog) 29 _ _ rfl (w5.heap.size) (0) #[.int .i64 T.ta, .int .i64 T.tp, .int .i64 T.tb, .int .i64 T.tq, .bool T.ts, .float .f64 T.tx, .float .f64 T.ty, (.slice (some ⟨g, 0, none⟩) pn cap)] rfl rfl hX (by kernel_rfl) (by kernel_rfl) ?_; (try simp only [go_sem])) | go_values | go_skip | go_guarded | go_step | go_upon | go_back | dsimp only)
  have hT4 : ((w5.alloc (.cells #[.int .i64 0, .int .i64 0, .int .i64 0, .int .i64 0, .bool false, .float .f64 0, .float .f64 0, .slice none 0 0] 29)).setCells w5.heap.size 0 [.int .i64 T.ta, .int .i64 T.tp, .int .i64 T.tb, .int .i64 T.tq, .bool T.ts, .float .f64 T.tx, .float .f64 T.ty, (.slice (some ⟨g, 0, none⟩) pn cap)]).rangeAt w5.heap.size 0 [.int .i64 T.ta, .int .i64 T.tp, .int .i64 T.tb, .int .i64 T.tq, .bool T.ts, .float .f64 T.tx, .float .f64 T.ty, (.slice (some ⟨g, 0, none⟩) pn cap)] := World.rangeAt_setCells_same _ _ _ _ hX
  have hB5 : Bel w5 ((w5.alloc (.cells #[.int .i64 0, .int .i64 0, .int .i64 0, .int .i64 0, .bool false, .float .f64 0, .float .f64 0, .slice none 0 0] 29)).setCells w5.heap.size 0 [.int .i64 T.ta, .int .i64 T.tp, .int .i64 T.tb, .int .i64 T.tq, .bool T.ts, .float .f64 T.tx, .float .f64 T.ty, (.slice (some ⟨g, 0, none⟩) pn cap)]) := bel_setsJ _ _ (bl_alloc (bl_refl _) _ _) (Nat.le_refl _)
  have hU4 : ((w5.alloc (.cells #[.int .i64 0, .int .i64 0, .int .i64 0, .int .i64 0, .bool false, .float .f64 0, .float .f64 0, .slice none 0 0] 29)).setCells w5.heap.size 0 [.int .i64 T.ta, .int .i64 T.tp, .int .i64 T.tb, .int .i64 T.tq, .bool T.ts, .float .f64 T.tx, .float .f64 T.ty, (.slice (some ⟨g, 0, none⟩) pn cap)]).there (w.heap.size + 1) 0 8 := bel_there hU hB5
  have hP4 : Pts ((w5.alloc (.cells #[.int .i64 0, .int .i64 0, .int .i64 0, .int .i64 0, .bool false, .float .f64 0, .float .f64 0, .slice none 0 0] 29)).setCells w5.heap.size 0 [.int .i64 T.ta, .int .i64 T.tp, .int .i64 T.tb, .int .i64 T.tq, .bool T.ts, .float .f64 T.tx, .float .f64 T.ty, (.slice (some ⟨g, 0, none⟩) pn cap)]) g 0 pn (kpP P Q 0) := by rw [kpP_zero]; exact hPg.bel hB5
  have hg4 : ((w5.alloc (.cells #[.int .i64 0, .int .i64 0, .int .i64 0, .int .i64 0, .bool false, .float .f64 0, .float .f64 0, .slice none 0 0] 29)).setCells w5.heap.size 0 [.int .i64 T.ta, .int .i64 T.tp, .int .i64 T.tb, .int .i64 T.tq, .bool T.ts, .float .f64 T.tx, .float .f64 T.ty, (.slice (some ⟨g, 0, none⟩) pn cap)]).there g 0 (pn * 6) := bel_there hgt hB5
  have hB4 : Bel w ((w5.alloc (.cells #[.int .i64 0, .int .i64 0, .int .i64 0, .int .i64 0, .bool false, .float .f64 0, .float .f64 0, .slice none 0 0] 29)).setCells w5.heap.size 0 [.int .i64 T.ta, .int .i64 T.tp, .int .i64 T.tb, .int .i64 T.tq, .bool T.ts, .float .f64 T.tx, .float .f64 T.ty, (.slice (some ⟨g, 0, none⟩) pn cap)]) := bl_trans BB hB5
  have hs4 : w.heap.size + 1 < ((w5.alloc (.cells #[.int .i64 0, .int .i64 0, .int .i64 0, .int .i64 0, .bool false, .float .f64 0, .float .f64 0, .slice none 0 0] 29)).setCells w5.heap.size 0 [.int .i64 T.ta, .int .i64 T.tp, .int .i64 T.tb, .int .i64 T.tq, .bool T.ts, .float .f64 T.tx, .float .f64 T.ty, (.slice (some ⟨g, 0, none⟩) pn cap)]).heap.size := Nat.lt_of_lt_of_le (by omega) hB5.size
  have hgH : w.heap.size + 1 < g := by omega
  clear hT hTt hU hPg hgt kS k4 BB
  generalize hbx : w5.heap.size = bx at hT4 hgl hU4 hP4 hg4 hB4 hs4 ⊢
  clear hX
  go_loopw [9] (fun i wr => ∃ k : Nat, k ≤ mN T pn ∧ i = .int .i64 k ∧ Bel w wr ∧ wr.rangeAt bx 0 [.int .i64 T.ta, .int .i64 T.tp, .int .i64 T.tb, .int .i64 T.tq, .bool T.ts, .float .f64 T.tx, .float .f64 T.ty, (.slice (some ⟨g, 0, none⟩) pn cap)] ∧ wr.there (w.heap.size + 1) 0 8 ∧ Pts wr g 0 pn (kpP P Q k) ∧ wr.there g 0 (pn * 6) ∧ w.heap.size + 1 < wr.heap.size) (fun i _ => mN T pn - (intOf i).toNat)
  case atStart => exact ⟨0, by omega, rfl, hB4, hT4, hU4, hP4, hg4, hs4⟩
  case round =>
    obtain ⟨k, hk, rfl, hB, hTr, hUr, hPr, hgtr, hsr⟩ := hrel
    clear hT4 hU4 hP4 hg4 hB4 hs4
    by_cases hlt : k < mN T pn
    · have e9 : rs = some ⟨rb, ro, none⟩ := by rcases hrs with h | h; (exact absurd h (by have u1 := unhide hne9; have u2 := unhide hm9; omega)); exact h
      subst e9
      have hkI : (k : Int) < ((mN T pn : Nat) : Int) := by omega
      have hkp : k < pn := by omega
      have hkpI : (k : Int) < (pn : Int) := by omega
      have hkcI : (k : Int) < (cap : Int) := by omega
      have hrb : rb < w.heap.size := World.block_lt_of_cell? w _ (hr 0 (by have u1 := unhide hne9; have u2 := unhide hm9; omega) 0 _ rfl)
      have hgl9 : g < wr.heap.size := hPr.lt (by omega)
      have kB : wr.cell? ⟨bx, 7, none⟩ = some (.slice (some ⟨g, 0, none⟩) pn cap) := by have h := hTr 7 _ rfl; rwa [Nat.zero_add] at h
      have kq0 : wr.cell? ⟨rb, ro + (2 * k) * 14 + 11, none⟩ = some (.float .f64 (Q (2 * k)).r11) := ((hr.bel hB) (2 * k) (by have u1 := unhide hne9; have u2 := unhide hm9; omega)) 11 _ rfl
      have kq1 : wr.cell? ⟨rb, ro + (2 * k + 1) * 14 + 11, none⟩ = some (.float .f64 (Q (2 * k + 1)).r11) := ((hr.bel hB) (2 * k + 1) (by have u1 := unhide hne9; have u2 := unhide hm9; omega)) 11 _ rfl
      have h2I : 2 * (k : Int) < (rn : Int) := by have u1 := unhide hne9; have u2 := unhide hm9; omega
      have h2C : 2 * (k : Int) < (rc_ : Int) := by have u1 := unhide hne9; have u2 := unhide hm9; omega
      have h3I : 2 * (k : Int) + 1 < (rn : Int) := by have u1 := unhide hne9; have u2 := unhide hm9; omega
      have h3C : 2 * (k : Int) + 1 < (rc_ : Int) := by have u1 := unhide hne9; have u2 := unhide hm9; omega
      have hw2 : IntKind.i64.wrap (2 * (k : Int)) = 2 * (k : Int) := by rw [IntKind.wrap_i64]; omega
      have hw3 : IntKind.i64.wrap (2 * (k : Int) + 1) = 2 * (k : Int) + 1 := by rw [IntKind.wrap_i64]; omega
      repeat (first | go_values | go_skip | go_guarded | go_step | go_upon | go_back | dsimp only)
      refine wp_region_knot 13 rfl (fun i v => match i with | 0 => v = .pointer (some ⟨bx, 7, none⟩) | 1 => v = (.slice (some ⟨g, 0, none⟩) pn cap) | 2 => v = .int .i64 (k : Int) | 3 => v = .slice (some ⟨rb, ro, none⟩) rn rc_ | 4 => v = .int .i64 (k : Int) | 5 => v = .int .i64 (2 * (k : Int)) | 6 => v = .pointer (some ⟨rb, ro + (2 * k) * 14, none⟩) | 7 => v = .pointer (some ⟨rb, ro + (2 * k) * 14 + 11, none⟩) | 8 => v = .float .f64 (Q (2 * k)).r11 | 9 => v = .float .f64 (kpF (Q (2 * k)).r11) | 10 => v = .pointer (some ⟨g, k * 6, none⟩) | 11 => v = .pointer (some ⟨g, k * 6 + 5, none⟩) | _ => False) (fun i => match i with | 1 => true | 8 => true | 9 => true | _ => false) (fun i => match i with | 12 => some (g, k * 6 + 5, 9) | _ => none) (fun i => match i with | 12 => 1 | _ => 0) [g] 6 ?A_wk (by kernel_rfl) (by kernel_rfl) ?hA_wk ?hpre_wk ?hdep_wk ?hne_wk ?hq_wk ?hp_wk ?hst_wk ?ht_wk
      case hA_wk =>
        intro s
        simp only [putL, dstO, Act.put, List.getElem?_toArray, List.getElem?_cons_zero, List.getElem?_cons_succ, Option.bind_some, List.setIfInBounds_toArray, List.set_cons_zero, List.set_cons_succ, if_true]
        all_goals exact rfl
      case hpre_wk =>
        intro i j b o d hi hr hso
        have hj : j = 12 := by
          split at hso
          all_goals first | omega | (cases hso; done)
        rcases (show i = 0 ∨ i = 1 ∨ i = 2 ∨ i = 3 ∨ i = 4 ∨ i = 5 ∨ i = 6 ∨ i = 7 ∨ i = 8 ∨ i = 9 ∨ i = 10 ∨ i = 11 ∨ i = 12 by omega) with rfl | rfl | rfl | rfl | rfl | rfl | rfl | rfl | rfl | rfl | rfl | rfl | rfl
        all_goals first
          | (cases hr; done)
          | (rcases hj with rfl <;> (show rch _ _ _ _ = true) <;> kernel_rfl)
      case hdep_wk =>
        intro i b o d hso
        split at hso
        all_goals first | (cases hso; done) | (cases hso; exact ⟨by decide, rfl, by simp, by decide, rfl, by kernel_rfl⟩)
      case hne_wk =>
        intro i j b o d o' d' hij h1 h2
        split at h1
        all_goals (try (cases h1; done))
        all_goals split at h2
        all_goals (try (cases h2; done))
        all_goals (cases h1; cases h2; first | (exact absurd rfl hij) | (exact absurd rfl hne9) | (exact absurd rfl hne9.symm) | (simp only []; omega) | omega)
      case hq_wk =>
        intro i o hi ho hso hrd s hs W hb K hK
        have u0 := keep hb kB; have u1 := keep hb kq0
        rcases (show i = 0 ∨ i = 1 ∨ i = 2 ∨ i = 3 ∨ i = 4 ∨ i = 5 ∨ i = 6 ∨ i = 7 ∨ i = 8 ∨ i = 9 ∨ i = 10 ∨ i = 11 ∨ i = 12 by omega) with rfl | rfl | rfl | rfl | rfl | rfl | rfl | rfl | rfl | rfl | rfl | rfl | rfl
        · cases hrd
        · cases ho
          have e0 : s 0 = _ := hs 0 (by decide) rfl (by kernel_rfl)
          simp only [e0] at hK ⊢
          simp only [Act.put, List.setIfInBounds_toArray, List.set_cons_zero, List.set_cons_succ] at hK
          clear hs
          go_simp
          all_goals first | with_reducible exact hK.out _ _ rfl (bl_refl _) | exact hK.out _ _ rfl (bl_refl _)
        · cases hrd
        · cases hrd
        · cases hrd
        · cases hrd
        · cases hrd
        · cases hrd
        · cases ho
          have e7 : s 7 = _ := hs 7 (by decide) rfl (by kernel_rfl)
          simp only [e7] at hK ⊢
          simp only [Act.put, List.setIfInBounds_toArray, List.set_cons_zero, List.set_cons_succ] at hK
          clear hs
          go_simp
          all_goals first | with_reducible exact hK.out _ _ rfl (bl_refl _) | exact hK.out _ _ rfl (bl_refl _)
        · cases ho
          have e8 : s 8 = _ := hs 8 (by decide) rfl (by kernel_rfl)
          simp only [e8] at hK ⊢
          simp only [Act.put, List.setIfInBounds_toArray, List.set_cons_zero, List.set_cons_succ] at hK
          clear hs
          go_simp
          all_goals (try go_wp2_with (first | (go_at_call 53; (with_reducible refine (real_w _ _).mono ?_); rintro e w' ⟨rfl, rfl⟩)))
          all_goals first | with_reducible exact hK.out _ _ rfl (bl_refl _) | exact hK.out _ _ rfl (bl_refl _)
        · cases hrd
        · cases hrd
        · cases hso
      case hp_wk =>
        intro i o hi ho hso hrd s hs W K hK
        rcases (show i = 0 ∨ i = 1 ∨ i = 2 ∨ i = 3 ∨ i = 4 ∨ i = 5 ∨ i = 6 ∨ i = 7 ∨ i = 8 ∨ i = 9 ∨ i = 10 ∨ i = 11 ∨ i = 12 by omega) with rfl | rfl | rfl | rfl | rfl | rfl | rfl | rfl | rfl | rfl | rfl | rfl | rfl
        · cases ho
          simp only [Act.put, List.setIfInBounds_toArray, List.set_cons_zero, List.set_cons_succ] at hK
          clear hs
          go_simp
          all_goals first | with_reducible exact hK.out _ rfl | exact hK.out _ rfl
        · cases hrd
        · cases ho
          simp only [Act.put, List.setIfInBounds_toArray, List.set_cons_zero, List.set_cons_succ] at hK
          clear hs
          go_simp
          all_goals first | with_reducible exact hK.out _ rfl | exact hK.out _ rfl
        · cases ho
          simp only [Act.put, List.setIfInBounds_toArray, List.set_cons_zero, List.set_cons_succ] at hK
          clear hs
          go_simp
          all_goals first | with_reducible exact hK.out _ rfl | exact hK.out _ rfl
        · cases ho
          simp only [Act.put, List.setIfInBounds_toArray, List.set_cons_zero, List.set_cons_succ] at hK
          clear hs
          go_simp
          all_goals first | with_reducible exact hK.out _ rfl | exact hK.out _ rfl
        · cases ho
          have e4 : s 4 = _ := hs 4 (by decide) rfl (by kernel_rfl)
          simp only [e4] at hK ⊢
          simp only [Act.put, List.setIfInBounds_toArray, List.set_cons_zero, List.set_cons_succ] at hK
          clear hs
          go_simp
          all_goals first | with_reducible exact hK.out _ rfl | exact hK.out _ rfl
        · cases ho
          have e3 : s 3 = _ := hs 3 (by decide) rfl (by kernel_rfl)
          have e5 : s 5 = _ := hs 5 (by decide) rfl (by kernel_rfl)
          simp only [e3, e5] at hK ⊢
          simp only [Act.put, List.setIfInBounds_toArray, List.set_cons_zero, List.set_cons_succ] at hK
          clear hs
          go_simp
          all_goals first | with_reducible exact hK.out _ rfl | exact hK.out _ rfl
        · cases ho
          have e6 : s 6 = _ := hs 6 (by decide) rfl (by kernel_rfl)
          simp only [e6] at hK ⊢
          simp only [Act.put, List.setIfInBounds_toArray, List.set_cons_zero, List.set_cons_succ] at hK
          clear hs
          go_simp
          all_goals first | with_reducible exact hK.out _ rfl | exact hK.out _ rfl
        · cases hrd
        · cases hrd
        · cases ho
          have e1 : s 1 = _ := hs 1 (by decide) rfl (by kernel_rfl)
          have e2 : s 2 = _ := hs 2 (by decide) rfl (by kernel_rfl)
          simp only [e1, e2] at hK ⊢
          simp only [Act.put, List.setIfInBounds_toArray, List.set_cons_zero, List.set_cons_succ] at hK
          clear hs
          go_simp
          all_goals first | with_reducible exact hK.out _ rfl | exact hK.out _ rfl
        · cases ho
          have e10 : s 10 = _ := hs 10 (by decide) rfl (by kernel_rfl)
          simp only [e10] at hK ⊢
          simp only [Act.put, List.setIfInBounds_toArray, List.set_cons_zero, List.set_cons_succ] at hK
          clear hs
          go_simp
          all_goals first | with_reducible exact hK.out _ rfl | exact hK.out _ rfl
        · cases hso
      case hst_wk =>
        intro i o b q d hi ho hso s hs W hb K hK
        rcases (show i = 0 ∨ i = 1 ∨ i = 2 ∨ i = 3 ∨ i = 4 ∨ i = 5 ∨ i = 6 ∨ i = 7 ∨ i = 8 ∨ i = 9 ∨ i = 10 ∨ i = 11 ∨ i = 12 by omega) with rfl | rfl | rfl | rfl | rfl | rfl | rfl | rfl | rfl | rfl | rfl | rfl | rfl
        · cases hso
        · cases hso
        · cases hso
        · cases hso
        · cases hso
        · cases hso
        · cases hso
        · cases hso
        · cases hso
        · cases hso
        · cases hso
        · cases hso
        · cases ho
          cases hso
          have e9 : s 9 = _ := hs 9 (by decide) rfl (by kernel_rfl)
          have e11 : s 11 = _ := hs 11 (by decide) rfl (by kernel_rfl)
          simp only [e9, e11] at hK ⊢
          have hth := there_sub (o := k * 6 + 5) (n := 1) (hb.thr _ _ _ hgtr) (by omega)
          have hc1 := (hth 0 (by decide)).1
          have hf1 := (hth 0 (by decide)).2
          rw [Nat.add_zero] at hc1 hf1
          obtain ⟨u1, hu1⟩ := Option.isSome_iff_exists.1 hc1
          go_simp
          exact hK.out _ (.inr rfl) rfl hth
      case ht_wk =>
        intro s hs Wa hfx hout hin
        have e0 : s 0 = _ := hs 0 (by decide) rfl
        have e1 : s 1 = _ := hs 1 (by decide) rfl
        have e2 : s 2 = _ := hs 2 (by decide) rfl
        have e3 : s 3 = _ := hs 3 (by decide) rfl
        have e4 : s 4 = _ := hs 4 (by decide) rfl
        have e5 : s 5 = _ := hs 5 (by decide) rfl
        have e6 : s 6 = _ := hs 6 (by decide) rfl
        have e7 : s 7 = _ := hs 7 (by decide) rfl
        have e8 : s 8 = _ := hs 8 (by decide) rfl
        have e9 : s 9 = _ := hs 9 (by decide) rfl
        have e10 : s 10 = _ := hs 10 (by decide) rfl
        have e11 : s 11 = _ := hs 11 (by decide) rfl
        simp only [e0, e1, e2, e3, e4, e5, e6, e7, e8, e9, e10, e11]
        obtain ⟨cs1, g1, g2, g3⟩ := hin 12 _ _ _ rfl
        rw [e9] at g1
        have i1 : cs1 = [.float .f64 (kpF (Q (2 * k)).r11)] := by rcases g1 with g1 | g1; (cases g1); exact g1
        subst i1
        have c5 := g3 0 _ rfl
        rw [Nat.add_zero] at c5
        clear hs hin g1 g2 g3 e0 e1 e2 e3 e4 e5 e6 e7 e8 e9 e10 e11
        have hfxA := hfx
        have houtA : ∀ q, q ≠ k * 6 + 5 → Wa.cell? ⟨g, q, none⟩ = wr.cell? ⟨g, q, none⟩ := fun q n1 => hout g q hgl9 (by rintro ⟨j, o, d, h1, h2, h3, h4⟩; dsimp only at h1 h4; split at h1 <;> cases h1; (have h5 : q < k * 6 + 5 + 1 := h4); omega)
        have kB9 := hfx.cell (by simp only [List.mem_singleton]; omega) kB
        have kq9 := hfx.cell (by simp only [List.mem_singleton]; omega) kq1
        have hgt9 := hfx.thr _ _ _ hgtr
        clear hfx hout
        repeat (first | go_values | go_skip | go_guarded | go_step | go_upon | go_back | dsimp only)
        refine wp_region_knot 14 rfl (fun i v => match i with | 0 => v = .pointer (some ⟨bx, 7, none⟩) | 1 => v = (.slice (some ⟨g, 0, none⟩) pn cap) | 2 => v = .int .i64 (k : Int) | 3 => v = .slice (some ⟨rb, ro, none⟩) rn rc_ | 4 => v = .int .i64 (k : Int) | 5 => v = .int .i64 (2 * (k : Int)) | 6 => v = .int .i64 (2 * (k : Int) + 1) | 7 => v = .pointer (some ⟨rb, ro + (2 * k + 1) * 14, none⟩) | 8 => v = .pointer (some ⟨rb, ro + (2 * k + 1) * 14 + 11, none⟩) | 9 => v = .float .f64 (Q (2 * k + 1)).r11 | 10 => v = .float .f64 (kpF (Q (2 * k + 1)).r11) | 11 => v = .pointer (some ⟨g, k * 6, none⟩) | 12 => v = .pointer (some ⟨g, k * 6 + 4, none⟩) | _ => False) (fun i => match i with | 1 => true | 9 => true | 10 => true | _ => false) (fun i => match i with | 13 => some (g, k * 6 + 4, 10) | _ => none) (fun i => match i with | 13 => 1 | _ => 0) [g] 6 ?A_wl (by kernel_rfl) (by kernel_rfl) ?hA_wl ?hpre_wl ?hdep_wl ?hne_wl ?hq_wl ?hp_wl ?hst_wl ?ht_wl
        case hA_wl =>
          intro s
          simp only [putL, dstO, Act.put, List.getElem?_toArray, List.getElem?_cons_zero, List.getElem?_cons_succ, Option.bind_some, List.setIfInBounds_toArray, List.set_cons_zero, List.set_cons_succ, if_true]
          all_goals exact rfl
        case hpre_wl =>
          intro i j b o d hi hr hso
          have hj : j = 13 := by
            split at hso
            all_goals first | omega | (cases hso; done)
          rcases (show i = 0 ∨ i = 1 ∨ i = 2 ∨ i = 3 ∨ i = 4 ∨ i = 5 ∨ i = 6 ∨ i = 7 ∨ i = 8 ∨ i = 9 ∨ i = 10 ∨ i = 11 ∨ i = 12 ∨ i = 13 by omega) with rfl | rfl | rfl | rfl | rfl | rfl | rfl | rfl | rfl | rfl | rfl | rfl | rfl | rfl
          all_goals first
            | (cases hr; done)
            | (rcases hj with rfl <;> (show rch _ _ _ _ = true) <;> kernel_rfl)
        case hdep_wl =>
          intro i b o d hso
          split at hso
          all_goals first | (cases hso; done) | (cases hso; exact ⟨by decide, rfl, by simp, by decide, rfl, by kernel_rfl⟩)
        case hne_wl =>
          intro i j b o d o' d' hij h1 h2
          split at h1
          all_goals (try (cases h1; done))
          all_goals split at h2
          all_goals (try (cases h2; done))
          all_goals (cases h1; cases h2; first | (exact absurd rfl hij) | (exact absurd rfl hne9) | (exact absurd rfl hne9.symm) | (simp only []; omega) | omega)
        case hq_wl =>
          intro i o hi ho hso hrd s hs W hb K hK
          have u0 := keep hb kB9; have u1 := keep hb kq9
          rcases (show i = 0 ∨ i = 1 ∨ i = 2 ∨ i = 3 ∨ i = 4 ∨ i = 5 ∨ i = 6 ∨ i = 7 ∨ i = 8 ∨ i = 9 ∨ i = 10 ∨ i = 11 ∨ i = 12 ∨ i = 13 by omega) with rfl | rfl | rfl | rfl | rfl | rfl | rfl | rfl | rfl | rfl | rfl | rfl | rfl | rfl
          · cases hrd
          · cases ho
            have e0 : s 0 = _ := hs 0 (by decide) rfl (by kernel_rfl)
            simp only [e0] at hK ⊢
            simp only [Act.put, List.setIfInBounds_toArray, List.set_cons_zero, List.set_cons_succ] at hK
            clear hs
            go_simp
            all_goals first | with_reducible exact hK.out _ _ rfl (bl_refl _) | exact hK.out _ _ rfl (bl_refl _)
          · cases hrd
          · cases hrd
          · cases hrd
          · cases hrd
          · cases hrd
          · cases hrd
          · cases hrd
          · cases ho
            have e8 : s 8 = _ := hs 8 (by decide) rfl (by kernel_rfl)
            simp only [e8] at hK ⊢
            simp only [Act.put, List.setIfInBounds_toArray, List.set_cons_zero, List.set_cons_succ] at hK
            clear hs
            go_simp
            all_goals first | with_reducible exact hK.out _ _ rfl (bl_refl _) | exact hK.out _ _ rfl (bl_refl _)
          · cases ho
            have e9 : s 9 = _ := hs 9 (by decide) rfl (by kernel_rfl)
            simp only [e9] at hK ⊢
            simp only [Act.put, List.setIfInBounds_toArray, List.set_cons_zero, List.set_cons_succ] at hK
            clear hs
            go_simp
            all_goals (try go_wp2_with (first | (go_at_call 53; (with_reducible refine (real_w _ _).mono ?_); rintro e w' ⟨rfl, rfl⟩)))
            all_goals first | with_reducible exact hK.out _ _ rfl (bl_refl _) | exact hK.out _ _ rfl (bl_refl _)
          · cases hrd
          · cases hrd
          · cases hso
        case hp_wl =>
          intro i o hi ho hso hrd s hs W K hK
          rcases (show i = 0 ∨ i = 1 ∨ i = 2 ∨ i = 3 ∨ i = 4 ∨ i = 5 ∨ i = 6 ∨ i = 7 ∨ i = 8 ∨ i = 9 ∨ i = 10 ∨ i = 11 ∨ i = 12 ∨ i = 13 by omega) with rfl | rfl | rfl | rfl | rfl | rfl | rfl | rfl | rfl | rfl | rfl | rfl | rfl | rfl
          · cases ho
            simp only [Act.put, List.setIfInBounds_toArray, List.set_cons_zero, List.set_cons_succ] at hK
            clear hs
            go_simp
            all_goals first | with_reducible exact hK.out _ rfl | exact hK.out _ rfl
          · cases hrd
          · cases ho
            simp only [Act.put, List.setIfInBounds_toArray, List.set_cons_zero, List.set_cons_succ] at hK
            clear hs
            go_simp
            all_goals first | with_reducible exact hK.out _ rfl | exact hK.out _ rfl
          · cases ho
            simp only [Act.put, List.setIfInBounds_toArray, List.set_cons_zero, List.set_cons_succ] at hK
            clear hs
            go_simp
            all_goals first | with_reducible exact hK.out _ rfl | exact hK.out _ rfl
          · cases ho
            simp only [Act.put, List.setIfInBounds_toArray, List.set_cons_zero, List.set_cons_succ] at hK
            clear hs
            go_simp
            all_goals first | with_reducible exact hK.out _ rfl | exact hK.out _ rfl
          · cases ho
            have e4 : s 4 = _ := hs 4 (by decide) rfl (by kernel_rfl)
            simp only [e4] at hK ⊢
            simp only [Act.put, List.setIfInBounds_toArray, List.set_cons_zero, List.set_cons_succ] at hK
            clear hs
            go_simp
            all_goals first | with_reducible exact hK.out _ rfl | exact hK.out _ rfl
          · cases ho
            have e5 : s 5 = _ := hs 5 (by decide) rfl (by kernel_rfl)
            simp only [e5] at hK ⊢
            simp only [Act.put, List.setIfInBounds_toArray, List.set_cons_zero, List.set_cons_succ] at hK
            clear hs
            go_simp
            all_goals first | with_reducible exact hK.out _ rfl | exact hK.out _ rfl
          · cases ho
            have e3 : s 3 = _ := hs 3 (by decide) rfl (by kernel_rfl)
            have e6 : s 6 = _ := hs 6 (by decide) rfl (by kernel_rfl)
            simp only [e3, e6] at hK ⊢
            simp only [Act.put, List.setIfInBounds_toArray, List.set_cons_zero, List.set_cons_succ] at hK
            clear hs
            go_simp
            all_goals first | with_reducible exact hK.out _ rfl | exact hK.out _ rfl
          · cases ho
            have e7 : s 7 = _ := hs 7 (by decide) rfl (by kernel_rfl)
            simp only [e7] at hK ⊢
            simp only [Act.put, List.setIfInBounds_toArray, List.set_cons_zero, List.set_cons_succ] at hK
            clear hs
            go_simp
            all_goals first | with_reducible exact hK.out _ rfl | exact hK.out _ rfl
          · cases hrd
          · cases hrd
          · cases ho
            have e1 : s 1 = _ := hs 1 (by decide) rfl (by kernel_rfl)
            have e2 : s 2 = _ := hs 2 (by decide) rfl (by kernel_rfl)
            simp only [e1, e2] at hK ⊢
            simp only [Act.put, List.setIfInBounds_toArray, List.set_cons_zero, List.set_cons_succ] at hK
            clear hs
            go_simp
            all_goals first | with_reducible exact hK.out _ rfl | exact hK.out _ rfl
          · cases ho
            have e11 : s 11 = _ := hs 11 (by decide) rfl (by kernel_rfl)
            simp only [e11] at hK ⊢
            simp only [Act.put, List.setIfInBounds_toArray, List.set_cons_zero, List.set_cons_succ] at hK
            clear hs
            go_simp
            all_goals first | with_reducible exact hK.out _ rfl | exact hK.out _ rfl
          · cases hso
        case hst_wl =>
          intro i o b q d hi ho hso s hs W hb K hK
          rcases (show i = 0 ∨ i = 1 ∨ i = 2 ∨ i = 3 ∨ i = 4 ∨ i = 5 ∨ i = 6 ∨ i = 7 ∨ i = 8 ∨ i = 9 ∨ i = 10 ∨ i = 11 ∨ i = 12 ∨ i = 13 by omega) with rfl | rfl | rfl | rfl | rfl | rfl | rfl | rfl | rfl | rfl | rfl | rfl | rfl | rfl
          · cases hso
          · cases hso
          · cases hso
          · cases hso
          · cases hso
          · cases hso
          · cases hso
          · cases hso
          · cases hso
          · cases hso
          · cases hso
          · cases hso
          · cases hso
          · cases ho
            cases hso
            have e10 : s 10 = _ := hs 10 (by decide) rfl (by kernel_rfl)
            have e12 : s 12 = _ := hs 12 (by decide) rfl (by kernel_rfl)
            simp only [e10, e12] at hK ⊢
            have hth := there_sub (o := k * 6 + 4) (n := 1) (hb.thr _ _ _ hgt9) (by omega)
            have hc1 := (hth 0 (by decide)).1
            have hf1 := (hth 0 (by decide)).2
            rw [Nat.add_zero] at hc1 hf1
            obtain ⟨u1, hu1⟩ := Option.isSome_iff_exists.1 hc1
            go_simp
            exact hK.out _ (.inr rfl) rfl hth
        case ht_wl =>
          intro s hs Wb hfx hout hin
          have e0 : s 0 = _ := hs 0 (by decide) rfl
          have e1 : s 1 = _ := hs 1 (by decide) rfl
          have e2 : s 2 = _ := hs 2 (by decide) rfl
          have e3 : s 3 = _ := hs 3 (by decide) rfl
          have e4 : s 4 = _ := hs 4 (by decide) rfl
          have e5 : s 5 = _ := hs 5 (by decide) rfl
          have e6 : s 6 = _ := hs 6 (by decide) rfl
          have e7 : s 7 = _ := hs 7 (by decide) rfl
          have e8 : s 8 = _ := hs 8 (by decide) rfl
          have e9 : s 9 = _ := hs 9 (by decide) rfl
          have e10 : s 10 = _ := hs 10 (by decide) rfl
          have e11 : s 11 = _ := hs 11 (by decide) rfl
          have e12 : s 12 = _ := hs 12 (by decide) rfl
          simp only [e0, e1, e2, e3, e4, e5, e6, e7, e8, e9, e10, e11, e12]
          obtain ⟨cs1, g1, g2, g3⟩ := hin 13 _ _ _ rfl
          rw [e10] at g1
          have i1 : cs1 = [.float .f64 (kpF (Q (2 * k + 1)).r11)] := by rcases g1 with g1 | g1; (cases g1); exact g1
          subst i1
          have c4 := g3 0 _ rfl
          rw [Nat.add_zero] at c4
          clear hs hin g1 g2 g3 e0 e1 e2 e3 e4 e5 e6 e7 e8 e9 e10 e11 e12
          have c5b := (hout g (k * 6 + 5) (Nat.lt_of_lt_of_le hgl9 hfxA.size) (by rintro ⟨j, o, d, h1, h2, h3, h4⟩; dsimp only at h1 h4; split at h1 <;> cases h1; (have h5 : k * 6 + 5 < k * 6 + 4 + 1 := h4); omega)).trans c5
          have hP9 := pts_put (Q := Q) hkp hPr c5b c4 (fun q n1 n2 => (hout g q (Nat.lt_of_lt_of_le hgl9 hfxA.size) (by rintro ⟨j, o, d, h1, h2, h3, h4⟩; dsimp only at h1 h4; split at h1 <;> cases h1; (have h5 : q < k * 6 + 4 + 1 := h4); omega)).trans (houtA q n1))
          have hfx := hfxA.trans hfx
          repeat (first | go_values | go_skip | go_guarded | go_step | go_upon | go_back | dsimp only)
          exact ⟨⟨k + 1, by omega, by go_num, hfx.bel hB (by simp only [List.mem_singleton]; rintro _ rfl; omega), hfx.rng (by simp only [List.mem_singleton]; omega) hTr, hfx.thr _ _ _ hUr, hP9, hfx.thr _ _ _ hgtr, Nat.lt_of_lt_of_le hsr hfx.size⟩, by simp [intOf]; omega⟩
    · have hkn : k = mN T pn := by omega
      subst hkn
      repeat (first | ((with_reducible show Oper.wp _ { dst := some 60, op := Op.load 29 _, type := _, pos := _, after := _, guard := _ } _ _ _ _); refine wp_load_mid (P := Try.prog) 29 _ rfl _ _ rfl [.int .i64 T.ta, .int .i64 T.tp, .int .i64 T.tb, .int .i64 T.tq, .bool T.ts, .float .f64 T.tx, .float .f64 T.ty, (.slice (some ⟨g, 0, none⟩) pn cap)] _ hTr Try.underlying29 rfl (by kernel_rfl) ?_; (try simp only [go_sem])) | ((with_reducible show Oper.wp _ { dst := _, op := Op.store 29 _ _, type := _, pos := _, after := _, guard := _ } _ _ _ _); refine wp_store_mid (P := Try.prog) 29 _ _ rfl (w.heap.size + 1) (0) #[.int .i64 T.ta, .int .i64 T.tp, .int .i64 T.tb, .int .i64 T.tq, .bool T.ts, .float .f64 T.tx, .float .f64 T.ty, (.slice (some ⟨g, 0, none⟩) pn cap)] rfl rfl hUr (by kernel_rfl) (by kernel_rfl) ?_; (try simp only [go_sem])) | go_values | go_skip | go_guarded | go_step | go_upon | go_back | dsimp only)
      refine bodyPost_ret (results_ct (c := 4) (r := 5) (ty := 29) rfl rfl (run_loadVar_mid _ (w.heap.size + 1) 0 29 [.int .i64 T.ta, .int .i64 T.tp, .int .i64 T.tb, .int .i64 T.tq, .bool T.ts, .float .f64 T.tx, .float .f64 T.ty, (.slice (some ⟨g, 0, none⟩) pn cap)] _ (World.rangeAt_setCells_same _ _ _ _ hUr) Try.underlying29 rfl (by kernel_rfl)) rfl) rfl ?_
      exact ⟨g, cap, hgc, hcm, by omega, fun i hi => World.rangeAt_setCells_apart (hPr i hi) _ _ _ (.inl (by omega)), World.there_setCells hgtr _ _ _, rfl, bel_setsJ _ _ hB (by omega)⟩

end Go.Proofs.Ytfohggiehbplkaa
