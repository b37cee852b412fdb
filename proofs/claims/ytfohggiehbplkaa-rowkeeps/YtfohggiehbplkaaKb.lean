/-
  What each function of package poly answers, and what the reference of its chapter answers: one contract a function, for every float: the answer stands in the relation of its formula to what was given; of the memory that was there nothing has turned.
-/
import Derived.Test.YtfohggiehbplkaaVec
import Derived.Test.YtfohggiehbplkaaKa
import Derived.Below
import Derived.WalkKit
import Derived.WalkLawsBesides
import Derived.WalkSpells
import Derived.ProofKit
import Derived.OpenShut
import Derived.Deep.RegionHeld3
namespace Go.Proofs.Ytfohggiehbplkaa
open Go.ChangeShapes Go.WideShapes Go.ChangeAt Go.RowKit
set_option linter.unusedVariables false
set_option linter.unusedSimpArgs false


theorem rng_mid {W : World} {b o : Nat} {cs : List Value} (k n : Nat) (h : W.rangeAt b o cs) : W.rangeAt b (o + k) ((cs.drop k).take n) := fun j v hj => by
  have h1 : j < n := by
    have := (List.getElem?_eq_some_iff.1 hj).1
    simp only [List.length_take] at this
    omega
  rw [List.getElem?_take, if_pos h1, List.getElem?_drop] at hj
  have h2 := h (k + j) v hj
  rwa [← Nat.add_assoc] at h2
set_option maxRecDepth 100000 in
set_option maxHeartbeats 4000000 in
theorem tck_ok (T : TD) (pb po pn pc_ : Nat) (ps : Option Addr) (P : Nat → PD) (w : World) (hps : pn = 0 ∨ ps = some ⟨pb, po, none⟩) (hpc : pn ≤ pc_) (hpm : pc_ ≤ maxLen) (hp : Pts w pb po pn P) (op : ∀ i, i < pn → pok (P i)) (h0 : prB T = true) (h1 : (withinK .f64 T.tx 4611686018427387904 && withinK .f64 T.ty 4611686018427387904) = true) (h2 : unB T.tx T.ty = true) (h3 : 1 ≤ pn) (h4 : pn ≤ 8) : Calls Try.prog 47 #[.agg #[.int .i64 T.ta, .int .i64 T.tp, .int .i64 T.tb, .int .i64 T.tq, .bool T.ts, .float .f64 T.tx, .float .f64 T.ty, .slice ps pn pc_]] w fun e w' => e = .returned (.int .i64 (ckE T pn P)) ∧ Bel w w' := by
  have hpm9 := hpm
  unfold maxLen at hpm
  have hA : (w.alloc (.cells #[.int .i64 T.ta, .int .i64 T.tp, .int .i64 T.tb, .int .i64 T.tq, .bool T.ts, .float .f64 T.tx, .float .f64 T.ty, .slice ps pn pc_] 29)).rangeAt w.heap.size 0 [.int .i64 T.ta, .int .i64 T.tp, .int .i64 T.tb, .int .i64 T.tq, .bool T.ts, .float .f64 T.tx, .float .f64 T.ty, .slice ps pn pc_] := rng_new w [.int .i64 T.ta, .int .i64 T.tp, .int .i64 T.tb, .int .i64 T.tq, .bool T.ts, .float .f64 T.tx, .float .f64 T.ty, .slice ps pn pc_] 29
  have BB : Bel w (w.alloc (.cells #[.int .i64 T.ta, .int .i64 T.tp, .int .i64 T.tb, .int .i64 T.tq, .bool T.ts, .float .f64 T.tx, .float .f64 T.ty, .slice ps pn pc_] 29)) := bl_alloc (bl_refl w) _ _
  have hPr : (w.alloc (.cells #[.int .i64 T.ta, .int .i64 T.tp, .int .i64 T.tb, .int .i64 T.tq, .bool T.ts, .float .f64 T.tx, .float .f64 T.ty, .slice ps pn pc_] 29)).rangeAt w.heap.size 0 [.int .i64 T.ta, .int .i64 T.tp, .int .i64 T.tb, .int .i64 T.tq] := rng_mid 0 4 hA
  have hN : (w.alloc (.cells #[.int .i64 T.ta, .int .i64 T.tp, .int .i64 T.tb, .int .i64 T.tq, .bool T.ts, .float .f64 T.tx, .float .f64 T.ty, .slice ps pn pc_] 29)).rangeAt w.heap.size 5 [.float .f64 T.tx, .float .f64 T.ty] := by have h := rng_mid 5 2 hA; rwa [Nat.zero_add] at h
  have kS : (w.alloc (.cells #[.int .i64 T.ta, .int .i64 T.tp, .int .i64 T.tb, .int .i64 T.tq, .bool T.ts, .float .f64 T.tx, .float .f64 T.ty, .slice ps pn pc_] 29)).cell? ⟨w.heap.size, 7, none⟩ = some (.slice ps pn pc_) := hA 7 _ rfl
  clear hA
  have nI : ¬ (pn : Int) < 1 := by omega
  have nJ : ¬ (8 : Int) < (pn : Int) := by omega
  have e9 : ps = some ⟨pb, po, none⟩ := by rcases hps with h | h; omega; exact h
  subst e9
  go_enter Try.func47, Try.ntmps47
  repeat (first | ((with_reducible show Oper.wp _ { dst := _, op := Op.load 23 _, type := _, pos := _, after := _, guard := _ } _ _ _ _); refine wp_load_mid (P := Try.prog) 23 _ rfl _ _ rfl [.int .i64 T.ta, .int .i64 T.tp, .int .i64 T.tb, .int .i64 T.tq] _ hPr Try.underlying23 rfl (by kernel_rfl) ?_; simp only [go_sem]) | (go_at_call 88; (with_reducible refine (isPair_w T _).mono ?_); rintro e w1 ⟨rfl, hb1⟩; rw [h0]; replace hN := rng_bel hN hb1; replace kS := keep hb1 kS; replace BB := bl_trans BB hb1) | ((with_reducible show Oper.wp _ { dst := _, op := Op.load 26 _, type := _, pos := _, after := _, guard := _ } _ _ _ _); refine wp_load_mid (P := Try.prog) 26 _ rfl _ _ rfl [.float .f64 T.tx, .float .f64 T.ty] _ hN Try.underlying26 rfl (by kernel_rfl) ?_; simp only [go_sem]) | (go_at_call 89; (with_reducible refine (vWithin_any T.tx T.ty 4611686018427387904 _).mono ?_); rintro e w2 ⟨rfl, hb2⟩; rw [h1]; replace hN := rng_bel hN hb2; replace kS := keep hb2 kS; replace BB := bl_trans BB hb2) | (go_at_call 90; (with_reducible refine (isUnit_w T.tx T.ty _).mono ?_); rintro e w3 ⟨rfl, hb3⟩; rw [h2]; replace hN := rng_bel hN hb3; replace kS := keep hb3 kS; replace BB := bl_trans BB hb3) | go_values | go_skip | go_guarded | go_step | go_upon | go_back | dsimp only)
  go_loopw [36] (fun i wr => ∃ k : Nat, k ≤ pn ∧ i = .int .i64 k ∧ Bel w wr ∧ wr.cell? ⟨w.heap.size, 7, none⟩ = some (.slice (some ⟨pb, po, none⟩) pn pc_) ∧ allP P k = true) (fun i _ => pn - (intOf i).toNat)
  case atStart => exact ⟨0, by omega, rfl, BB, kS, rfl⟩
  case round =>
    obtain ⟨k, hk, rfl, hB, kS9, hall⟩ := hrel
    by_cases hlt : k < pn
    · have hld : wr.rangeAt pb (po + k * 6) [.float .f64 (P k).x, .float .f64 (P k).y, .float .f64 (P k).dp, .int .u32 (P k).id, .float .f64 (P k).pu, .float .f64 (P k).dr] := (hp.bel hB) k hlt
      have hkI : (k : Int) < (pn : Int) := by omega
      have hcI : (k : Int) < (pc_ : Int) := by omega
      have hcJ : (k : Int) ≤ (pc_ : Int) := by omega
      have hX : (wr.alloc (.cells #[.float .f64 0, .float .f64 0, .float .f64 0, .int .u32 0, .float .f64 0, .float .f64 0] 39)).there wr.heap.size 0 6 := there_new wr [.float .f64 0, .float .f64 0, .float .f64 0, .int .u32 0, .float .f64 0, .float .f64 0] 39
      have hbx0 : ((wr.alloc (.cells #[.float .f64 0, .float .f64 0, .float .f64 0, .int .u32 0, .float .f64 0, .float .f64 0] 39)).setCells wr.heap.size 0 [.float .f64 (P k).x, .float .f64 (P k).y, .float .f64 (P k).dp, .int .u32 (P k).id, .float .f64 (P k).pu, .float .f64 (P k).dr]).rangeAt wr.heap.size 0 [.float .f64 (P k).x, .float .f64 (P k).y, .float .f64 (P k).dp, .int .u32 (P k).id, .float .f64 (P k).pu, .float .f64 (P k).dr] := World.rangeAt_setCells_same _ _ _ _ hX
      have hB2 : Bel wr ((wr.alloc (.cells #[.float .f64 0, .float .f64 0, .float .f64 0, .int .u32 0, .float .f64 0, .float .f64 0] 39)).setCells wr.heap.size 0 [.float .f64 (P k).x, .float .f64 (P k).y, .float .f64 (P k).dp, .int .u32 (P k).id, .float .f64 (P k).pu, .float .f64 (P k).dr]) := bel_setsJ _ _ (bl_alloc (bl_refl _) _ _) (Nat.le_refl _)
      have kS2 := keep hB2 kS9
      have cI : ((wr.alloc (.cells #[.float .f64 0, .float .f64 0, .float .f64 0, .int .u32 0, .float .f64 0, .float .f64 0] 39)).setCells wr.heap.size 0 [.float .f64 (P k).x, .float .f64 (P k).y, .float .f64 (P k).dp, .int .u32 (P k).id, .float .f64 (P k).pu, .float .f64 (P k).dr]).cell? ⟨wr.heap.size, 3, none⟩ = some (.int .u32 (P k).id) := hbx0 3 _ rfl
      have hp9 : Pts ((wr.alloc (.cells #[.float .f64 0, .float .f64 0, .float .f64 0, .int .u32 0, .float .f64 0, .float .f64 0] 39)).setCells wr.heap.size 0 [.float .f64 (P k).x, .float .f64 (P k).y, .float .f64 (P k).dp, .int .u32 (P k).id, .float .f64 (P k).pu, .float .f64 (P k).dr]) pb po pn P := (hp.bel hB).bel hB2
      repeat (first | ((with_reducible show Oper.wp _ { dst := _, op := Op.load 39 _, type := _, pos := _, after := _, guard := _ } _ _ _ _); refine wp_load_mid (P := Try.prog) 39 _ rfl _ _ rfl [.float .f64 (P k).x, .float .f64 (P k).y, .float .f64 (P k).dp, .int .u32 (P k).id, .float .f64 (P k).pu, .float .f64 (P k).dr] _ hld Try.underlying39 rfl (by kernel_rfl) ?_; simp only [go_sem]) | ((with_reducible show Oper.wp _ { dst := _, op := Op.store 39 _ _, type := _, pos := _, after := _, guard := _ } _ _ _ _); refine wp_store_mid (P := Try.prog) 39 _ _ rfl (wr.heap.size) (0) #[.float .f64 (P k).x, .float .f64 (P k).y, .float .f64 (P k).dp, .int .u32 (P k).id, .float .f64 (P k).pu, .float .f64 (P k).dr] rfl rfl hX (by kernel_rfl) (by kernel_rfl) ?_; (try simp only [go_sem])) | go_values | go_skip | go_guarded | go_step | go_upon | go_back | dsimp only)
      refine wp_region_new 13 rfl (fun i v => match i with | 0 => v = .pointer (some ⟨w.heap.size, 7, none⟩) | 1 => v = .slice (some ⟨pb, po, none⟩) pn pc_ | 2 => v = .int .i64 (k : Int) | 3 => v = .slice (some ⟨pb, po, none⟩) k pc_ | 4 => v = .pointer (some ⟨wr.heap.size, 3, none⟩) | 5 => v = .int .u32 (P k).id | 6 => ∃ q : PD, v = .tuple #[.agg #[.float .f64 q.x, .float .f64 q.y, .float .f64 q.dp, .int .u32 q.id, .float .f64 q.pu, .float .f64 q.dr], .bool (hasB P (P k).id k)] | 7 => ∃ q : PD, v = .tuple #[.agg #[.float .f64 q.x, .float .f64 q.y, .float .f64 q.dp, .int .u32 q.id, .float .f64 q.pu, .float .f64 q.dr], .bool (hasB P (P k).id k)] | 8 => ∃ q : PD, v = .agg #[.float .f64 q.x, .float .f64 q.y, .float .f64 q.dp, .int .u32 q.id, .float .f64 q.pu, .float .f64 q.dr] | 9 => v = .bool (hasB P (P k).id k) | 12 => v = .bool (hasB P (P k).id k) | _ => False) [(10, #[.float .f64 0, .float .f64 0, .float .f64 0, .int .u32 0, .float .f64 0, .float .f64 0], 39)] [(11, 10, 8)] ?A_wn (by kernel_rfl) (by kernel_rfl) ?hA_wn ?ha_wn ?hst_wn ?hq_wn ?ht_wn
      case hA_wn =>
        intro s
        simp only [putL, dstO, Act.put, List.getElem?_toArray, List.getElem?_cons_zero, List.getElem?_cons_succ, Option.bind_some, List.setIfInBounds_toArray, List.set_cons_zero, List.set_cons_succ, if_true]
        all_goals exact rfl
      case ha_wn =>
        intro i o c ty hi ho hal B W K hK
        rcases (show i = 0 ∨ i = 1 ∨ i = 2 ∨ i = 3 ∨ i = 4 ∨ i = 5 ∨ i = 6 ∨ i = 7 ∨ i = 8 ∨ i = 9 ∨ i = 10 ∨ i = 11 ∨ i = 12 by omega) with rfl | rfl | rfl | rfl | rfl | rfl | rfl | rfl | rfl | rfl | rfl | rfl | rfl
        · cases (show none = some (c, ty) from hal)
        · cases (show none = some (c, ty) from hal)
        · cases (show none = some (c, ty) from hal)
        · cases (show none = some (c, ty) from hal)
        · cases (show none = some (c, ty) from hal)
        · cases (show none = some (c, ty) from hal)
        · cases (show none = some (c, ty) from hal)
        · cases (show none = some (c, ty) from hal)
        · cases (show none = some (c, ty) from hal)
        · cases (show none = some (c, ty) from hal)
        · cases ho; cases (show some (#[.float .f64 0, .float .f64 0, .float .f64 0, .int .u32 0, .float .f64 0, .float .f64 0], 39) = some (c, ty) from hal); go_simp; exact hK.out
        · cases (show none = some (c, ty) from hal)
        · cases (show none = some (c, ty) from hal)
      case hst_wn =>
        intro t o a d c ty hlt ho hts hal s hs W b eb hc hf K hK
        rcases (show t = 0 ∨ t = 1 ∨ t = 2 ∨ t = 3 ∨ t = 4 ∨ t = 5 ∨ t = 6 ∨ t = 7 ∨ t = 8 ∨ t = 9 ∨ t = 10 ∨ t = 11 ∨ t = 12 by omega) with rfl | rfl | rfl | rfl | rfl | rfl | rfl | rfl | rfl | rfl | rfl | rfl | rfl
        · cases (show none = some (a, d) from hts)
        · cases (show none = some (a, d) from hts)
        · cases (show none = some (a, d) from hts)
        · cases (show none = some (a, d) from hts)
        · cases (show none = some (a, d) from hts)
        · cases (show none = some (a, d) from hts)
        · cases (show none = some (a, d) from hts)
        · cases (show none = some (a, d) from hts)
        · cases (show none = some (a, d) from hts)
        · cases (show none = some (a, d) from hts)
        · cases (show none = some (a, d) from hts)
        · cases ho; cases (show some (10, 8) = some (a, d) from hts); cases (show some (#[.float .f64 0, .float .f64 0, .float .f64 0, .int .u32 0, .float .f64 0, .float .f64 0], 39) = some (c, ty) from hal)
          obtain ⟨q8, e8⟩ := hs 8 (by decide) rfl rfl (by kernel_rfl)
          obtain ⟨u0, hu0⟩ := Option.isSome_iff_exists.1 (hc 0 (by decide))
          obtain ⟨u1, hu1⟩ := Option.isSome_iff_exists.1 (hc 1 (by decide))
          obtain ⟨u2, hu2⟩ := Option.isSome_iff_exists.1 (hc 2 (by decide))
          obtain ⟨u3, hu3⟩ := Option.isSome_iff_exists.1 (hc 3 (by decide))
          obtain ⟨u4, hu4⟩ := Option.isSome_iff_exists.1 (hc 4 (by decide))
          obtain ⟨u5, hu5⟩ := Option.isSome_iff_exists.1 (hc 5 (by decide))
          simp only [eb, e8] at hK ⊢
          clear hs
          go_simp
          exact hK.out
        · cases (show none = some (a, d) from hts)
      case hq_wn =>
        intro i o hi hal hts ho s hs W hb K hK
        have u0 := keep hb kS2; have u1 := keep hb cI
        rcases (show i = 0 ∨ i = 1 ∨ i = 2 ∨ i = 3 ∨ i = 4 ∨ i = 5 ∨ i = 6 ∨ i = 7 ∨ i = 8 ∨ i = 9 ∨ i = 10 ∨ i = 11 ∨ i = 12 by omega) with rfl | rfl | rfl | rfl | rfl | rfl | rfl | rfl | rfl | rfl | rfl | rfl | rfl
        · cases ho
          simp only [Act.put, List.setIfInBounds_toArray, List.set_cons_zero, List.set_cons_succ] at hK
          clear hs hal hts
          go_simp
          all_goals (try go_wp2_with (first | (go_at_call 91; (with_reducible refine (find_w pb po k pc_ (some ⟨pb, po, none⟩) P (P k).id _ (.inr rfl) (by omega) hpm9 ((hp9.bel hb).pre (by omega)) (fun i hi => op i (by omega))).mono ?_); rintro e w' ⟨q, rfl, hb1⟩)))
          all_goals first | with_reducible exact hK.out _ _ ⟨_, rfl⟩ hb1 | with_reducible exact hK.out _ _ ⟨_, rfl⟩ (bl_refl _) | exact hK.out _ _ rfl (bl_refl _) | exact hK.out _ _ rfl (by assumption) | exact hK.out _ _ (by assumption) (by assumption)
        · cases ho
          have e0 : s 0 = _ := hs 0 (by decide) rfl rfl (by kernel_rfl)
          simp only [e0] at hK ⊢
          simp only [Act.put, List.setIfInBounds_toArray, List.set_cons_zero, List.set_cons_succ] at hK
          clear hs hal hts
          go_simp
          all_goals (try go_wp2_with (first | (go_at_call 91; (with_reducible refine (find_w pb po k pc_ (some ⟨pb, po, none⟩) P (P k).id _ (.inr rfl) (by omega) hpm9 ((hp9.bel hb).pre (by omega)) (fun i hi => op i (by omega))).mono ?_); rintro e w' ⟨q, rfl, hb1⟩)))
          all_goals first | with_reducible exact hK.out _ _ ⟨_, rfl⟩ hb1 | with_reducible exact hK.out _ _ ⟨_, rfl⟩ (bl_refl _) | exact hK.out _ _ rfl (bl_refl _) | exact hK.out _ _ rfl (by assumption) | exact hK.out _ _ (by assumption) (by assumption)
        · cases ho
          simp only [Act.put, List.setIfInBounds_toArray, List.set_cons_zero, List.set_cons_succ] at hK
          clear hs hal hts
          go_simp
          all_goals (try go_wp2_with (first | (go_at_call 91; (with_reducible refine (find_w pb po k pc_ (some ⟨pb, po, none⟩) P (P k).id _ (.inr rfl) (by omega) hpm9 ((hp9.bel hb).pre (by omega)) (fun i hi => op i (by omega))).mono ?_); rintro e w' ⟨q, rfl, hb1⟩)))
          all_goals first | with_reducible exact hK.out _ _ ⟨_, rfl⟩ hb1 | with_reducible exact hK.out _ _ ⟨_, rfl⟩ (bl_refl _) | exact hK.out _ _ rfl (bl_refl _) | exact hK.out _ _ rfl (by assumption) | exact hK.out _ _ (by assumption) (by assumption)
        · cases ho
          have e1 : s 1 = _ := hs 1 (by decide) rfl rfl (by kernel_rfl)
          have e2 : s 2 = _ := hs 2 (by decide) rfl rfl (by kernel_rfl)
          simp only [e1, e2] at hK ⊢
          simp only [Act.put, List.setIfInBounds_toArray, List.set_cons_zero, List.set_cons_succ] at hK
          clear hs hal hts
          go_simp
          all_goals (try go_wp2_with (first | (go_at_call 91; (with_reducible refine (find_w pb po k pc_ (some ⟨pb, po, none⟩) P (P k).id _ (.inr rfl) (by omega) hpm9 ((hp9.bel hb).pre (by omega)) (fun i hi => op i (by omega))).mono ?_); rintro e w' ⟨q, rfl, hb1⟩)))
          all_goals first | with_reducible exact hK.out _ _ ⟨_, rfl⟩ hb1 | with_reducible exact hK.out _ _ ⟨_, rfl⟩ (bl_refl _) | exact hK.out _ _ rfl (bl_refl _) | exact hK.out _ _ rfl (by assumption) | exact hK.out _ _ (by assumption) (by assumption)
        · cases ho
          simp only [Act.put, List.setIfInBounds_toArray, List.set_cons_zero, List.set_cons_succ] at hK
          clear hs hal hts
          go_simp
          all_goals (try go_wp2_with (first | (go_at_call 91; (with_reducible refine (find_w pb po k pc_ (some ⟨pb, po, none⟩) P (P k).id _ (.inr rfl) (by omega) hpm9 ((hp9.bel hb).pre (by omega)) (fun i hi => op i (by omega))).mono ?_); rintro e w' ⟨q, rfl, hb1⟩)))
          all_goals first | with_reducible exact hK.out _ _ ⟨_, rfl⟩ hb1 | with_reducible exact hK.out _ _ ⟨_, rfl⟩ (bl_refl _) | exact hK.out _ _ rfl (bl_refl _) | exact hK.out _ _ rfl (by assumption) | exact hK.out _ _ (by assumption) (by assumption)
        · cases ho
          have e4 : s 4 = _ := hs 4 (by decide) rfl rfl (by kernel_rfl)
          simp only [e4] at hK ⊢
          simp only [Act.put, List.setIfInBounds_toArray, List.set_cons_zero, List.set_cons_succ] at hK
          clear hs hal hts
          go_simp
          all_goals (try go_wp2_with (first | (go_at_call 91; (with_reducible refine (find_w pb po k pc_ (some ⟨pb, po, none⟩) P (P k).id _ (.inr rfl) (by omega) hpm9 ((hp9.bel hb).pre (by omega)) (fun i hi => op i (by omega))).mono ?_); rintro e w' ⟨q, rfl, hb1⟩)))
          all_goals first | with_reducible exact hK.out _ _ ⟨_, rfl⟩ hb1 | with_reducible exact hK.out _ _ ⟨_, rfl⟩ (bl_refl _) | exact hK.out _ _ rfl (bl_refl _) | exact hK.out _ _ rfl (by assumption) | exact hK.out _ _ (by assumption) (by assumption)
        · cases ho
          have e3 : s 3 = _ := hs 3 (by decide) rfl rfl (by kernel_rfl)
          have e5 : s 5 = _ := hs 5 (by decide) rfl rfl (by kernel_rfl)
          simp only [e3, e5] at hK ⊢
          simp only [Act.put, List.setIfInBounds_toArray, List.set_cons_zero, List.set_cons_succ] at hK
          clear hs hal hts
          go_simp
          all_goals (try go_wp2_with (first | (go_at_call 91; (with_reducible refine (find_w pb po k pc_ (some ⟨pb, po, none⟩) P (P k).id _ (.inr rfl) (by omega) hpm9 ((hp9.bel hb).pre (by omega)) (fun i hi => op i (by omega))).mono ?_); rintro e w' ⟨q, rfl, hb1⟩)))
          all_goals first | with_reducible exact hK.out _ _ ⟨_, rfl⟩ hb1 | with_reducible exact hK.out _ _ ⟨_, rfl⟩ (bl_refl _) | exact hK.out _ _ rfl (bl_refl _) | exact hK.out _ _ rfl (by assumption) | exact hK.out _ _ (by assumption) (by assumption)
        · cases ho
          obtain ⟨q6, e6⟩ := hs 6 (by decide) rfl rfl (by kernel_rfl)
          simp only [e6] at hK ⊢
          simp only [Act.put, List.setIfInBounds_toArray, List.set_cons_zero, List.set_cons_succ] at hK
          clear hs hal hts
          go_simp
          all_goals (try go_wp2_with (first | (go_at_call 91; (with_reducible refine (find_w pb po k pc_ (some ⟨pb, po, none⟩) P (P k).id _ (.inr rfl) (by omega) hpm9 ((hp9.bel hb).pre (by omega)) (fun i hi => op i (by omega))).mono ?_); rintro e w' ⟨q, rfl, hb1⟩)))
          all_goals first | with_reducible exact hK.out _ _ ⟨_, rfl⟩ hb1 | with_reducible exact hK.out _ _ ⟨_, rfl⟩ (bl_refl _) | exact hK.out _ _ rfl (bl_refl _) | exact hK.out _ _ rfl (by assumption) | exact hK.out _ _ (by assumption) (by assumption)
        · cases ho
          obtain ⟨q7, e7⟩ := hs 7 (by decide) rfl rfl (by kernel_rfl)
          simp only [e7] at hK ⊢
          simp only [Act.put, List.setIfInBounds_toArray, List.set_cons_zero, List.set_cons_succ] at hK
          clear hs hal hts
          go_simp
          all_goals (try go_wp2_with (first | (go_at_call 91; (with_reducible refine (find_w pb po k pc_ (some ⟨pb, po, none⟩) P (P k).id _ (.inr rfl) (by omega) hpm9 ((hp9.bel hb).pre (by omega)) (fun i hi => op i (by omega))).mono ?_); rintro e w' ⟨q, rfl, hb1⟩)))
          all_goals first | with_reducible exact hK.out _ _ ⟨_, rfl⟩ hb1 | with_reducible exact hK.out _ _ ⟨_, rfl⟩ (bl_refl _) | exact hK.out _ _ rfl (bl_refl _) | exact hK.out _ _ rfl (by assumption) | exact hK.out _ _ (by assumption) (by assumption)
        · cases ho
          obtain ⟨q7, e7⟩ := hs 7 (by decide) rfl rfl (by kernel_rfl)
          simp only [e7] at hK ⊢
          simp only [Act.put, List.setIfInBounds_toArray, List.set_cons_zero, List.set_cons_succ] at hK
          clear hs hal hts
          go_simp
          all_goals (try go_wp2_with (first | (go_at_call 91; (with_reducible refine (find_w pb po k pc_ (some ⟨pb, po, none⟩) P (P k).id _ (.inr rfl) (by omega) hpm9 ((hp9.bel hb).pre (by omega)) (fun i hi => op i (by omega))).mono ?_); rintro e w' ⟨q, rfl, hb1⟩)))
          all_goals first | with_reducible exact hK.out _ _ ⟨_, rfl⟩ hb1 | with_reducible exact hK.out _ _ ⟨_, rfl⟩ (bl_refl _) | exact hK.out _ _ rfl (bl_refl _) | exact hK.out _ _ rfl (by assumption) | exact hK.out _ _ (by assumption) (by assumption)
        · cases (show some _ = none from hal)
        · cases (show some _ = none from hts)
        · cases ho
          have e9 : s 9 = _ := hs 9 (by decide) rfl rfl (by kernel_rfl)
          simp only [e9] at hK ⊢
          simp only [Act.put, List.setIfInBounds_toArray, List.set_cons_zero, List.set_cons_succ] at hK
          clear hs hal hts
          go_simp
          all_goals (try go_wp2_with (first | (go_at_call 91; (with_reducible refine (find_w pb po k pc_ (some ⟨pb, po, none⟩) P (P k).id _ (.inr rfl) (by omega) hpm9 ((hp9.bel hb).pre (by omega)) (fun i hi => op i (by omega))).mono ?_); rintro e w' ⟨q, rfl, hb1⟩)))
          all_goals first | with_reducible exact hK.out _ _ ⟨_, rfl⟩ hb1 | with_reducible exact hK.out _ _ ⟨_, rfl⟩ (bl_refl _) | exact hK.out _ _ rfl (bl_refl _) | exact hK.out _ _ rfl (by assumption) | exact hK.out _ _ (by assumption) (by assumption)
      case ht_wn =>
        intro s hs W hb hJ
        have e0 : s 0 = _ := hs 0 (by decide) rfl rfl
        have e1 : s 1 = _ := hs 1 (by decide) rfl rfl
        have e2 : s 2 = _ := hs 2 (by decide) rfl rfl
        have e3 : s 3 = _ := hs 3 (by decide) rfl rfl
        have e4 : s 4 = _ := hs 4 (by decide) rfl rfl
        have e5 : s 5 = _ := hs 5 (by decide) rfl rfl
        obtain ⟨q6, e6⟩ := hs 6 (by decide) rfl rfl
        obtain ⟨q7, e7⟩ := hs 7 (by decide) rfl rfl
        obtain ⟨q8, e8⟩ := hs 8 (by decide) rfl rfl
        have e9 : s 9 = _ := hs 9 (by decide) rfl rfl
        have e12 : s 12 = _ := hs 12 (by decide) rfl rfl
        obtain ⟨p10, e10, n10, l10, cl10⟩ := hJ.1 10 _ _ (by decide) rfl rfl
        have k_p10_0 : W.cell? ⟨p10, 0, none⟩ = some (cellAt (s 8) 0) := cl10 0 (by decide)
        have k_p10_1 : W.cell? ⟨p10, 1, none⟩ = some (cellAt (s 8) 1) := cl10 1 (by decide)
        have k_p10_2 : W.cell? ⟨p10, 2, none⟩ = some (cellAt (s 8) 2) := cl10 2 (by decide)
        have k_p10_3 : W.cell? ⟨p10, 3, none⟩ = some (cellAt (s 8) 3) := cl10 3 (by decide)
        have k_p10_4 : W.cell? ⟨p10, 4, none⟩ = some (cellAt (s 8) 4) := cl10 4 (by decide)
        have k_p10_5 : W.cell? ⟨p10, 5, none⟩ = some (cellAt (s 8) 5) := cl10 5 (by decide)
        rw [e8] at k_p10_0 k_p10_1 k_p10_2 k_p10_3 k_p10_4 k_p10_5
        simp only [cellAt] at k_p10_0 k_p10_1 k_p10_2 k_p10_3 k_p10_4 k_p10_5
        simp only [e0, e1, e2, e3, e4, e5, e6, e7, e8, e9, e12, e10]
        clear hs hJ e0 e1 e2 e3 e4 e5 e6 e7 e8 e9 e12 e10 cl10
        have hB8 := bl_trans (bl_trans hB hB2) hb
        have kS8 := keep (bl_trans hB2 hb) kS9
        have hld8 : W.rangeAt wr.heap.size 0 [.float .f64 (P k).x, .float .f64 (P k).y, .float .f64 (P k).dp, .int .u32 (P k).id, .float .f64 (P k).pu, .float .f64 (P k).dr] := rng_bel hbx0 hb
        have oPk := op k hlt
        cases hd : (hasB P (P k).id k)
        · cases hq : poB (P k)
          · have e9 : ckE T pn P = 2 := ck_two (fun h => by rw [allP_no (by unfold dupB; rw [hd, hq]; rfl) hlt] at h; exact absurd h.2.2 (by decide))
            repeat (first | (with_reducible show Oper.wp _ _ _ _ _ _; refine wp_load_mid (P := Try.prog) 39 _ rfl (wr.heap.size) 0 rfl [.float .f64 (P k).x, .float .f64 (P k).y, .float .f64 (P k).dp, .int .u32 (P k).id, .float .f64 (P k).pu, .float .f64 (P k).dr] _ (by with_reducible assumption) Try.underlying39 rfl (by kernel_rfl) ?_; simp only [go_sem]) | (go_at_call 92; (with_reducible refine (isPoint_w (P k) _ oPk).mono ?_); rintro e w9 ⟨rfl, hb9⟩; rw [hq]) | go_values | go_skip | go_guarded | go_step | go_upon | go_back | dsimp only)
            go_ret
            exact ⟨by rw [e9]; rfl, bl_trans hB8 hb9⟩
          · repeat (first | (with_reducible show Oper.wp _ _ _ _ _ _; refine wp_load_mid (P := Try.prog) 39 _ rfl (wr.heap.size) 0 rfl [.float .f64 (P k).x, .float .f64 (P k).y, .float .f64 (P k).dp, .int .u32 (P k).id, .float .f64 (P k).pu, .float .f64 (P k).dr] _ (by with_reducible assumption) Try.underlying39 rfl (by kernel_rfl) ?_; simp only [go_sem]) | (go_at_call 92; (with_reducible refine (isPoint_w (P k) _ oPk).mono ?_); rintro e w9 ⟨rfl, hb9⟩; rw [hq]) | go_values | go_skip | go_guarded | go_step | go_upon | go_back | dsimp only)
            refine ⟨⟨k + 1, by omega, by go_num, bl_trans hB8 hb9, keep hb9 kS8, ?_⟩, by simp [intOf]; omega⟩
            unfold allP dupB
            rw [hall, hd, hq]
            rfl
        · have e9 : ckE T pn P = 2 := ck_two (fun h => by rw [allP_no (by unfold dupB; rw [hd]; rfl) hlt] at h; exact absurd h.2.2 (by decide))
          repeat (first | go_values | go_skip | go_guarded | go_step | go_upon | go_back | dsimp only)
          go_ret
          exact ⟨by rw [e9]; rfl, hB8⟩
    · have hkn : k = pn := by omega
      subst hkn
      have e9 : ckE T k P = 0 := if_pos ⟨by simp [frB, h0, h1, h2], ⟨h3, h4⟩, hall⟩
      repeat (first | go_values | go_skip | go_guarded | go_step | go_upon | go_back | dsimp only)
      go_ret
      exact ⟨by rw [e9]; rfl, hB⟩

set_option maxRecDepth 100000 in
set_option maxHeartbeats 4000000 in
theorem touchCheck_w (T : TD) (pb po pn pc_ : Nat) (ps : Option Addr) (P : Nat → PD) (w : World) (hps : pn = 0 ∨ ps = some ⟨pb, po, none⟩) (hpc : pn ≤ pc_) (hpm : pc_ ≤ maxLen) (hp : Pts w pb po pn P) (op : ∀ i, i < pn → pok (P i)) : Calls Try.prog 47 #[.agg #[.int .i64 T.ta, .int .i64 T.tp, .int .i64 T.tb, .int .i64 T.tq, .bool T.ts, .float .f64 T.tx, .float .f64 T.ty, .slice ps pn pc_]] w fun e w' => e = .returned (.int .i64 (ckE T pn P)) ∧ Bel w w' := by
  have hpm9 := hpm
  unfold maxLen at hpm
  have hA : (w.alloc (.cells #[.int .i64 T.ta, .int .i64 T.tp, .int .i64 T.tb, .int .i64 T.tq, .bool T.ts, .float .f64 T.tx, .float .f64 T.ty, .slice ps pn pc_] 29)).rangeAt w.heap.size 0 [.int .i64 T.ta, .int .i64 T.tp, .int .i64 T.tb, .int .i64 T.tq, .bool T.ts, .float .f64 T.tx, .float .f64 T.ty, .slice ps pn pc_] := rng_new w [.int .i64 T.ta, .int .i64 T.tp, .int .i64 T.tb, .int .i64 T.tq, .bool T.ts, .float .f64 T.tx, .float .f64 T.ty, .slice ps pn pc_] 29
  have BB : Bel w (w.alloc (.cells #[.int .i64 T.ta, .int .i64 T.tp, .int .i64 T.tb, .int .i64 T.tq, .bool T.ts, .float .f64 T.tx, .float .f64 T.ty, .slice ps pn pc_] 29)) := bl_alloc (bl_refl w) _ _
  have hPr : (w.alloc (.cells #[.int .i64 T.ta, .int .i64 T.tp, .int .i64 T.tb, .int .i64 T.tq, .bool T.ts, .float .f64 T.tx, .float .f64 T.ty, .slice ps pn pc_] 29)).rangeAt w.heap.size 0 [.int .i64 T.ta, .int .i64 T.tp, .int .i64 T.tb, .int .i64 T.tq] := rng_mid 0 4 hA
  have hN : (w.alloc (.cells #[.int .i64 T.ta, .int .i64 T.tp, .int .i64 T.tb, .int .i64 T.tq, .bool T.ts, .float .f64 T.tx, .float .f64 T.ty, .slice ps pn pc_] 29)).rangeAt w.heap.size 5 [.float .f64 T.tx, .float .f64 T.ty] := by have h := rng_mid 5 2 hA; rwa [Nat.zero_add] at h
  have kS : (w.alloc (.cells #[.int .i64 T.ta, .int .i64 T.tp, .int .i64 T.tb, .int .i64 T.tq, .bool T.ts, .float .f64 T.tx, .float .f64 T.ty, .slice ps pn pc_] 29)).cell? ⟨w.heap.size, 7, none⟩ = some (.slice ps pn pc_) := hA 7 _ rfl
  clear hA
  cases h0 : prB T
  · have e9 : ckE T pn P = 2 := ck_two (fun h => by have h9 := h.1; simp [frB, h0] at h9)
    go_enter Try.func47, Try.ntmps47
    repeat (first | ((with_reducible show Oper.wp _ { dst := _, op := Op.load 23 _, type := _, pos := _, after := _, guard := _ } _ _ _ _); refine wp_load_mid (P := Try.prog) 23 _ rfl _ _ rfl [.int .i64 T.ta, .int .i64 T.tp, .int .i64 T.tb, .int .i64 T.tq] _ hPr Try.underlying23 rfl (by kernel_rfl) ?_; simp only [go_sem]) | (go_at_call 88; (with_reducible refine (isPair_w T _).mono ?_); rintro e w1 ⟨rfl, hb1⟩; rw [h0]; replace hN := rng_bel hN hb1; replace kS := keep hb1 kS; replace BB := bl_trans BB hb1) | ((with_reducible show Oper.wp _ { dst := _, op := Op.load 26 _, type := _, pos := _, after := _, guard := _ } _ _ _ _); refine wp_load_mid (P := Try.prog) 26 _ rfl _ _ rfl [.float .f64 T.tx, .float .f64 T.ty] _ hN Try.underlying26 rfl (by kernel_rfl) ?_; simp only [go_sem]) | (go_at_call 89; (with_reducible refine (vWithin_any T.tx T.ty 4611686018427387904 _).mono ?_); rintro e w2 ⟨rfl, hb2⟩; rw [h1]; replace hN := rng_bel hN hb2; replace kS := keep hb2 kS; replace BB := bl_trans BB hb2) | (go_at_call 90; (with_reducible refine (isUnit_w T.tx T.ty _).mono ?_); rintro e w3 ⟨rfl, hb3⟩; rw [h2]; replace hN := rng_bel hN hb3; replace kS := keep hb3 kS; replace BB := bl_trans BB hb3) | go_values | go_skip | go_guarded | go_step | go_upon | go_back | dsimp only)
    go_ret
    exact ⟨by rw [e9]; rfl, BB⟩
  cases h1 : (withinK .f64 T.tx 4611686018427387904 && withinK .f64 T.ty 4611686018427387904)
  · have e9 : ckE T pn P = 2 := ck_two (fun h => by have h9 := h.1; simp [frB, h0, h1] at h9)
    go_enter Try.func47, Try.ntmps47
    repeat (first | ((with_reducible show Oper.wp _ { dst := _, op := Op.load 23 _, type := _, pos := _, after := _, guard := _ } _ _ _ _); refine wp_load_mid (P := Try.prog) 23 _ rfl _ _ rfl [.int .i64 T.ta, .int .i64 T.tp, .int .i64 T.tb, .int .i64 T.tq] _ hPr Try.underlying23 rfl (by kernel_rfl) ?_; simp only [go_sem]) | (go_at_call 88; (with_reducible refine (isPair_w T _).mono ?_); rintro e w1 ⟨rfl, hb1⟩; rw [h0]; replace hN := rng_bel hN hb1; replace kS := keep hb1 kS; replace BB := bl_trans BB hb1) | ((with_reducible show Oper.wp _ { dst := _, op := Op.load 26 _, type := _, pos := _, after := _, guard := _ } _ _ _ _); refine wp_load_mid (P := Try.prog) 26 _ rfl _ _ rfl [.float .f64 T.tx, .float .f64 T.ty] _ hN Try.underlying26 rfl (by kernel_rfl) ?_; simp only [go_sem]) | (go_at_call 89; (with_reducible refine (vWithin_any T.tx T.ty 4611686018427387904 _).mono ?_); rintro e w2 ⟨rfl, hb2⟩; rw [h1]; replace hN := rng_bel hN hb2; replace kS := keep hb2 kS; replace BB := bl_trans BB hb2) | (go_at_call 90; (with_reducible refine (isUnit_w T.tx T.ty _).mono ?_); rintro e w3 ⟨rfl, hb3⟩; rw [h2]; replace hN := rng_bel hN hb3; replace kS := keep hb3 kS; replace BB := bl_trans BB hb3) | go_values | go_skip | go_guarded | go_step | go_upon | go_back | dsimp only)
    go_ret
    exact ⟨by rw [e9]; rfl, BB⟩
  cases h2 : unB T.tx T.ty
  · have e9 : ckE T pn P = 2 := ck_two (fun h => by have h9 := h.1; simp [frB, h0, h1, h2] at h9)
    go_enter Try.func47, Try.ntmps47
    repeat (first | ((with_reducible show Oper.wp _ { dst := _, op := Op.load 23 _, type := _, pos := _, after := _, guard := _ } _ _ _ _); refine wp_load_mid (P := Try.prog) 23 _ rfl _ _ rfl [.int .i64 T.ta, .int .i64 T.tp, .int .i64 T.tb, .int .i64 T.tq] _ hPr Try.underlying23 rfl (by kernel_rfl) ?_; simp only [go_sem]) | (go_at_call 88; (with_reducible refine (isPair_w T _).mono ?_); rintro e w1 ⟨rfl, hb1⟩; rw [h0]; replace hN := rng_bel hN hb1; replace kS := keep hb1 kS; replace BB := bl_trans BB hb1) | ((with_reducible show Oper.wp _ { dst := _, op := Op.load 26 _, type := _, pos := _, after := _, guard := _ } _ _ _ _); refine wp_load_mid (P := Try.prog) 26 _ rfl _ _ rfl [.float .f64 T.tx, .float .f64 T.ty] _ hN Try.underlying26 rfl (by kernel_rfl) ?_; simp only [go_sem]) | (go_at_call 89; (with_reducible refine (vWithin_any T.tx T.ty 4611686018427387904 _).mono ?_); rintro e w2 ⟨rfl, hb2⟩; rw [h1]; replace hN := rng_bel hN hb2; replace kS := keep hb2 kS; replace BB := bl_trans BB hb2) | (go_at_call 90; (with_reducible refine (isUnit_w T.tx T.ty _).mono ?_); rintro e w3 ⟨rfl, hb3⟩; rw [h2]; replace hN := rng_bel hN hb3; replace kS := keep hb3 kS; replace BB := bl_trans BB hb3) | go_values | go_skip | go_guarded | go_step | go_upon | go_back | dsimp only)
    go_ret
    exact ⟨by rw [e9]; rfl, BB⟩
  by_cases h3 : 1 ≤ pn
  rotate_left
  · have nI : (pn : Int) < 1 := by omega
    have e9 : ckE T pn P = 2 := ck_two (fun h => by have h9 := h.2.1; omega)
    go_enter Try.func47, Try.ntmps47
    repeat (first | ((with_reducible show Oper.wp _ { dst := _, op := Op.load 23 _, type := _, pos := _, after := _, guard := _ } _ _ _ _); refine wp_load_mid (P := Try.prog) 23 _ rfl _ _ rfl [.int .i64 T.ta, .int .i64 T.tp, .int .i64 T.tb, .int .i64 T.tq] _ hPr Try.underlying23 rfl (by kernel_rfl) ?_; simp only [go_sem]) | (go_at_call 88; (with_reducible refine (isPair_w T _).mono ?_); rintro e w1 ⟨rfl, hb1⟩; rw [h0]; replace hN := rng_bel hN hb1; replace kS := keep hb1 kS; replace BB := bl_trans BB hb1) | ((with_reducible show Oper.wp _ { dst := _, op := Op.load 26 _, type := _, pos := _, after := _, guard := _ } _ _ _ _); refine wp_load_mid (P := Try.prog) 26 _ rfl _ _ rfl [.float .f64 T.tx, .float .f64 T.ty] _ hN Try.underlying26 rfl (by kernel_rfl) ?_; simp only [go_sem]) | (go_at_call 89; (with_reducible refine (vWithin_any T.tx T.ty 4611686018427387904 _).mono ?_); rintro e w2 ⟨rfl, hb2⟩; rw [h1]; replace hN := rng_bel hN hb2; replace kS := keep hb2 kS; replace BB := bl_trans BB hb2) | (go_at_call 90; (with_reducible refine (isUnit_w T.tx T.ty _).mono ?_); rintro e w3 ⟨rfl, hb3⟩; rw [h2]; replace hN := rng_bel hN hb3; replace kS := keep hb3 kS; replace BB := bl_trans BB hb3) | go_values | go_skip | go_guarded | go_step | go_upon | go_back | dsimp only)
    go_ret
    exact ⟨by rw [e9]; rfl, BB⟩
  by_cases h4 : pn ≤ 8
  rotate_left
  · have nI : ¬ (pn : Int) < 1 := by omega
    have nJ : (8 : Int) < (pn : Int) := by omega
    have e9 : ckE T pn P = 2 := ck_two (fun h => by have h9 := h.2.1; omega)
    go_enter Try.func47, Try.ntmps47
    repeat (first | ((with_reducible show Oper.wp _ { dst := _, op := Op.load 23 _, type := _, pos := _, after := _, guard := _ } _ _ _ _); refine wp_load_mid (P := Try.prog) 23 _ rfl _ _ rfl [.int .i64 T.ta, .int .i64 T.tp, .int .i64 T.tb, .int .i64 T.tq] _ hPr Try.underlying23 rfl (by kernel_rfl) ?_; simp only [go_sem]) | (go_at_call 88; (with_reducible refine (isPair_w T _).mono ?_); rintro e w1 ⟨rfl, hb1⟩; rw [h0]; replace hN := rng_bel hN hb1; replace kS := keep hb1 kS; replace BB := bl_trans BB hb1) | ((with_reducible show Oper.wp _ { dst := _, op := Op.load 26 _, type := _, pos := _, after := _, guard := _ } _ _ _ _); refine wp_load_mid (P := Try.prog) 26 _ rfl _ _ rfl [.float .f64 T.tx, .float .f64 T.ty] _ hN Try.underlying26 rfl (by kernel_rfl) ?_; simp only [go_sem]) | (go_at_call 89; (with_reducible refine (vWithin_any T.tx T.ty 4611686018427387904 _).mono ?_); rintro e w2 ⟨rfl, hb2⟩; rw [h1]; replace hN := rng_bel hN hb2; replace kS := keep hb2 kS; replace BB := bl_trans BB hb2) | (go_at_call 90; (with_reducible refine (isUnit_w T.tx T.ty _).mono ?_); rintro e w3 ⟨rfl, hb3⟩; rw [h2]; replace hN := rng_bel hN hb3; replace kS := keep hb3 kS; replace BB := bl_trans BB hb3) | go_values | go_skip | go_guarded | go_step | go_upon | go_back | dsimp only)
    go_ret
    exact ⟨by rw [e9]; rfl, BB⟩
  exact tck_ok T pb po pn pc_ ps P w hps hpc hpm9 hp op h0 h1 h2 h3 h4

end Go.Proofs.Ytfohggiehbplkaa
