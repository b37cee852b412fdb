/-
  What each function of package poly answers, and what the reference of its chapter answers: one contract a function, for every float: the answer stands in the relation of its formula to what was given; of the memory that was there nothing has turned.
-/
import Derived.Test.YtcdnhkjedmmhpaaVec
import Derived.Test.YtcdnhkjedmmhpaaSli
import Derived.Below
import Derived.WalkKit
import Derived.WalkLawsBesides
import Derived.WalkSpells
import Derived.ProofKit
import Derived.OpenShut
import Derived.Deep.RegionHeld3
namespace Go.Proofs.Ytcdnhkjedmmhpaa
open Go.ChangeShapes Go.WideShapes Go.ChangeAt Go.RowKit
set_option linter.unusedVariables false
set_option linter.unusedSimpArgs false


/-- the first so many counted -/
def cntS (S : Nat → SL) (k : Nat) : Nat → SL := fun i => if i < k then { S i with c := ctF (S i).c } else S i
/-- all of the first so many have been calm for so long -/
def allB (S : Nat → SL) (cs : Int) : Nat → Bool
  | 0 => true
  | k + 1 => allB S cs k && decide (cs ≤ ctF (S k).c)
theorem sls_put {W W' : World} {g n k j q : Nat} {S S' : Nat → SL} {x : Value} (h : Sls W g 0 n S) (hk : k < n) (he : ∀ i, i ≠ k → S' i = S i) (he2 : slc (S' k) = (slc (S k)).set j x) (hq : q = k * 18 + j) (hj : j < 18) (hx : W'.rangeAt g q [x]) (hout : ∀ p, p ≠ q → W'.cell? ⟨g, p, none⟩ = W.cell? ⟨g, p, none⟩) : Sls W' g 0 n S' := fun i hi c v hc => by
  have hc18 : c < 18 := (List.getElem?_eq_some_iff.1 hc).1
  rw [Nat.zero_add]
  by_cases e : i * 18 + c = q
  · have e1 : i = k := by omega
    have e2 : c = j := by omega
    subst e1 e2 hq
    have h0 := hx 0 x rfl
    rw [Nat.add_zero] at h0
    rw [h0]
    rw [he2, List.getElem?_set_self (show c < (slc (S i)).length from hj)] at hc
    exact hc
  · rw [hout _ e]
    have h0 : (slc (S i))[c]? = some v := by
      by_cases e1 : i = k
      · subst e1
        rw [he2, List.getElem?_set_ne (by omega)] at hc
        exact hc
      · rw [he i e1] at hc
        exact hc
    have h1 := h i hi c v h0
    rwa [Nat.zero_add] at h1
set_option maxRecDepth 100000 in
set_option maxHeartbeats 4000000 in
theorem count_w (cs : Int) (g cap sn : Nat) (S : Nat → SL) (ib io im ic : Nat) (is_ : Option Addr) (w : World) (hgc : sn ≤ cap) (hcm : cap ≤ maxLen) (hs : Sls w g 0 sn S) (hgt : w.there g 0 (sn * 18)) (hi1 : im = 0 ∨ is_ = some ⟨ib, io, none⟩) (hic : im ≤ ic) (him : ic ≤ maxLen) (hin : Nts w ib io im) (hmn : im ≤ sn) (hsn : sn ≤ 1024) (hig : ib ≠ g) (hc0 : ∀ i, i < im → 0 ≤ (S i).c) : Calls Try.prog 52 #[.agg #[.float .f64 0, .float .f64 0, .float .f64 0, .int .i64 0, .float .f64 0, .float .f64 0, .float .f64 0, .float .f64 4607182418800017408, .float .f64 4607182418800017408, .int .i64 cs, (.slice (some ⟨g, 0, none⟩) sn cap), .slice none 0 0, .slice none 0 0, .int .i64 0], .slice is_ im ic] w fun e w' => Sls w' g 0 sn (cntS S im) ∧ w'.there g 0 (sn * 18) ∧ Fx [g] (w.alloc (.cells #[.float .f64 0, .float .f64 0, .float .f64 0, .int .i64 0, .float .f64 0, .float .f64 0, .float .f64 0, .float .f64 4607182418800017408, .float .f64 4607182418800017408, .int .i64 cs, (.slice (some ⟨g, 0, none⟩) sn cap), .slice none 0 0, .slice none 0 0, .int .i64 0] 31)) w' ∧ e = .returned (.bool (allB S cs im)) := by
  have hA : (w.alloc (.cells #[.float .f64 0, .float .f64 0, .float .f64 0, .int .i64 0, .float .f64 0, .float .f64 0, .float .f64 0, .float .f64 4607182418800017408, .float .f64 4607182418800017408, .int .i64 cs, (.slice (some ⟨g, 0, none⟩) sn cap), .slice none 0 0, .slice none 0 0, .int .i64 0] 31)).rangeAt w.heap.size 0 [.float .f64 0, .float .f64 0, .float .f64 0, .int .i64 0, .float .f64 0, .float .f64 0, .float .f64 0, .float .f64 4607182418800017408, .float .f64 4607182418800017408, .int .i64 cs, (.slice (some ⟨g, 0, none⟩) sn cap), .slice none 0 0, .slice none 0 0, .int .i64 0] := rng_new w [.float .f64 0, .float .f64 0, .float .f64 0, .int .i64 0, .float .f64 0, .float .f64 0, .float .f64 0, .float .f64 4607182418800017408, .float .f64 4607182418800017408, .int .i64 cs, (.slice (some ⟨g, 0, none⟩) sn cap), .slice none 0 0, .slice none 0 0, .int .i64 0] 31
  have k10 : (w.alloc (.cells #[.float .f64 0, .float .f64 0, .float .f64 0, .int .i64 0, .float .f64 0, .float .f64 0, .float .f64 0, .float .f64 4607182418800017408, .float .f64 4607182418800017408, .int .i64 cs, (.slice (some ⟨g, 0, none⟩) sn cap), .slice none 0 0, .slice none 0 0, .int .i64 0] 31)).cell? ⟨w.heap.size, 10, none⟩ = some ((.slice (some ⟨g, 0, none⟩) sn cap)) := by have h := hA 10 _ rfl; rwa [Nat.zero_add] at h
  have k9 : (w.alloc (.cells #[.float .f64 0, .float .f64 0, .float .f64 0, .int .i64 0, .float .f64 0, .float .f64 0, .float .f64 0, .float .f64 4607182418800017408, .float .f64 4607182418800017408, .int .i64 cs, (.slice (some ⟨g, 0, none⟩) sn cap), .slice none 0 0, .slice none 0 0, .int .i64 0] 31)).cell? ⟨w.heap.size, 9, none⟩ = some (.int .i64 cs) := by have h := hA 9 _ rfl; rwa [Nat.zero_add] at h
  have hst : (w.alloc (.cells #[.float .f64 0, .float .f64 0, .float .f64 0, .int .i64 0, .float .f64 0, .float .f64 0, .float .f64 0, .float .f64 4607182418800017408, .float .f64 4607182418800017408, .int .i64 cs, (.slice (some ⟨g, 0, none⟩) sn cap), .slice none 0 0, .slice none 0 0, .int .i64 0] 31)).rangeAt w.heap.size 0 [.float .f64 0, .float .f64 0, .float .f64 0, .int .i64 0, .float .f64 0, .float .f64 0, .float .f64 0, .float .f64 4607182418800017408, .float .f64 4607182418800017408, .int .i64 cs] := fun j v hj => hA j v (by rcases List.getElem?_eq_some_iff.1 hj with ⟨h1, h2⟩; exact (List.getElem?_append_left (l₁ := [.float .f64 0, .float .f64 0, .float .f64 0, .int .i64 0, .float .f64 0, .float .f64 0, .float .f64 0, .float .f64 4607182418800017408, .float .f64 4607182418800017408, .int .i64 cs]) (l₂ := [(.slice (some ⟨g, 0, none⟩) sn cap), .slice none 0 0, .slice none 0 0, .int .i64 0]) h1).trans hj)
  have B0 : Bel w (w.alloc (.cells #[.float .f64 0, .float .f64 0, .float .f64 0, .int .i64 0, .float .f64 0, .float .f64 0, .float .f64 0, .float .f64 4607182418800017408, .float .f64 4607182418800017408, .int .i64 cs, (.slice (some ⟨g, 0, none⟩) sn cap), .slice none 0 0, .slice none 0 0, .int .i64 0] 31)) := bl_alloc (bl_refl w) _ _
  unfold maxLen at hcm him
  clear hA
  go_enter Try.func52, Try.ntmps52
  repeat (first | go_values | go_skip | go_guarded | go_step | go_upon | go_back | dsimp only)
  go_loopw [11, 5] (fun i l wr => ∃ k : Nat, k ≤ im ∧ i = .int .i64 k ∧ l = .bool (allB S cs k) ∧ Fx [g] (w.alloc (.cells #[.float .f64 0, .float .f64 0, .float .f64 0, .int .i64 0, .float .f64 0, .float .f64 0, .float .f64 0, .float .f64 4607182418800017408, .float .f64 4607182418800017408, .int .i64 cs, (.slice (some ⟨g, 0, none⟩) sn cap), .slice none 0 0, .slice none 0 0, .int .i64 0] 31)) wr ∧ Sls wr g 0 sn (cntS S k) ∧ wr.there g 0 (sn * 18)) (fun i _ _ => im - (intOf i).toNat)
  case atStart => exact ⟨0, by omega, rfl, rfl, Fx.refl _ _, fun i hi => by have h := hs.bel B0 i hi; unfold cntS; rw [if_neg (by omega)]; exact h, bel_there hgt B0⟩
  case round =>
    obtain ⟨k, hk, rfl, rfl, hF, hS, hT⟩ := hrel
    by_cases hlt : k < im
    · have e9 : is_ = some ⟨ib, io, none⟩ := by rcases hi1 with h | h; omega; exact h
      subst e9
      have hkI : (k : Int) < (im : Int) := by omega
      have hkC : (k : Int) < (ic : Int) := by omega
      have hkN : (k : Int) < (sn : Int) := by omega
      have hkS : (k : Int) < (cap : Int) := by omega
      have hgl := hs.lt (show k < sn by omega)
      have hgH : g ≠ w.heap.size := by omega
      have kk := hF.cell (by simpa using hig) ((hin.bel B0) k hlt)
      have kS := hF.cell (by simpa using hgH.symm) k10
      have kc := hF.cell (by simpa using hgH.symm) k9
      have hset := hF.rng (by simpa using hgH.symm) hst
      have hgr : g < wr.heap.size := hS.lt (show k < sn by omega)
      have hld : wr.rangeAt g (k * 18 + 2) [.int .u8 (S k).k, .float .f64 0, .float .f64 0, .complex .f64 0 0, .float .f64 0, .float .f64 0, .float .f64 0, .float .f64 0, .float .f64 0, .float .f64 0, .float .f64 0, .float .f64 0, .slice none 0 0, .bool (S k).a, .int .i64 (S k).c, .bool false] := by
        have h := sls_body hS (show k < sn by omega)
        rw [Nat.zero_add] at h
        unfold cntS at h
        rw [if_neg (by omega)] at h
        exact h
      repeat (first | go_values | go_skip | go_guarded | go_step | go_upon | go_back | dsimp only)
      refine wp_region_knot 10 rfl (fun i v => match i with | 0 => v = .pointer (some ⟨g, k * 18 + 2, none⟩) | 1 => v = .pointer (some ⟨g, k * 18 + 2, none⟩) | 2 => v = .pointer (some ⟨g, k * 18 + 2, none⟩) | 3 => v = .agg #[.int .u8 (S k).k, .float .f64 0, .float .f64 0, .complex .f64 0 0, .float .f64 0, .float .f64 0, .float .f64 0, .float .f64 0, .float .f64 0, .float .f64 0, .float .f64 0, .float .f64 0, .slice none 0 0, .bool (S k).a, .int .i64 (S k).c, .bool false] | 4 => v = .pointer (some ⟨w.heap.size, 0, none⟩) | 5 => v = .agg #[.float .f64 0, .float .f64 0, .float .f64 0, .int .i64 0, .float .f64 0, .float .f64 0, .float .f64 0, .float .f64 4607182418800017408, .float .f64 4607182418800017408, .int .i64 cs] | 6 => v = .int .i64 (ctF (S k).c) | 7 => v = .pointer (some ⟨g, k * 18 + 2, none⟩) | 8 => v = .pointer (some ⟨g, k * 18 + 2 + 14, none⟩) | _ => False) (fun i => match i with | 3 => true | 5 => true | 6 => true | _ => false) (fun i => match i with | 9 => some (g, k * 18 + 2 + 14, 6) | _ => none) (fun i => match i with | 9 => 1 | _ => 0) [g] 6 ?A_wc (by kernel_rfl) (by kernel_rfl) ?hA_wc ?hpre_wc ?hdep_wc ?hne_wc ?hq_wc ?hp_wc ?hst_wc ?ht_wc
      case hA_wc =>
        intro s
        simp only [putL, dstO, Act.put, List.getElem?_toArray, List.getElem?_cons_zero, List.getElem?_cons_succ, Option.bind_some, List.setIfInBounds_toArray, List.set_cons_zero, List.set_cons_succ, if_true]
        all_goals exact rfl
      case hpre_wc =>
        intro i j b o d hi hr hso
        have hj : j = 9 := by
          split at hso
          all_goals first | omega | (cases hso; done)
        rcases (show i = 0 ∨ i = 1 ∨ i = 2 ∨ i = 3 ∨ i = 4 ∨ i = 5 ∨ i = 6 ∨ i = 7 ∨ i = 8 ∨ i = 9 by omega) with rfl | rfl | rfl | rfl | rfl | rfl | rfl | rfl | rfl | rfl
        all_goals first
          | (cases hr; done)
          | (rcases hj with rfl <;> (show rch _ _ _ _ = true) <;> kernel_rfl)
      case hdep_wc =>
        intro i b o d hso
        split at hso
        all_goals first | (cases hso; done) | (cases hso; exact ⟨by decide, rfl, by simp, by decide, rfl, by kernel_rfl⟩)
      case hne_wc =>
        intro i j b o d o' d' hij h1 h2
        split at h1
        all_goals (try (cases h1; done))
        all_goals split at h2
        all_goals (try (cases h2; done))
        all_goals (cases h1; cases h2; first | (exact absurd rfl hij) | (exact absurd rfl hne9) | (exact absurd rfl hne9.symm) | (simp only []; omega) | omega)
      case hq_wc =>
        intro i o hi ho hso hrd s hs W hb K hK
        rcases (show i = 0 ∨ i = 1 ∨ i = 2 ∨ i = 3 ∨ i = 4 ∨ i = 5 ∨ i = 6 ∨ i = 7 ∨ i = 8 ∨ i = 9 by omega) with rfl | rfl | rfl | rfl | rfl | rfl | rfl | rfl | rfl | rfl
        · cases hrd
        · cases hrd
        · cases hrd
        · cases ho
          have e2 : s 2 = _ := hs 2 (by decide) rfl (by kernel_rfl)
          simp only [e2] at hK ⊢
          simp only [Act.put, List.setIfInBounds_toArray, List.set_cons_zero, List.set_cons_succ] at hK
          clear hs
          refine wp_load_mid (P := Try.prog) 39 _ rfl _ _ rfl [.int .u8 (S k).k, .float .f64 0, .float .f64 0, .complex .f64 0 0, .float .f64 0, .float .f64 0, .float .f64 0, .float .f64 0, .float .f64 0, .float .f64 0, .float .f64 0, .float .f64 0, .slice none 0 0, .bool (S k).a, .int .i64 (S k).c, .bool false] _ (rng_bel hld hb) Try.underlying39 rfl (by kernel_rfl) ?_; exact hK.out _ _ rfl (bl_refl _)
        · cases hrd
        · cases ho
          have e4 : s 4 = _ := hs 4 (by decide) rfl (by kernel_rfl)
          simp only [e4] at hK ⊢
          simp only [Act.put, List.setIfInBounds_toArray, List.set_cons_zero, List.set_cons_succ] at hK
          clear hs
          refine wp_load_mid (P := Try.prog) 26 _ rfl _ _ rfl [.float .f64 0, .float .f64 0, .float .f64 0, .int .i64 0, .float .f64 0, .float .f64 0, .float .f64 0, .float .f64 4607182418800017408, .float .f64 4607182418800017408, .int .i64 cs] _ (rng_bel hset hb) Try.underlying26 rfl (by kernel_rfl) ?_; exact hK.out _ _ rfl (bl_refl _)
        · cases ho
          have e3 : s 3 = _ := hs 3 (by decide) rfl (by kernel_rfl)
          have e5 : s 5 = _ := hs 5 (by decide) rfl (by kernel_rfl)
          simp only [e3, e5] at hK ⊢
          simp only [Act.put, List.setIfInBounds_toArray, List.set_cons_zero, List.set_cons_succ] at hK
          clear hs
          go_simp
          all_goals (try go_wp2_with (first | (go_at_call 85; (with_reducible refine (counted_w (S k) cs _ (hc0 k hlt)).mono ?_); rintro e w' ⟨rfl, hb1⟩)))
          all_goals first | with_reducible exact hK.out _ _ rfl hb1 | exact hK.out _ _ rfl hb1 | with_reducible exact hK.out _ _ rfl (bl_refl _) | exact hK.out _ _ rfl (bl_refl _)
        · cases hrd
        · cases hrd
        · cases hso
      case hp_wc =>
        intro i o hi ho hso hrd s hs W K hK
        rcases (show i = 0 ∨ i = 1 ∨ i = 2 ∨ i = 3 ∨ i = 4 ∨ i = 5 ∨ i = 6 ∨ i = 7 ∨ i = 8 ∨ i = 9 by omega) with rfl | rfl | rfl | rfl | rfl | rfl | rfl | rfl | rfl | rfl
        · cases ho
          simp only [Act.put, List.setIfInBounds_toArray, List.set_cons_zero, List.set_cons_succ] at hK
          clear hs
          go_simp
          all_goals first | with_reducible exact hK.out _ rfl | exact hK.out _ rfl
        · cases ho
          simp only [Act.put, List.setIfInBounds_toArray, List.set_cons_zero, List.set_cons_succ] at hK
          clear hs
          go_simp
          all_goals first | with_reducible exact hK.out _ rfl | exact hK.out _ rfl
        · cases ho
          have e1 : s 1 = _ := hs 1 (by decide) rfl (by kernel_rfl)
          simp only [e1] at hK ⊢
          simp only [Act.put, List.setIfInBounds_toArray, List.set_cons_zero, List.set_cons_succ] at hK
          clear hs
          go_simp
          all_goals first | with_reducible exact hK.out _ rfl | exact hK.out _ rfl
        · cases hrd
        · cases ho
          simp only [Act.put, List.setIfInBounds_toArray, List.set_cons_zero, List.set_cons_succ] at hK
          clear hs
          go_simp
          all_goals first | with_reducible exact hK.out _ rfl | exact hK.out _ rfl
        · cases hrd
        · cases hrd
        · cases ho
          have e0 : s 0 = _ := hs 0 (by decide) rfl (by kernel_rfl)
          simp only [e0] at hK ⊢
          simp only [Act.put, List.setIfInBounds_toArray, List.set_cons_zero, List.set_cons_succ] at hK
          clear hs
          go_simp
          all_goals first | with_reducible exact hK.out _ rfl | exact hK.out _ rfl
        · cases ho
          have e7 : s 7 = _ := hs 7 (by decide) rfl (by kernel_rfl)
          simp only [e7] at hK ⊢
          simp only [Act.put, List.setIfInBounds_toArray, List.set_cons_zero, List.set_cons_succ] at hK
          clear hs
          go_simp
          all_goals first | with_reducible exact hK.out _ rfl | exact hK.out _ rfl
        · cases hso
      case hst_wc =>
        intro i o b q d hi ho hso s hs W hb K hK
        rcases (show i = 0 ∨ i = 1 ∨ i = 2 ∨ i = 3 ∨ i = 4 ∨ i = 5 ∨ i = 6 ∨ i = 7 ∨ i = 8 ∨ i = 9 by omega) with rfl | rfl | rfl | rfl | rfl | rfl | rfl | rfl | rfl | rfl
        · cases hso
        · cases hso
        · cases hso
        · cases hso
        · cases hso
        · cases hso
        · cases hso
        · cases hso
        · cases hso
        · cases ho
          cases hso
          have e6 : s 6 = _ := hs 6 (by decide) rfl (by kernel_rfl)
          have e8 : s 8 = _ := hs 8 (by decide) rfl (by kernel_rfl)
          simp only [e6, e8] at hK ⊢
          have hth := there_sub (o := k * 18 + 2 + 14) (n := 1) (hb.thr _ _ _ hT) (by omega)
          have hc1 := (hth 0 (by decide)).1
          have hf1 := (hth 0 (by decide)).2
          rw [Nat.add_zero] at hc1 hf1
          obtain ⟨u1, hu1⟩ := Option.isSome_iff_exists.1 hc1
          go_simp
          exact hK.out _ (.inr rfl) rfl hth
      case ht_wc =>
        intro s hs W2 hfx hout hin
        have e0 : s 0 = _ := hs 0 (by decide) rfl
        have e1 : s 1 = _ := hs 1 (by decide) rfl
        have e2 : s 2 = _ := hs 2 (by decide) rfl
        have e3 : s 3 = _ := hs 3 (by decide) rfl
        have e4 : s 4 = _ := hs 4 (by decide) rfl
        have e5 : s 5 = _ := hs 5 (by decide) rfl
        have e6 : s 6 = _ := hs 6 (by decide) rfl
        have e7 : s 7 = _ := hs 7 (by decide) rfl
        have e8 : s 8 = _ := hs 8 (by decide) rfl
        simp only [e0, e1, e2, e3, e4, e5, e6, e7, e8]
        obtain ⟨cs1, g1, g2, g3⟩ := hin 9 _ _ _ rfl
        rw [e6] at g1
        have i1 : cs1 = [.int .i64 (ctF (S k).c)] := by rcases g1 with g1 | g1; (cases g1); (exact g1)
        subst i1
        clear hs hin g1 g2 e0 e1 e2 e3 e4 e5 e6 e7 e8
        have hS9 := sls_put (S' := cntS S (k + 1)) (x := .int .i64 (ctF (S k).c)) hS (show k < sn by omega) (fun i hn => by unfold cntS; by_cases e : i < k; (rw [if_pos e, if_pos (by omega)]); (rw [if_neg e, if_neg (by omega)])) (by unfold cntS; rw [if_pos (by omega), if_neg (by omega)]; rfl) (show k * 18 + 2 + 14 = k * 18 + 16 by omega) (by decide) g3 (fun q n1 => hout g q hgr (by rintro ⟨j, o, d, h1, h2, h3, h4⟩; dsimp only at h1 h4; split at h1 <;> cases h1; (have h5 : q < k * 18 + 2 + 14 + 1 := h4); exact n1 (by omega)))
        have k14 : W2.cell? ⟨g, k * 18 + 2 + 14, none⟩ = some (.int .i64 (ctF (S k).c)) := by have h := g3 0 _ rfl; rwa [Nat.add_zero] at h
        have kc := hfx.cell (by simpa using hgH.symm) kc
        have hF2 := hF.trans hfx
        have hT2 := hfx.thr _ _ _ hT
        clear hout g3 hfx
        haveI := belBy_some W2
        have v1 := belBy_cell k14
        have v2 := belBy_cell kc
        have hnext : ∀ b : Bool, b = decide (cs ≤ ctF (S k).c) → allB S cs (k + 1) = (allB S cs k && b) := fun b hb => by rw [hb]; rfl
        obtain ⟨cv, hcv⟩ : ∃ cv, cv = ctF (S k).c := ⟨_, rfl⟩
        rw [← hcv] at v1 k14 hnext
        obtain ⟨b5, hb5⟩ : ∃ b5, b5 = allB S cs k := ⟨_, rfl⟩
        rw [← hb5] at hnext ⊢
        clear hcv hb5
        cases b5
        · repeat (first | go_values | go_skip | go_guarded | go_step | go_upon | go_back | dsimp only)
          refine wp_region_quiet_bel (by kernel_rfl) (by kernel_rfl) ?_
          repeat (go_big_quiet_step (fail))
          refine wpQuiet_nil ?_
          rintro _ ⟨nq, rfl⟩
          repeat (first | go_values | go_skip | go_guarded | go_step | go_upon | go_back | dsimp only)
          refine ⟨⟨k + 1, by omega, by go_num, by rw [hnext _ rfl]; simp [*], hF2.trans (Fx.of_bel nq.h), hS9.bel nq.h, bel_there hT2 nq.h⟩, by simp [intOf]; omega⟩
        · by_cases hle : cs ≤ cv
          · repeat (first | go_values | go_skip | go_guarded | go_step | go_upon | go_back | dsimp only)
            refine wp_region_quiet_bel (by kernel_rfl) (by kernel_rfl) ?_
            repeat (go_big_quiet_step (fail))
            refine wpQuiet_nil ?_
            rintro _ ⟨nq, rfl⟩
            repeat (first | go_values | go_skip | go_guarded | go_step | go_upon | go_back | dsimp only)
            refine ⟨⟨k + 1, by omega, by go_num, by rw [hnext _ rfl]; simp [*], hF2.trans (Fx.of_bel nq.h), hS9.bel nq.h, bel_there hT2 nq.h⟩, by simp [intOf]; omega⟩
          · have hgt9 : cv < cs := by omega
            repeat (first | go_values | go_skip | go_guarded | go_step | go_upon | go_back | dsimp only)
            refine wp_region_quiet_bel (by kernel_rfl) (by kernel_rfl) ?_
            repeat (go_big_quiet_step (fail))
            refine wpQuiet_nil ?_
            rintro _ ⟨nq, rfl⟩
            repeat (first | go_values | go_skip | go_guarded | go_step | go_upon | go_back | dsimp only)
            refine ⟨⟨k + 1, by omega, by go_num, by rw [hnext _ rfl]; simp [*], hF2.trans (Fx.of_bel nq.h), hS9.bel nq.h, bel_there hT2 nq.h⟩, by simp [intOf]; omega⟩
    · have hnl : ¬ (k : Int) < (im : Int) := by omega
      have e9 : k = im := by omega
      subst e9
      repeat (first | go_values | go_skip | go_guarded | go_step | go_upon | go_back | dsimp only)
      go_ret
      exact ⟨hS, hT, hF, rfl⟩

end Go.Proofs.Ytcdnhkjedmmhpaa
