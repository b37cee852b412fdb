/-
  What each function of package sweep answers, and what the reference of its chapter answers: one contract a function, for every list of boxes; of the memory that was there nothing has turned.
-/
import Derived.Test.YtekhnolpgoejdaaGreatSwb
import Derived.Test.YtekhnolpgoejdaaGreatSwc
import Derived.Test.YtekhnolpgoejdaaGreatSwe
import Derived.Test.YtekhnolpgoejdaaGreatApps
import Derived.Below
import Derived.BigQuiet
import Derived.OwnWalk
import Derived.Laws.AppendOwn
import Derived.Laws.AppendOwnNone
import Derived.WalkKit
import Derived.WalkLawsBesides
import Derived.WalkSpells
import Derived.ProofKit
import Derived.OpenShut
import Derived.Deep.RegionHeld3
import Derived.Deep.LoopGhost
namespace Go.Proofs.YtekhnolpgoejdaaGreat
open Go.ChangeShapes Go.WideShapes Go.ChangeAt Go.RowKit Go.Shelf Go.Lib Go.Sort
set_option linter.unusedVariables false
set_option linter.unusedSimpArgs false


theorem own_len {sz base : Nat} {w : World} {v : Value} {n : Nat} {R : List Value} (h : OwnR sz base w v n R) : ∃ sa cap, v = .slice sa n cap := by
  rcases h.2 with ⟨e1, e2⟩ | ⟨k, cap, e, _⟩
  · subst e2; exact ⟨_, _, e1⟩
  · exact ⟨_, _, e⟩
def Lo (w : World) (v : Value) : Prop := ∀ gg n cp, v = .slice (some ⟨gg, 0, none⟩) n cp → gg < w.heap.size
theorem Lo.on {w w' : World} {v : Value} (h : Lo w v) (b : w.heap.size ≤ w'.heap.size) : Lo w' v := fun gg n cp e => Nat.lt_of_lt_of_le (h gg n cp e) b
theorem pairs_drop {B : Nat → Bo} {O : List Nat} {k r : Nat} (h : O[k]? = some r) : pairsL B (O.drop k) = (reach B (B r) (O.drop (k + 1))).map (fun k => (min r k, max r k)) ++ pairsL B (O.drop (k + 1)) := by
  rw [drop_at h]; rfl
set_option maxRecDepth 100000 in
set_option maxHeartbeats 8000000 in
theorem pairs_walk (b off n cap : Nat) (B : Nat → Bo) (w : World) (hB0 : Bs w b off n B) (hn : n ≤ 16384) (hb0 : b < w.heap.size) :
    Calls Tryz.prog 19 #[.slice (some ⟨b, off, none⟩) n cap] w fun e w' => ∃ O, OrdL B n O ∧ Below w.heap.size w w' ∧ ((65536 < (pairsL B O).length ∧ e = .returned (.tuple #[.slice none 0 0, .int .i64 4])) ∨ ((pairsL B O).length ≤ 65536 ∧ ∃ v L', e = .returned (.tuple #[v, .int .i64 0]) ∧ L'.Perm (pairsL B O) ∧ (L'.Pairwise fun a b => ¬ lexO b a) ∧ OwnR 2 w.heap.size w' v (L').length (pRow (L')) ∧ (L' = [] → v = .slice none 0 0))) := by
  go_enter Tryz.func19, Tryz.ntmps19
  go_wp2_with (first | (go_at_call 45; (with_reducible refine (ord_s b off n cap B _ hB0 hn hb0).mono ?_); rintro e w1 ⟨vO, O, rfl, hOr, hO0, hbl0, _⟩; rcases own_split hO0 (by decide) with ⟨h0, sa, cp, rfl⟩ | ⟨h0, g, cp, rfl, hg, hgs, hcp⟩))
  · have e0 : O = [] := List.eq_nil_of_length_eq_zero h0
    subst e0
    clear hO0
    go_loopg [6, 21] 0 (fun kx s6 s21 wr => s6 = .slice none 0 0 ∧ s21 = .int .i64 0 ∧ Bel w1 wr)
    case atStart => exact ⟨rfl, rfl, bl_refl _⟩
    case round =>
      obtain ⟨rfl, rfl, hWr⟩ := hrel
      have hO : OwnR 2 w1.heap.size wr (.slice none 0 0) (([] : List (Nat × Nat))).length (pRow (([] : List (Nat × Nat)))) := OwnR.nil _ _ _
      go_wp2_with (first | (go_at_call 47; (with_reducible refine (rise_s w1.heap.size _ [] _ hO (by decide)).mono ?_); rintro e w2 ⟨rfl, L', p1, p2, p3, p4⟩))
      refine bodyPost_ret (v := .tuple #[.slice none 0 0, .int .i64 0]) (by simp [results, Tryz.results19, go_sem]) rfl ?_
      exact ⟨[], hOr, (bw_trans hbl0 hWr.1).trans (p4.mono hbl0.size), .inr ⟨Nat.zero_le _, _, L', rfl, p1, p2, p3.base hbl0.size, fun _ => rfl⟩⟩
  · have hBw := hB0.below hbl0
    have hI0 := own_is hO0
    have hOl : O.length ≤ 16384 := Nat.le_trans hOr.len hn
    obtain ⟨nO, hnO⟩ : ∃ nO, O.length = nO := ⟨_, rfl⟩
    rw [hnO] at h0 hcp hOl ⊢
    rw [hnO] at hO0
    have hcpz : (nO : Int) ≤ (cp : Int) := by omega
    obtain ⟨PP, hPP⟩ : ∃ PP, pairsL B O = PP := ⟨_, rfl⟩
    have HPP : Hid (pairsL B O = PP) := hPP
    have HOr : Hid (OrdL B n O) := hOr
    clear hPP hOr hO0
    go_loopg [6, 21] nO (fun kx s6 s21 wr => ∃ (k1 : Nat) (acc : List (Nat × Nat)), s21 = .int .i64 k1 ∧ k1 ≤ nO ∧ nO - k1 ≤ kx ∧ acc.length ≤ 65536 ∧ OwnR 2 w1.heap.size wr s6 (acc).length (pRow (acc)) ∧ Bel w1 wr ∧ Lo wr s6 ∧ Hid (acc = [] → s6 = .slice none 0 0) ∧ Hid (acc ++ pairsL B (O.drop k1) = PP))
    case atStart => exact ⟨0, [], rfl, by omega, by omega, Nat.zero_le _, OwnR.nil _ _ _, bl_refl _, fun gg n cp e => (by cases e), fun _ => rfl, HPP.out⟩
    case round =>
      obtain ⟨k1, acc, rfl, hk1, hkx, hal, hO, hWr, hLo, hNl, hA⟩ := hrel
      obtain ⟨wo, hwo⟩ : ∃ X, X = wr := ⟨_, rfl⟩
      subst hwo
      by_cases hlt : k1 < nO
      · have hltz : (k1 : Int) < (nO : Int) := by omega
        have hwk : IntKind.wrap .i64 ((k1 : Int) + 1) = (k1 : Int) + 1 := by rw [IntKind.wrap_i64]; omega
        obtain ⟨r, hr⟩ : ∃ r, O[k1]? = some r := ⟨_, List.getElem?_eq_getElem (by omega)⟩
        have hrn : r < n := ((HOr.out.mem r).1 (List.mem_of_getElem? hr)).1
        have hrz : (r : Int) < (n : Int) := by omega
        have hpd := pairs_drop (B := B) hr
        have HPD : Hid _ := hpd
        have hBr := hBw.bel hWr
        have hIr := hI0.bel hWr
        have xr := hIr k1 r hr
        rw [Nat.zero_add] at xr
        have hId := hIr.drop (k1 + 1)
        rw [Nat.zero_add] at hId
        have hdl : (O.drop (k1 + 1)).length = nO - (k1 + 1) := by rw [List.length_drop, hnO]
        have hql := Nat.le_trans (reach_len B (B r) (O.drop (k1 + 1))) (show (O.drop (k1 + 1)).length ≤ 16384 by omega)
        obtain ⟨Q, hQ⟩ : ∃ Q, reach B (B r) (O.drop (k1 + 1)) = Q := ⟨_, rfl⟩
        have hre : ∀ W ro rc, Bel wo W → Is W g ro (O.drop (k1 + 1)) → Calls Tryz.prog 46 #[.slice (some ⟨b, off, none⟩) n cap, .slice (some ⟨g, ro, none⟩) (nO - (k1 + 1)) rc, .agg #[.float .f64 (B r).1, .float .f64 (B r).2.1, .float .f64 (B r).2.2.1, .float .f64 (B r).2.2.2]] W fun e w' => ∃ v, e = .returned v ∧ OwnR 1 wo.heap.size w' v Q.length (iRow Q) ∧ Bel W w' := fun W ro rc hb hi => by
          refine (reach_s b off n cap g ro rc (nO - (k1 + 1)) B (O.drop (k1 + 1)) (B r) W (hBr.bel hb) hi (fun i hi => ((HOr.out.mem i).1 (List.mem_of_mem_drop hi)).1) hdl (by omega)).mono ?_
          rintro e w' ⟨v, rfl, h1, h2⟩
          rw [hQ] at h1
          exact ⟨v, rfl, h1.base hb.size, h2⟩
        rw [hQ] at hql
        have HQ : Hid (reach B (B r) (O.drop (k1 + 1)) = Q) := hQ
        have hnil : ∀ (k r : Nat), nO ≤ k1 + 1 → ¬ (O.drop (k1 + 1))[k]? = some r := fun k r hc e => by rw [List.getElem?_eq_none (by omega)] at e; cases e
        clear hQ hpd hr hdl
        have k1z : (k1 : Int) + 1 ≤ (nO : Int) := by omega
        have k1c : (k1 : Int) + 1 ≤ (cp : Int) := by omega
        have k1p : (0 : Int) ≤ (k1 : Int) + 1 := by omega
        have tn1 : ((k1 : Int) + 1).toNat = k1 + 1 := by omega
        have tn2 : ((nO : Int) - ((k1 : Int) + 1)).toNat = nO - (k1 + 1) := by omega
        have tn3 : ((cp : Int) - ((k1 : Int) + 1)).toNat = cp - (k1 + 1) := by omega
        go_wp2
        refine wp_region_mono 12 rfl (fun i W v => match i with | 0 => v = .slice (some ⟨b, off, none⟩) n cap | 1 => v = .slice (some ⟨g, 0, none⟩) nO cp | 2 => v = .int .i64 (k1 : Int) | 3 => v = .int .i64 ((k1 : Int) + 1) | 4 => ∃ ro rc, v = .slice (some ⟨g, ro, none⟩) (nO - (k1 + 1)) rc ∧ Is W g ro (O.drop (k1 + 1)) | 5 => v = .slice (some ⟨b, off, none⟩) n cap | 6 => v = .int .i64 (r : Int) | 7 => v = .pointer (some ⟨b, off + r * 4, none⟩) | 8 => v = .agg #[.float .f64 (B r).1, .float .f64 (B r).2.1, .float .f64 (B r).2.2.1, .float .f64 (B r).2.2.2] | 9 => ∃ sa c2, v = .slice sa Q.length c2 ∧ OwnR 1 wo.heap.size W (.slice sa Q.length c2) Q.length (iRow Q) | 10 => v = .int .i64 (Q.length : Int) | 11 => v = .int .i64 0 | _ => False) ?A_wz (by kernel_rfl) (by kernel_rfl) ?hA_wz ?hmo_wz ?hq_wz ?ht_wz
        case hA_wz =>
          intro s
          simp only [putL, dstO, Act.put, List.getElem?_toArray, List.getElem?_cons_zero, List.getElem?_cons_succ, Option.bind_some, List.setIfInBounds_toArray, List.set_cons_zero, List.set_cons_succ, if_true]
          all_goals exact rfl
        case hmo_wz =>
          intro i W W' v hi hb h
          rcases (show i = 0 ∨ i = 1 ∨ i = 2 ∨ i = 3 ∨ i = 4 ∨ i = 5 ∨ i = 6 ∨ i = 7 ∨ i = 8 ∨ i = 9 ∨ i = 10 ∨ i = 11 by omega) with rfl | rfl | rfl | rfl | rfl | rfl | rfl | rfl | rfl | rfl | rfl | rfl
          all_goals first | exact h | (obtain ⟨ro, rc, e, o⟩ := h; exact ⟨ro, rc, e, Is.bel o hb⟩) | (obtain ⟨sa, c2, e, o⟩ := h; exact ⟨sa, c2, e, OwnR.bel o hb⟩)
        case hq_wz =>
          intro i o hi ho s W hs hb K hK
          obtain ⟨y0, y1, y2, y3⟩ := (hBr.bel hb) r hrn
          rcases (show i = 0 ∨ i = 1 ∨ i = 2 ∨ i = 3 ∨ i = 4 ∨ i = 5 ∨ i = 6 ∨ i = 7 ∨ i = 8 ∨ i = 9 ∨ i = 10 ∨ i = 11 by omega) with rfl | rfl | rfl | rfl | rfl | rfl | rfl | rfl | rfl | rfl | rfl | rfl
          · cases ho
            simp only [Act.put, List.setIfInBounds_toArray, List.set_cons_zero, List.set_cons_succ] at hK
            clear hs
            go_simp
            all_goals (try go_wp2_with (first | (go_at_call 46; (with_reducible refine (hre _ ro rc hb i4).mono ?_); rintro e w' ⟨V9, rfl, hO9, hb9⟩)))
            all_goals first | (obtain ⟨sa, c2, rfl⟩ := own_len hO9; exact hK.out _ _ ⟨sa, c2, rfl, hO9⟩ hb9) | (exact hK.out _ _ ⟨_, _, rfl, hId.bel hb⟩ (bl_refl _)) | (rw [h] at hK; exact hK.out _ _ ⟨_, _, rfl, fun k r hk => absurd hk (hnil k r (by omega))⟩ (bl_refl _)) | with_reducible exact hK.out _ _ rfl (bl_refl _) | exact hK.out _ _ rfl (by assumption) | exact hK.out _ _ (by assumption) (by assumption)
          · cases ho
            simp only [Act.put, List.setIfInBounds_toArray, List.set_cons_zero, List.set_cons_succ] at hK
            clear hs
            go_simp
            all_goals (try go_wp2_with (first | (go_at_call 46; (with_reducible refine (hre _ ro rc hb i4).mono ?_); rintro e w' ⟨V9, rfl, hO9, hb9⟩)))
            all_goals first | (obtain ⟨sa, c2, rfl⟩ := own_len hO9; exact hK.out _ _ ⟨sa, c2, rfl, hO9⟩ hb9) | (exact hK.out _ _ ⟨_, _, rfl, hId.bel hb⟩ (bl_refl _)) | (rw [h] at hK; exact hK.out _ _ ⟨_, _, rfl, fun k r hk => absurd hk (hnil k r (by omega))⟩ (bl_refl _)) | with_reducible exact hK.out _ _ rfl (bl_refl _) | exact hK.out _ _ rfl (by assumption) | exact hK.out _ _ (by assumption) (by assumption)
          · cases ho
            simp only [Act.put, List.setIfInBounds_toArray, List.set_cons_zero, List.set_cons_succ] at hK
            clear hs
            go_simp
            all_goals (try go_wp2_with (first | (go_at_call 46; (with_reducible refine (hre _ ro rc hb i4).mono ?_); rintro e w' ⟨V9, rfl, hO9, hb9⟩)))
            all_goals first | (obtain ⟨sa, c2, rfl⟩ := own_len hO9; exact hK.out _ _ ⟨sa, c2, rfl, hO9⟩ hb9) | (exact hK.out _ _ ⟨_, _, rfl, hId.bel hb⟩ (bl_refl _)) | (rw [h] at hK; exact hK.out _ _ ⟨_, _, rfl, fun k r hk => absurd hk (hnil k r (by omega))⟩ (bl_refl _)) | with_reducible exact hK.out _ _ rfl (bl_refl _) | exact hK.out _ _ rfl (by assumption) | exact hK.out _ _ (by assumption) (by assumption)
          · cases ho
            have e2 : s 2 = _ := hs 2 (by decide) (by kernel_rfl)
            simp only [e2] at hK ⊢
            simp only [Act.put, List.setIfInBounds_toArray, List.set_cons_zero, List.set_cons_succ] at hK
            clear hs
            go_simp
            all_goals (try go_wp2_with (first | (go_at_call 46; (with_reducible refine (hre _ ro rc hb i4).mono ?_); rintro e w' ⟨V9, rfl, hO9, hb9⟩)))
            all_goals first | (obtain ⟨sa, c2, rfl⟩ := own_len hO9; exact hK.out _ _ ⟨sa, c2, rfl, hO9⟩ hb9) | (exact hK.out _ _ ⟨_, _, rfl, hId.bel hb⟩ (bl_refl _)) | (rw [h] at hK; exact hK.out _ _ ⟨_, _, rfl, fun k r hk => absurd hk (hnil k r (by omega))⟩ (bl_refl _)) | with_reducible exact hK.out _ _ rfl (bl_refl _) | exact hK.out _ _ rfl (by assumption) | exact hK.out _ _ (by assumption) (by assumption)
          · cases ho
            have e1 : s 1 = _ := hs 1 (by decide) (by kernel_rfl)
            have e3 : s 3 = _ := hs 3 (by decide) (by kernel_rfl)
            simp only [e1, e3] at hK ⊢
            simp only [Act.put, List.setIfInBounds_toArray, List.set_cons_zero, List.set_cons_succ] at hK
            clear hs
            go_simp
            all_goals (try go_wp2_with (first | (go_at_call 46; (with_reducible refine (hre _ ro rc hb i4).mono ?_); rintro e w' ⟨V9, rfl, hO9, hb9⟩)))
            all_goals first | (obtain ⟨sa, c2, rfl⟩ := own_len hO9; exact hK.out _ _ ⟨sa, c2, rfl, hO9⟩ hb9) | (exact hK.out _ _ ⟨_, _, rfl, hId.bel hb⟩ (bl_refl _)) | (rw [h] at hK; exact hK.out _ _ ⟨_, _, rfl, fun k r hk => absurd hk (hnil k r (by omega))⟩ (bl_refl _)) | with_reducible exact hK.out _ _ rfl (bl_refl _) | exact hK.out _ _ rfl (by assumption) | exact hK.out _ _ (by assumption) (by assumption)
          · cases ho
            simp only [Act.put, List.setIfInBounds_toArray, List.set_cons_zero, List.set_cons_succ] at hK
            clear hs
            go_simp
            all_goals (try go_wp2_with (first | (go_at_call 46; (with_reducible refine (hre _ ro rc hb i4).mono ?_); rintro e w' ⟨V9, rfl, hO9, hb9⟩)))
            all_goals first | (obtain ⟨sa, c2, rfl⟩ := own_len hO9; exact hK.out _ _ ⟨sa, c2, rfl, hO9⟩ hb9) | (exact hK.out _ _ ⟨_, _, rfl, hId.bel hb⟩ (bl_refl _)) | (rw [h] at hK; exact hK.out _ _ ⟨_, _, rfl, fun k r hk => absurd hk (hnil k r (by omega))⟩ (bl_refl _)) | with_reducible exact hK.out _ _ rfl (bl_refl _) | exact hK.out _ _ rfl (by assumption) | exact hK.out _ _ (by assumption) (by assumption)
          · cases ho
            simp only [Act.put, List.setIfInBounds_toArray, List.set_cons_zero, List.set_cons_succ] at hK
            clear hs
            go_simp
            all_goals (try go_wp2_with (first | (go_at_call 46; (with_reducible refine (hre _ ro rc hb i4).mono ?_); rintro e w' ⟨V9, rfl, hO9, hb9⟩)))
            all_goals first | (obtain ⟨sa, c2, rfl⟩ := own_len hO9; exact hK.out _ _ ⟨sa, c2, rfl, hO9⟩ hb9) | (exact hK.out _ _ ⟨_, _, rfl, hId.bel hb⟩ (bl_refl _)) | (rw [h] at hK; exact hK.out _ _ ⟨_, _, rfl, fun k r hk => absurd hk (hnil k r (by omega))⟩ (bl_refl _)) | with_reducible exact hK.out _ _ rfl (bl_refl _) | exact hK.out _ _ rfl (by assumption) | exact hK.out _ _ (by assumption) (by assumption)
          · cases ho
            have e5 : s 5 = _ := hs 5 (by decide) (by kernel_rfl)
            have e6 : s 6 = _ := hs 6 (by decide) (by kernel_rfl)
            simp only [e5, e6] at hK ⊢
            simp only [Act.put, List.setIfInBounds_toArray, List.set_cons_zero, List.set_cons_succ] at hK
            clear hs
            go_simp
            all_goals (try go_wp2_with (first | (go_at_call 46; (with_reducible refine (hre _ ro rc hb i4).mono ?_); rintro e w' ⟨V9, rfl, hO9, hb9⟩)))
            all_goals first | (obtain ⟨sa, c2, rfl⟩ := own_len hO9; exact hK.out _ _ ⟨sa, c2, rfl, hO9⟩ hb9) | (exact hK.out _ _ ⟨_, _, rfl, hId.bel hb⟩ (bl_refl _)) | (rw [h] at hK; exact hK.out _ _ ⟨_, _, rfl, fun k r hk => absurd hk (hnil k r (by omega))⟩ (bl_refl _)) | with_reducible exact hK.out _ _ rfl (bl_refl _) | exact hK.out _ _ rfl (by assumption) | exact hK.out _ _ (by assumption) (by assumption)
          · cases ho
            have e7 : s 7 = _ := hs 7 (by decide) (by kernel_rfl)
            simp only [e7] at hK ⊢
            simp only [Act.put, List.setIfInBounds_toArray, List.set_cons_zero, List.set_cons_succ] at hK
            clear hs
            go_simp
            all_goals (try go_wp2_with (first | (go_at_call 46; (with_reducible refine (hre _ ro rc hb i4).mono ?_); rintro e w' ⟨V9, rfl, hO9, hb9⟩)))
            all_goals first | (obtain ⟨sa, c2, rfl⟩ := own_len hO9; exact hK.out _ _ ⟨sa, c2, rfl, hO9⟩ hb9) | (exact hK.out _ _ ⟨_, _, rfl, hId.bel hb⟩ (bl_refl _)) | (rw [h] at hK; exact hK.out _ _ ⟨_, _, rfl, fun k r hk => absurd hk (hnil k r (by omega))⟩ (bl_refl _)) | with_reducible exact hK.out _ _ rfl (bl_refl _) | exact hK.out _ _ rfl (by assumption) | exact hK.out _ _ (by assumption) (by assumption)
          · cases ho
            have e0 : s 0 = _ := hs 0 (by decide) (by kernel_rfl)
            obtain ⟨ro, rc, e4, i4⟩ := hs 4 (by decide) (by kernel_rfl)
            have e8 : s 8 = _ := hs 8 (by decide) (by kernel_rfl)
            simp only [e0, e4, e8] at hK ⊢
            simp only [Act.put, List.setIfInBounds_toArray, List.set_cons_zero, List.set_cons_succ] at hK
            clear hs
            go_simp
            all_goals (try go_wp2_with (first | (go_at_call 46; (with_reducible refine (hre _ ro rc hb i4).mono ?_); rintro e w' ⟨V9, rfl, hO9, hb9⟩)))
            all_goals first | (obtain ⟨sa, c2, rfl⟩ := own_len hO9; exact hK.out _ _ ⟨sa, c2, rfl, hO9⟩ hb9) | (exact hK.out _ _ ⟨_, _, rfl, hId.bel hb⟩ (bl_refl _)) | (rw [h] at hK; exact hK.out _ _ ⟨_, _, rfl, fun k r hk => absurd hk (hnil k r (by omega))⟩ (bl_refl _)) | with_reducible exact hK.out _ _ rfl (bl_refl _) | exact hK.out _ _ rfl (by assumption) | exact hK.out _ _ (by assumption) (by assumption)
          · cases ho
            obtain ⟨sa, c2, e9, o9⟩ := hs 9 (by decide) (by kernel_rfl)
            simp only [e9] at hK ⊢
            simp only [Act.put, List.setIfInBounds_toArray, List.set_cons_zero, List.set_cons_succ] at hK
            clear hs
            go_simp
            all_goals (try go_wp2_with (first | (go_at_call 46; (with_reducible refine (hre _ ro rc hb i4).mono ?_); rintro e w' ⟨V9, rfl, hO9, hb9⟩)))
            all_goals first | (obtain ⟨sa, c2, rfl⟩ := own_len hO9; exact hK.out _ _ ⟨sa, c2, rfl, hO9⟩ hb9) | (exact hK.out _ _ ⟨_, _, rfl, hId.bel hb⟩ (bl_refl _)) | (rw [h] at hK; exact hK.out _ _ ⟨_, _, rfl, fun k r hk => absurd hk (hnil k r (by omega))⟩ (bl_refl _)) | with_reducible exact hK.out _ _ rfl (bl_refl _) | exact hK.out _ _ rfl (by assumption) | exact hK.out _ _ (by assumption) (by assumption)
          · cases ho
            simp only [Act.put, List.setIfInBounds_toArray, List.set_cons_zero, List.set_cons_succ] at hK
            clear hs
            go_simp
            all_goals (try go_wp2_with (first | (go_at_call 46; (with_reducible refine (hre _ ro rc hb i4).mono ?_); rintro e w' ⟨V9, rfl, hO9, hb9⟩)))
            all_goals first | (obtain ⟨sa, c2, rfl⟩ := own_len hO9; exact hK.out _ _ ⟨sa, c2, rfl, hO9⟩ hb9) | (exact hK.out _ _ ⟨_, _, rfl, hId.bel hb⟩ (bl_refl _)) | (rw [h] at hK; exact hK.out _ _ ⟨_, _, rfl, fun k r hk => absurd hk (hnil k r (by omega))⟩ (bl_refl _)) | with_reducible exact hK.out _ _ rfl (bl_refl _) | exact hK.out _ _ rfl (by assumption) | exact hK.out _ _ (by assumption) (by assumption)
        case ht_wz =>
          intro s Wz hs hb
          have e0 : s 0 = _ := hs 0 (by decide)
          have e1 : s 1 = _ := hs 1 (by decide)
          have e2 : s 2 = _ := hs 2 (by decide)
          have e3 : s 3 = _ := hs 3 (by decide)
          obtain ⟨ro, rc, e4, i4⟩ := hs 4 (by decide)
          have e5 : s 5 = _ := hs 5 (by decide)
          have e6 : s 6 = _ := hs 6 (by decide)
          have e7 : s 7 = _ := hs 7 (by decide)
          have e8 : s 8 = _ := hs 8 (by decide)
          obtain ⟨sa, c2, e9, o9⟩ := hs 9 (by decide)
          have e10 : s 10 = _ := hs 10 (by decide)
          have e11 : s 11 = _ := hs 11 (by decide)
          simp only [e0, e1, e2, e3, e4, e5, e6, e7, e8, e9, e10, e11]
          clear hs e0 e1 e2 e3 e4 e5 e6 e7 e8 e9 e10 e11
        
          have hLz : Lo Wz u6 := hLo.on hb.size
          have hsa : Q.length = 0 ∨ ∃ g2, sa = some ⟨g2, 0, none⟩ ∧ wo.heap.size ≤ g2 ∧ g2 < Wz.heap.size ∧ Is Wz g2 0 Q := by
            rcases own_split o9 (by decide) with ⟨h0, _⟩ | ⟨_, g2, c', e, h1, h2, _⟩
            · exact .inl h0
            · injection e with e1 _ _
              subst e1
              exact .inr ⟨g2, rfl, h1, h2, own_is o9⟩
          have hz2 := bl_trans hWr hb
          have hO1 := hO.bel hb
          have hQl : Q.length ≤ 16384 := hql
          obtain ⟨q6, hq6⟩ : ∃ q, q = u6 := ⟨_, rfl⟩
          go_wp2
          go_loopg [6, 37] Q.length (fun kx s6 s37 wr => ∃ (k2 : Nat) (ac2 : List (Nat × Nat)), s37 = .int .i64 k2 ∧ k2 ≤ Q.length ∧ Q.length - k2 ≤ kx ∧ ac2.length = acc.length + k2 ∧ OwnR 2 w1.heap.size wr s6 (ac2).length (pRow (ac2)) ∧ Bel w1 wr ∧ Lo wr s6 ∧ Hid (ac2 = [] → s6 = .slice none 0 0) ∧ Hid (ac2 = acc ++ (Q.take k2).map (fun k => (min r k, max r k))) ∧ Hid (∀ g2, sa = some ⟨g2, 0, none⟩ → 0 < Q.length → Is wr g2 0 Q ∧ g2 < wr.heap.size ∧ ∀ gg n' cp', s6 = .slice (some ⟨gg, 0, none⟩) n' cp' → g2 ≠ gg))
          case atStart =>
            refine ⟨0, acc, rfl, Nat.zero_le _, Nat.le_refl _, rfl, hO1, hz2, hLz, hNl, by simp [Hid], fun g2 e hp => ?_⟩
            rcases hsa with h0 | ⟨g', e', h1, h2, h3⟩
            · omega
            · rw [e] at e'
              injection e' with e'
              injection e' with e' _ _
              subst e'
              refine ⟨h3, h2, fun gg n' cp' e6 => ?_⟩
              have := hLo gg n' cp' e6
              omega
          case round =>
            clear hO1 hz2 hLz
            obtain ⟨k2, ac2, rfl, hk2, hkx2, hal2, hO2, hW2, hL2, hN2, hE2, hI2⟩ := hrel
            have hbd : ac2.length ≤ 82000 := by omega
            have HAL : Hid _ := hal2
            clear hal2
            by_cases hlt2 : k2 < Q.length
            · have hlt2z : (k2 : Int) < (Q.length : Int) := by omega
              have hwk2 : IntKind.wrap .i64 ((k2 : Int) + 1) = (k2 : Int) + 1 := by rw [IntKind.wrap_i64]; omega
              obtain ⟨g2, hsg⟩ : ∃ g2, sa = some ⟨g2, 0, none⟩ := by
                rcases hsa with h0 | ⟨g', e', _⟩
                · omega
                · exact ⟨g', e'⟩
              clear hsa
              subst hsg
              obtain ⟨hI3, hg3, hne3⟩ := hI2.out g2 rfl (by omega)
              obtain ⟨q, hq⟩ : ∃ q, Q[k2]? = some q := ⟨_, List.getElem?_eq_getElem hlt2⟩
              have xq := hI3 k2 q hq
              rw [Nat.zero_add] at xq
              have HQ2 : Hid (Q[k2]? = some q) := hq
              clear hq
              have hszw := hW2.size
              obtain ⟨mN, hmN⟩ : ∃ m, min r q = m := ⟨_, rfl⟩
              obtain ⟨mX, hmX⟩ : ∃ m, max r q = m := ⟨_, rfl⟩
              have mn : min (r : Int) (q : Int) = (mN : Int) := by omega
              have mx : max (r : Int) (q : Int) = (mX : Int) := by omega
              have HMN : Hid (min r q = mN) := hmN
              have HMX : Hid (max r q = mX) := hmX
              clear hmN hmX
              have hO3 := hO2.bel (bl_alloc (bl_refl wr) #[.int .i64 (mN : Int), .int .i64 (mX : Int)] 32)
              go_wp2_with (first | (at_builtin; refine wpList_appS (P := Tryz.prog) (sz := 2) (by_ := 16) (R := pRow (ac2)) (N := [.int .i64 (mN : Int), .int .i64 (mX : Int)]) 26 32 rfl _ _ rfl Tryz.underlying26 info_pair rfl rfl _ 0 1 1 rfl hO3 rfl (mk_rw _ [.int .i64 (mN : Int), .int .i64 (mX : Int)] 32) (by intro u hu; simp only [List.mem_cons, List.not_mem_nil, or_false] at hu; rcases hu with rfl | rfl <;> rfl) (by decide) (by simp only [World.size_alloc]; omega) (by unfold maxLen; omega) (by omega) ?_; intro v2 w2 hO2 hv2 hbX hoth hlow; obtain ⟨g6, c6, rfl, hg6⟩ := hv2; have B3 := hbX w1 (bl_alloc hW2 _ _) (Nat.le_refl _)))
              go_roundg (Q.length - (k2 + 1))
              case measure => omega
              case rel =>
                have hlt6 : g6 < w2.heap.size := by
                  rcases own_split hO2 (by decide) with ⟨h0, _⟩ | ⟨_, g', c', e, _, h2, _⟩
                  · omega
                  · injection e with e1 _ _
                    injection e1 with e1
                    injection e1 with e1 _ _
                    rw [e1]; exact h2
                refine ⟨k2 + 1, ac2 ++ [(mN, mX)], by go_num, by omega, Nat.le_refl _, by rw [List.length_append, HAL.out]; simp; omega, by rw [List.length_append, pRow_app]; exact hO2, B3, fun gg n' cp' e => ?_, fun e => absurd e (by simp), (show _ = _ from ?_), fun g2' e hp => ?_⟩
                · injection e with e1 _ _
                  injection e1 with e1
                  injection e1 with e1 _ _
                  rw [← e1]; exact hlt6
                · rw [hE2.out, List.append_assoc, List.take_add_one, HQ2.out, List.map_append, ← HMN.out, ← HMX.out]; rfl
                · injection e with e
                  injection e with e _ _
                  subst e
                  have hg4 : g2 < (wr.alloc (.cells #[.int .i64 (mN : Int), .int .i64 (mX : Int)] 32)).heap.size := by rw [World.size_alloc]; omega
                  refine ⟨fun k' r' hk' => ?_, Nat.lt_of_lt_of_le hg4 hoth.2, fun gg n' cp' e6 => ?_⟩
                  · rw [hoth.1 g2 _ hg4 (fun gg cp' e6 => hne3 gg _ cp' e6)]
                    exact keepB (bl_alloc (bl_refl wr) _ _) (hI3 k' r' hk')
                  · injection e6 with e6 _ _
                    injection e6 with e6
                    injection e6 with e6 _ _
                    subst e6
                    rcases hg6 with h6 | ⟨cp6, h6⟩
                    · rw [World.size_alloc] at h6; omega
                    · exact hne3 _ _ _ h6
            · have hlt2z : ¬ (k2 : Int) < (Q.length : Int) := by omega
              have hkk : k2 = Q.length := by omega
              clear hsa hI2
              have hE3 : Hid (ac2 ++ pairsL B (O.drop (k1 + 1)) = PP) := (by
                show _ = _
                rw [hE2.out, hkk, List.take_length, ← hA.out, HPD.out, HQ.out, List.append_assoc])
              obtain ⟨sa6, c6, hs6⟩ := own_len hO2
              subst hs6
              by_cases hmany : 65536 < ac2.length
              · have hmz : (65536 : Int) < (ac2.length : Int) := by omega
                have hlong : 65536 < PP.length := by rw [← hE3.out, List.length_append]; omega
                have HL : Hid _ := hlong
                clear hlong
                go_wp2
                refine bodyPost_ret (v := .tuple #[.slice none 0 0, .int .i64 4]) (by simp [results, Tryz.results19, go_sem]) rfl ?_
                exact ⟨O, HOr.out, bw_trans hbl0 hW2.1, .inl ⟨by rw [HPP.out]; exact HL.out, rfl⟩⟩
              · have hmz : ¬ (65536 : Int) < (ac2.length : Int) := by omega
                go_wp2
                go_roundg (nO - (k1 + 1))
                case measure => omega
                case rel => exact ⟨k1 + 1, ac2, by go_num, by omega, Nat.le_refl _, by omega, hO2, hW2, hL2, hN2, hE3⟩
      · have hltz : ¬ (k1 : Int) < (nO : Int) := by omega
        have hacc : acc = PP := by
          have := hA.out
          rwa [List.drop_eq_nil_of_le (by omega), show pairsL B [] = [] from rfl, List.append_nil] at this
        have HAC : Hid _ := hacc
        clear hacc
        go_wp2_with (first | (go_at_call 47; (with_reducible refine (rise_s w1.heap.size _ acc _ hO (by omega)).mono ?_); rintro e w2 ⟨rfl, L', p1, p2, p3, p4⟩))
        refine bodyPost_ret (v := .tuple #[u6, .int .i64 0]) (by simp [results, Tryz.results19, go_sem]) rfl ?_
        refine ⟨O, HOr.out, (bw_trans hbl0 hWr.1).trans (p4.mono hbl0.size), .inr ⟨by rw [HPP.out, ← HAC.out]; exact hal, _, L', rfl, ?_, p2, p3.base hbl0.size, fun e => hNl.out (List.Perm.nil_eq (e ▸ p1)).symm⟩⟩
        rw [HPP.out, ← HAC.out]; exact p1

theorem pairs_s (b off n cap : Nat) (B : Nat → Bo) (w : World) (hB0 : Bs w b off n B) (hn : n ≤ 16384) (hb0 : b < w.heap.size) :
    Calls Tryz.prog 19 #[.slice (some ⟨b, off, none⟩) n cap] w fun e w' => Below w.heap.size w w' ∧ ((65536 < (refP B n).length ∧ e = .returned (.tuple #[.slice none 0 0, .int .i64 4])) ∨ ((refP B n).length ≤ 65536 ∧ ∃ v, e = .returned (.tuple #[v, .int .i64 0]) ∧ OwnR 2 w.heap.size w' v (refP B n).length (pRow (refP B n)) ∧ (refP B n = [] → v = .slice none 0 0))) := by
  refine (pairs_walk b off n cap B w hB0 hn hb0).mono ?_
  rintro e w' ⟨O, hO, hb, h⟩
  rw [pairs_len hO] at h
  refine ⟨hb, ?_⟩
  rcases h with h | ⟨h1, v, L', h2, h3, h4, h5, h6⟩
  · exact .inl h
  · rw [pairs_is hO h3 h4] at h5 h6
    exact .inr ⟨h1, v, h2, h5, h6⟩

end Go.Proofs.YtekhnolpgoejdaaGreat
