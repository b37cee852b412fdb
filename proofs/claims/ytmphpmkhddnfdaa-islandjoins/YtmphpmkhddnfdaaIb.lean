/-
  What each function of package island that Join reaches answers, and what the reference of its chapter answers: one contract a function.
-/
import Derived.Test.YtmphpmkhddnfdaaIa
import Derived.Test.YtmphpmkhddnfdaaChecked
import Derived.Below
import Derived.OwnWalk
import Derived.Laws.AppendOwn
import Derived.Lib.SliceRun
import Derived.Laws.MakeOwn
import Derived.WalkKit
import Derived.WalkLawsBesides
import Derived.WalkSpells
import Derived.ProofKit
import Derived.OpenShut
import Derived.Deep.RegionHeld3
import Derived.Deep.MidRow
import Derived.Laws.EntriesVeiled
import Derived.BigQuiet
import Derived.ChangeKeysEq
namespace Go.Proofs.Ytmphpmkhddnfdaa
open Go.ChangeShapes Go.WideShapes Go.ChangeAt Go.RowKit
set_option linter.unusedVariables false
set_option linter.unusedSimpArgs false

theorem wp_region_gen {P : Program} {id : Nat} {Q : Exit → Act → World → Prop} {a0 : Act} {w : World} {l : List Oper} (n : Nat) (hnl : l.length = n) (Rel : Nat → Value → Prop) (G : (Nat → Bool) → World → Prop) (A : (Nat → Value) → Act) (hm : P.follows .mixedOrders = true)
    (hB : invB l.toArray a0.tmps.size = true) (hA : ∀ s, putL l.toArray a0 (fun _ => true) s n = A s) (h0 : G (fun _ => false) w.drew)
    (hG : ∀ L L' W, (∀ j, j < n → L j = L' j) → G L W → G L' W)
    (hq : ∀ i o, i < n → l[i]? = some o → ∀ (L : Nat → Bool) (s : Nat → Value) (W : World), (∀ j, bnd l.toArray i j = true → L j = true) → (∀ k j, k < n → L k = true → bnd l.toArray k j = true → L j = true) → (∀ j, j < n → bnd l.toArray i j = true → Rel j (s j)) → G L W → L i = false → ∀ K : Act → World → Prop, Veil (∀ v W', Rel i v → G (updL L i) W' → K ((A s).put o.dst v) W') → Oper.wp P o (A s) W K (fun _ _ _ => False))
    (ht : ∀ s : Nat → Value, (∀ j, j < n → Rel j (s j)) → ∀ W, G (fun _ => true) W → Q .normal (A s) W) :
    (Code.region id l.toArray true).wp P Q a0 w := by
  refine wp_region_inv n hnl (fun L s W => (∀ j, j < n → L j = true → Rel j (s j)) ∧ G L W) A hm hB hA ⟨fun j _ h => (by cases h), h0⟩ ?_ (fun L L' s W hL h => ⟨fun j hj hl => h.1 j hj ((hL j hj).trans hl), hG L L' W hL h.2⟩) (fun s W h => ht s (fun j hj => h.1 j hj rfl) W h.2)
  intro i o hi ho L s W hLi hd hsh hJ K hK
  refine hq i o hi ho L s W hd hsh (fun j hj hb => hJ.1 j hj (hd j hb)) hJ.2 hLi K (fun v W' hv hg => hK.out v W' ⟨fun j hj hl => ?_, hg⟩)
  unfold updL at hl
  unfold updS
  by_cases e : j = i
  · subst e; simpa using hv
  · rw [if_neg e] at hl ⊢; exact hJ.1 j hj hl
/-- what a call of the closure leaves: the parents may be pressed, the roots stay -/
structure Pr (w : World) (pb n : Nat) (P P' : Nat → Nat) (W : World) : Prop where
  at_ : IntM W pb n (nI P')
  le : ∀ j, P' j ≤ j
  rt : ∀ j, rt P' j = rt P j
  fx : Fx [pb] w W
def GL (w : World) (pb n i : Nat) (P : Nat → Nat) (L : Nat → Bool) (W : World) : Prop := ∃ P', Pr w pb n P P' W ∧ (L 5 = false → P' = P) ∧ (L 7 = true → P' i = rt P i)
theorem Fx.drew {F : List Nat} (w : World) : Fx F w w.drew := Fx.of_bel (bl_drew (bl_refl w))
theorem IntM.drew {w : World} {b n : Nat} {X : Nat → Int} (h : IntM w b n X) : IntM w.drew b n X := h.bel (bl_drew (bl_refl w))
theorem updL_at (L : Nat → Bool) (i : Nat) : updL L i i = true := by unfold updL; simp
theorem updL_ne {L : Nat → Bool} {i j : Nat} (h : j ≠ i) : updL L i j = L j := by unfold updL; simp [h]

set_option maxRecDepth 100000 in
set_option maxHeartbeats 4000000 in
theorem lst_w (n pb fb : Nat) (hne : fb ∉ [pb]) (hn : n ≤ 16384) : ∀ (i : Nat) (P : Nat → Nat) (w : World), i < n → IntM w pb n (nI P) → (∀ j, P j ≤ j) → w.cell? ⟨fb, 0, none⟩ = some (.func (.func 48) #[] #[.pointer (some ⟨pb, 0, none⟩), .pointer (some ⟨fb, 0, none⟩)]) → Calls Try.prog 48 #[.int .i64 (i : Int), .pointer (some ⟨pb, 0, none⟩), .pointer (some ⟨fb, 0, none⟩)] w fun e w' => e = .returned (.int .i64 (rt P i : Int)) ∧ ∃ P', Pr w pb n P P' w' := by
  intro i
  induction i using Nat.strongRecOn with
  | _ i ih0 =>
  intro P w hin hP hle hcf
  have ih : ∀ j, j < i → ∀ (P : Nat → Nat) (w : World), j < i → j < n → n ≤ 16384 → IntM w pb n (nI P) → (∀ j, P j ≤ j) → w.cell? ⟨fb, 0, none⟩ = some (.func (.func 48) #[] #[.pointer (some ⟨pb, 0, none⟩), .pointer (some ⟨fb, 0, none⟩)]) → Calls Try.prog 48 #[.int .i64 (j : Int), .pointer (some ⟨pb, 0, none⟩), .pointer (some ⟨fb, 0, none⟩)] w fun e w' => e = .returned (.int .i64 (rt P j : Int)) ∧ ∃ P', Pr w pb n P P' w' := fun j hj P w _ h1 _ h2 h3 h4 => ih0 j hj P w h1 h2 h3 h4
  clear ih0
  have c0 := hP.at_ i hin
  have hiI : (i : Int) < 16384 := by omega
  have hi0 : ¬ (i : Int) < 0 := by omega
  have hiN : i < 16384 := by omega
  unfold nI at c0
  by_cases hlt : P i < i
  · have hq : (((P i : Nat) : Int) == (i : Int)) = false := by simp; omega
    have hq2 : (((P i : Nat) : Int) != (i : Int)) = true := by simp; omega
    go_enter Try.func48, Try.ntmps48
    repeat (first | go_values | go_skip | go_guarded | go_step | go_upon | go_back | dsimp only)
    try simp only [hq2]
    refine wp_region_gen 8 rfl (fun iq v => match iq with | 0 => v = .int .i64 (i : Int) | 1 => v = (.func (.func 48) #[] #[.pointer (some ⟨pb, 0, none⟩), .pointer (some ⟨fb, 0, none⟩)]) | 2 => v = .int .i64 (i : Int) | 3 => v = .pointer (some ⟨pb, i, none⟩) | 4 => v = .int .i64 (P i : Int) | 5 => v = .int .i64 (rt P i : Int) | 6 => v = .pointer (some ⟨pb, i, none⟩) | 7 => True | _ => False) (GL w pb n i P) ?A_cl (by kernel_rfl) (by kernel_rfl) ?hA_cl ?h0_cl ?hG_cl ?hq_cl ?ht_cl
    case hA_cl =>
      intro s
      simp only [putL, dstO, Act.put, List.getElem?_toArray, List.getElem?_cons_zero, List.getElem?_cons_succ, Option.bind_some, Option.bind_none, List.setIfInBounds_toArray, List.set_cons_zero, List.set_cons_succ, if_true]
      all_goals exact rfl
    case h0_cl => exact ⟨P, ⟨hP.drew, hle, fun _ => rfl, Fx.drew w⟩, fun _ => rfl, fun h => (by cases h)⟩
    case hG_cl => exact fun L L' W hL h => by unfold GL at h ⊢; rwa [← hL 5 (by decide), ← hL 7 (by decide)]
    case hq_cl =>
      intro iq o hi ho L s W hLd hsh hs hg hLi K hK
      obtain ⟨P', hPr, h5P, h7P⟩ := hg
      have hup : ∀ k, k ≠ 5 → k ≠ 7 → GL w pb n i P (updL L k) W := fun k h1 h2 => ⟨P', hPr, by rw [updL_ne (Ne.symm h1)]; exact h5P, by rw [updL_ne (Ne.symm h2)]; exact h7P⟩
      have cf := hPr.fx.cell hne hcf
      rcases (show iq = 0 ∨ iq = 1 ∨ iq = 2 ∨ iq = 3 ∨ iq = 4 ∨ iq = 5 ∨ iq = 6 ∨ iq = 7 by omega) with rfl | rfl | rfl | rfl | rfl | rfl | rfl | rfl
      · cases ho
        simp only [Act.put, List.setIfInBounds_toArray, List.set_cons_zero, List.set_cons_succ] at hK
        clear hs
        go_simp
        all_goals first | with_reducible exact hK.out _ _ rfl (hup 0 (by decide) (by decide)) | exact hK.out _ _ rfl (hup 0 (by decide) (by decide))
      · cases ho
        simp only [Act.put, List.setIfInBounds_toArray, List.set_cons_zero, List.set_cons_succ] at hK
        clear hs
        go_simp
        all_goals first | with_reducible exact hK.out _ _ rfl (hup 1 (by decide) (by decide)) | exact hK.out _ _ rfl (hup 1 (by decide) (by decide))
      · cases ho
        simp only [Act.put, List.setIfInBounds_toArray, List.set_cons_zero, List.set_cons_succ] at hK
        clear hs
        go_simp
        all_goals first | with_reducible exact hK.out _ _ rfl (hup 2 (by decide) (by decide)) | exact hK.out _ _ rfl (hup 2 (by decide) (by decide))
      · cases ho
        have e2 : s 2 = _ := hs 2 (by decide) (by kernel_rfl)
        simp only [e2] at hK ⊢
        simp only [Act.put, List.setIfInBounds_toArray, List.set_cons_zero, List.set_cons_succ] at hK
        clear hs
        go_simp
        all_goals first | with_reducible exact hK.out _ _ rfl (hup 3 (by decide) (by decide)) | exact hK.out _ _ rfl (hup 3 (by decide) (by decide))
      · cases ho
        have e3 : s 3 = _ := hs 3 (by decide) (by kernel_rfl)
        simp only [e3] at hK ⊢
        simp only [Act.put, List.setIfInBounds_toArray, List.set_cons_zero, List.set_cons_succ] at hK
        clear hs
        have h5 : L 5 = false := by
          cases h : L 5 with
          | false => rfl
          | true => rw [hsh 5 4 (by decide) h (by kernel_rfl)] at hLi; cases hLi
        have c4 := hPr.at_.at_ i hin
        rw [h5P h5] at c4
        unfold nI at c4
        go_simp
        all_goals first | with_reducible exact hK.out _ _ rfl (hup 4 (by decide) (by decide)) | exact hK.out _ _ rfl (hup 4 (by decide) (by decide))
      · cases ho
        have e1 : s 1 = _ := hs 1 (by decide) (by kernel_rfl)
        have e4 : s 4 = _ := hs 4 (by decide) (by kernel_rfl)
        simp only [e1, e4] at hK ⊢
        simp only [Act.put, List.setIfInBounds_toArray, List.set_cons_zero, List.set_cons_succ] at hK
        clear hs
        have eP := h5P hLi
        subst eP
        have h7 : L 7 = true → False := fun h => by rw [hsh 7 5 (by decide) h (by kernel_rfl)] at hLi; cases hLi
        go_simp
        all_goals (try go_wp2_with (first | (go_at_call 48; (with_reducible refine (ih (P' i) hlt P' W (by omega) (by omega) hn hPr.at_ hPr.le (hPr.fx.cell hne hcf)).mono ?_); rintro e w' ⟨rfl, P2, g2⟩)))
        rw [← rt_lt hlt]
        all_goals first | exact hK.out _ _ rfl ⟨P2, ⟨g2.at_, g2.le, fun j => (g2.rt j), hPr.fx.trans g2.fx⟩, fun h => (by rw [updL_at] at h; cases h), fun h => (by rw [updL_ne (by decide)] at h; exact (h7 h).elim)⟩
      · cases ho
        have e0 : s 0 = _ := hs 0 (by decide) (by kernel_rfl)
        simp only [e0] at hK ⊢
        simp only [Act.put, List.setIfInBounds_toArray, List.set_cons_zero, List.set_cons_succ] at hK
        clear hs
        go_simp
        all_goals first | with_reducible exact hK.out _ _ rfl (hup 6 (by decide) (by decide)) | exact hK.out _ _ rfl (hup 6 (by decide) (by decide))
      · cases ho
        have e5 : s 5 = _ := hs 5 (by decide) (by kernel_rfl)
        have e6 : s 6 = _ := hs 6 (by decide) (by kernel_rfl)
        simp only [e5, e6] at hK ⊢
        simp only [Act.put, List.setIfInBounds_toArray, List.set_cons_zero, List.set_cons_succ] at hK
        clear hs
        have c7 := hPr.at_.at_ i hin
        have f7 := hPr.at_.fr i hin
        go_simp
        refine hK.out undef _ trivial ⟨updN P' i (rt P i), ⟨?_, upd_le hPr.le (rt_le P i), fun j => ?_, hPr.fx.set1 (show pb ∈ [pb] by simp) _ _⟩, fun h => ?_, fun _ => upd_self _ _ _⟩
        · rw [← nI_upd]; exact hPr.at_.set hin
        · have := rt_press P' i j; rw [hPr.rt i] at this; rw [this]; exact hPr.rt j
        · have h5 := hLd 5 (by kernel_rfl); rw [updL_ne (by decide), h5] at h; cases h
    case ht_cl =>
      intro s hs W hg
      have e0 : s 0 = _ := hs 0 (by decide)
      have e1 : s 1 = _ := hs 1 (by decide)
      have e2 : s 2 = _ := hs 2 (by decide)
      have e3 : s 3 = _ := hs 3 (by decide)
      have e4 : s 4 = _ := hs 4 (by decide)
      have e5 : s 5 = _ := hs 5 (by decide)
      have e6 : s 6 = _ := hs 6 (by decide)
      obtain ⟨P', hPr, _, h7P⟩ := hg
      have c8 := hPr.at_.at_ i hin
      rw [show nI P' i = (rt P i : Int) by unfold nI; rw [h7P rfl]] at c8
      repeat (first | go_values | go_skip | go_guarded | go_step | go_upon | go_back | dsimp only)
      go_ret
      exact ⟨rfl, P', hPr⟩
  · have hPi : P i = i := by have := hle i; omega
    have hq : (((P i : Nat) : Int) == (i : Int)) = true := by simp; omega
    go_enter Try.func48, Try.ntmps48
    repeat (first | go_values | go_skip | go_guarded | go_step | go_upon | go_back | dsimp only)
    go_ret
    refine ⟨by first | (rw [rt_self hlt, hPi]; done) | (rw [rt_self hlt]; rfl), P, ⟨hP, hle, fun _ => rfl, Fx.refl _ _⟩⟩

end Go.Proofs.Ytmphpmkhddnfdaa
