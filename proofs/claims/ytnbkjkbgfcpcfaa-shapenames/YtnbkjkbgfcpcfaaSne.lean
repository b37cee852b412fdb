/-
  What each function of package poly answers, and what the reference of its chapter answers: one contract a function, for every float: the answer stands in the relation of its formula to what was given; of the memory that was there nothing has turned.
-/
import Derived.Test.YtnbkjkbgfcpcfaaVec
import Derived.Test.YtnbkjkbgfcpcfaaSr
import Derived.Test.YtnbkjkbgfcpcfaaSpe
import Derived.Test.YtnbkjkbgfcpcfaaSna
import Derived.Test.YtnbkjkbgfcpcfaaOnc7
import Derived.Below
import Derived.Laws.MakeOwn
import Derived.Laws.StructEq
import Derived.Deep.LoopGhost
import Derived.BigQuiet
import Derived.WalkKit
import Derived.WalkLawsBesides
import Derived.WalkSpells
import Derived.ProofKit
import Derived.OpenShut
import Derived.Deep.RegionHeld3
namespace Go.Proofs.Ytnbkjkbgfcpcfaa
open Go.ChangeShapes Go.WideShapes Go.ChangeAt Go.RowKit
set_option linter.unusedVariables false
set_option linter.unusedSimpArgs false


set_option maxRecDepth 100000 in
set_option maxHeartbeats 32000000 in
theorem names7 (w : World) : Calls Try.prog 4 #[] w fun e w' => e = .returned (.bool true) ∧ Bel w w' := by
  go_enter Try.func4, Try.ntmps4
  go_wp2_with (first | (have zn := m2; clear zn; go_at_call 14; (with_reducible refine (circle_b _).mono ?_); rintro e w3 ⟨b3, rfl, hA3, hb3⟩; replace A0 := keep hb3 A0; replace A1 := keep hb3 A1; replace A2 := keep hb3 A2; replace C0 := keep hb3 C0; replace C1 := keep hb3 C1; replace C2 := keep hb3 C2; replace hA1 := hA1.bel hb3; replace hA2 := hA2.bel hb3; replace B1 := bl_trans B1 hb3; obtain ⟨E0, E1, E2⟩ := new3 w3 33 (.int .u8 1) (.float .f64 4613937818241073152) (.slice (some ⟨b3, 0, none⟩) 1 1); have le3 := B1.size; replace B1 := bl_alloc B1 #[.int .u8 1, .float .f64 4613937818241073152, .slice (some ⟨b3, 0, none⟩) 1 1] 33; have za : ∀ o, (w3.alloc (.cells #[.int .u8 1, .float .f64 4613937818241073152, .slice (some ⟨b3, 0, none⟩) 1 1] 33)).frozen? ⟨w3.heap.size, o, none⟩ = false := fun o => fz_alloc (fresh_frozen (Nat.le_refl _)); replace A0 := up_alloc (o := .cells #[.int .u8 1, .float .f64 4613937818241073152, .slice (some ⟨b3, 0, none⟩) 1 1] 33) A0; replace A1 := up_alloc (o := .cells #[.int .u8 1, .float .f64 4613937818241073152, .slice (some ⟨b3, 0, none⟩) 1 1] 33) A1; replace A2 := up_alloc (o := .cells #[.int .u8 1, .float .f64 4613937818241073152, .slice (some ⟨b3, 0, none⟩) 1 1] 33) A2; replace C0 := up_alloc (o := .cells #[.int .u8 1, .float .f64 4613937818241073152, .slice (some ⟨b3, 0, none⟩) 1 1] 33) C0; replace C1 := up_alloc (o := .cells #[.int .u8 1, .float .f64 4613937818241073152, .slice (some ⟨b3, 0, none⟩) 1 1] 33) C1; replace C2 := up_alloc (o := .cells #[.int .u8 1, .float .f64 4613937818241073152, .slice (some ⟨b3, 0, none⟩) 1 1] 33) C2; replace hA1 := hA1.bel (bl_alloc (bl_refl w3) #[.int .u8 1, .float .f64 4613937818241073152, .slice (some ⟨b3, 0, none⟩) 1 1] 33); replace hA2 := hA2.bel (bl_alloc (bl_refl w3) #[.int .u8 1, .float .f64 4613937818241073152, .slice (some ⟨b3, 0, none⟩) 1 1] 33); replace hA3 := hA3.bel (bl_alloc (bl_refl w3) #[.int .u8 1, .float .f64 4613937818241073152, .slice (some ⟨b3, 0, none⟩) 1 1] 33); have lp2 := hb3.size; simp only [World.size_alloc] at lp2; have n13 : w3.heap.size ≠ b1 := (by omega); have n23 : w3.heap.size ≠ b2 := (by omega); have q13 : w3.heap.size ≠ w1.heap.size := (by omega); have q23 : w3.heap.size ≠ w2.heap.size := (by omega); clear hb3 m2 lb1 lb2 lp1 lp2; have m3 := True.intro) | (have zn := m1; clear zn; go_at_call 14; (with_reducible refine (circle_b _).mono ?_); rintro e w2 ⟨b2, rfl, hA2, hb2⟩; replace A0 := keep hb2 A0; replace A1 := keep hb2 A1; replace A2 := keep hb2 A2; replace hA1 := hA1.bel hb2; replace B1 := bl_trans B1 hb2; obtain ⟨C0, C1, C2⟩ := new3 w2 33 (.int .u8 1) (.float .f64 0) (.slice (some ⟨b2, 0, none⟩) 1 1); have lb2 := any_lt hA2 (by decide); have le2 := B1.size; replace B1 := bl_alloc B1 #[.int .u8 1, .float .f64 0, .slice (some ⟨b2, 0, none⟩) 1 1] 33; have lp1 := hb2.size; simp only [World.size_alloc] at lp1; replace A0 := up_alloc (o := .cells #[.int .u8 1, .float .f64 0, .slice (some ⟨b2, 0, none⟩) 1 1] 33) A0; replace A1 := up_alloc (o := .cells #[.int .u8 1, .float .f64 0, .slice (some ⟨b2, 0, none⟩) 1 1] 33) A1; replace A2 := up_alloc (o := .cells #[.int .u8 1, .float .f64 0, .slice (some ⟨b2, 0, none⟩) 1 1] 33) A2; replace hA1 := hA1.bel (bl_alloc (bl_refl w2) #[.int .u8 1, .float .f64 0, .slice (some ⟨b2, 0, none⟩) 1 1] 33); replace hA2 := hA2.bel (bl_alloc (bl_refl w2) #[.int .u8 1, .float .f64 0, .slice (some ⟨b2, 0, none⟩) 1 1] 33); clear hb2 hb1 m1; have m2 := True.intro) | (go_at_call 13; (with_reducible refine (square_b _).mono ?_); rintro e w1 ⟨b1, rfl, hA1, hb1⟩; obtain ⟨A0, A1, A2⟩ := new3 w1 33 (.int .u8 3) (.float .f64 4607182418800017408) (.slice (some ⟨b1, 0, none⟩) 4 4); have lb1 := any_lt hA1 (by decide); have le1 := hb1.size; have B1 := bl_alloc hb1 #[.int .u8 3, .float .f64 4607182418800017408, .slice (some ⟨b1, 0, none⟩) 4 4] 33; replace hA1 := hA1.bel (bl_alloc (bl_refl w1) #[.int .u8 3, .float .f64 4607182418800017408, .slice (some ⟨b1, 0, none⟩) 4 4] 33); have m1 := True.intro))
  clear m3
  have lw6 : w3.heap.size < (w3.alloc (.cells #[.int .u8 1, .float .f64 4613937818241073152, .slice (some ⟨b3, 0, none⟩) 1 1] 33)).heap.size := by simp
  obtain ⟨W6, hW6⟩ : ∃ W, W = (w3.alloc (.cells #[.int .u8 1, .float .f64 4613937818241073152, .slice (some ⟨b3, 0, none⟩) 1 1] 33)) := ⟨_, rfl⟩
  rw [← hW6] at A0 A1 A2 C0 C1 C2 E0 E1 E2 hA1 hA2 hA3 za lw6 B1 ⊢
  clear hW6
  refine wp_region_inv 7 rfl (fun L s W => (∀ j, j < 7 → L j = true → (fun j v => match j with | 0 => v = .pointer (some ⟨w3.heap.size, 2, none⟩) | 1 => v = .slice (some ⟨b3, 0, none⟩) 1 1 | 2 => v = .agg #[.float .f64 0, .float .f64 0] | 3 => True | 4 => True | 5 => v = .pointer (some ⟨w3.heap.size, 2, none⟩) | 6 => True | _ => True) j (s j)) ∧ ((L 4 = false → Bel W6 W) ∧ (L 3 = true → L 4 = false → ∃ g, s 3 = .slice (some ⟨g, 0, none⟩) 1 1 ∧ Sl W g 0 1 (px [(0, 0)]) (py [(0, 0)])) ∧ (L 4 = true → L 6 = false → Own W6.heap.size W (s 4) (circleL ++ [(0, 0)]) ∧ Bel W6 W) ∧ (L 6 = true → ∃ W' u, W = W'.setCell ⟨w3.heap.size, 2, none⟩ u ∧ Own W6.heap.size W' u (circleL ++ [(0, 0)]) ∧ Bel W6 W'))) ?A_w6 (by kernel_rfl) (by kernel_rfl) ?hA_w6 ?h0_w6 ?hq_w6 ?hJ_w6 ?ht_w6
  case hA_w6 =>
    intro s
    simp only [putL, dstO, Act.put, List.getElem?_toArray, List.getElem?_cons_zero, List.getElem?_cons_succ, Option.bind_some, List.setIfInBounds_toArray, List.set_cons_zero, List.set_cons_succ, if_true]
    all_goals exact rfl
  case h0_w6 => exact ⟨fun j _ h => (by cases h), ⟨fun _ => bl_drew (bl_refl _), fun h => (by cases h), fun h => (by cases h), fun h => (by cases h)⟩⟩
  case hJ_w6 =>
    intro L L' s W h hj
    refine ⟨fun j hj2 hl => hj.1 j hj2 ((h j hj2).trans hl), ?_⟩
    have hj2 := hj.2
    rw [h 3 (by decide), h 4 (by decide), h 6 (by decide)] at hj2
    exact hj2
  case hq_w6 =>
    intro i o hi ho L s W hLi hd hsh hj K hK
    obtain ⟨hV, hW⟩ := hj
    rcases (show i = 0 ∨ i = 1 ∨ i = 2 ∨ i = 3 ∨ i = 4 ∨ i = 5 ∨ i = 6 by omega) with rfl | rfl | rfl | rfl | rfl | rfl | rfl
    · cases ho
      simp only [Act.put, List.setIfInBounds_toArray, List.set_cons_zero, List.set_cons_succ] at hK
      go_simp
      all_goals first | with_reducible exact hK.out _ _ ⟨val_upd (VAL := (fun j v => match j with | 0 => v = .pointer (some ⟨w3.heap.size, 2, none⟩) | 1 => v = .slice (some ⟨b3, 0, none⟩) 1 1 | 2 => v = .agg #[.float .f64 0, .float .f64 0] | 3 => True | 4 => True | 5 => v = .pointer (some ⟨w3.heap.size, 2, none⟩) | 6 => True | _ => True)) hV rfl, hW⟩ | exact hK.out _ _ ⟨val_upd (VAL := (fun j v => match j with | 0 => v = .pointer (some ⟨w3.heap.size, 2, none⟩) | 1 => v = .slice (some ⟨b3, 0, none⟩) 1 1 | 2 => v = .agg #[.float .f64 0, .float .f64 0] | 3 => True | 4 => True | 5 => v = .pointer (some ⟨w3.heap.size, 2, none⟩) | 6 => True | _ => True)) hV rfl, hW⟩
    · cases ho
      have e0 : s 0 = _ := hV 0 (by decide) (hd 0 (by kernel_rfl))
      simp only [e0] at hK ⊢
      simp only [Act.put, List.setIfInBounds_toArray, List.set_cons_zero, List.set_cons_succ] at hK
      have h4 := not_yet hsh (k := 4) hLi (by decide) (by kernel_rfl) rfl
      have bW := hW.1 h4
      have E2k := keep bW E2
      go_simp
      all_goals first | with_reducible exact hK.out _ _ ⟨val_upd (VAL := (fun j v => match j with | 0 => v = .pointer (some ⟨w3.heap.size, 2, none⟩) | 1 => v = .slice (some ⟨b3, 0, none⟩) 1 1 | 2 => v = .agg #[.float .f64 0, .float .f64 0] | 3 => True | 4 => True | 5 => v = .pointer (some ⟨w3.heap.size, 2, none⟩) | 6 => True | _ => True)) hV rfl, hW⟩ | exact hK.out _ _ ⟨val_upd (VAL := (fun j v => match j with | 0 => v = .pointer (some ⟨w3.heap.size, 2, none⟩) | 1 => v = .slice (some ⟨b3, 0, none⟩) 1 1 | 2 => v = .agg #[.float .f64 0, .float .f64 0] | 3 => True | 4 => True | 5 => v = .pointer (some ⟨w3.heap.size, 2, none⟩) | 6 => True | _ => True)) hV rfl, hW⟩
    · cases ho
      simp only [Act.put, List.setIfInBounds_toArray, List.set_cons_zero, List.set_cons_succ] at hK
      have h3 := not_yet hsh (k := 3) hLi (by decide) (by kernel_rfl) rfl
      have h4 := not_yet hsh (k := 4) hLi (by decide) (by kernel_rfl) rfl
      have h6 := not_yet hsh (k := 6) hLi (by decide) (by kernel_rfl) rfl
      have bW := hW.1 h4
      clear hW
      go_simp
      all_goals (try go_wp2_with (first | (go_at_call 15; (with_reducible refine (v_any _ _ _).mono ?_); rintro e w9 ⟨rfl, hb9⟩)))
      exact hK.out _ _ ⟨val_upd (VAL := (fun j v => match j with | 0 => v = .pointer (some ⟨w3.heap.size, 2, none⟩) | 1 => v = .slice (some ⟨b3, 0, none⟩) 1 1 | 2 => v = .agg #[.float .f64 0, .float .f64 0] | 3 => True | 4 => True | 5 => v = .pointer (some ⟨w3.heap.size, 2, none⟩) | 6 => True | _ => True)) hV rfl, fun _ => bl_trans bW hb9, fun h => Bool.noConfusion (h3.symm.trans h), fun h => Bool.noConfusion (h4.symm.trans h), fun h => Bool.noConfusion (h6.symm.trans h)⟩
    · cases ho
      have e2 : s 2 = _ := hV 2 (by decide) (hd 2 (by kernel_rfl))
      simp only [e2] at hK ⊢
      simp only [Act.put, List.setIfInBounds_toArray, List.set_cons_zero, List.set_cons_succ] at hK
      have h4 := not_yet hsh (k := 4) hLi (by decide) (by kernel_rfl) rfl
      have h6 := not_yet hsh (k := 6) hLi (by decide) (by kernel_rfl) rfl
      have bW := hW.1 h4
      clear hW
      go_simp
      exact hK.out _ _ ⟨val_upd (VAL := (fun j v => match j with | 0 => v = .pointer (some ⟨w3.heap.size, 2, none⟩) | 1 => v = .slice (some ⟨b3, 0, none⟩) 1 1 | 2 => v = .agg #[.float .f64 0, .float .f64 0] | 3 => True | 4 => True | 5 => v = .pointer (some ⟨w3.heap.size, 2, none⟩) | 6 => True | _ => True)) hV trivial, fun _ => bl_alloc bW _ _, fun _ _ => ⟨_, rfl, one_laid _ _ _⟩, fun h => Bool.noConfusion (h4.symm.trans h), fun h => Bool.noConfusion (h6.symm.trans h)⟩
    · cases ho
      have e1 : s 1 = _ := hV 1 (by decide) (hd 1 (by kernel_rfl))
      simp only [e1] at hK ⊢
      simp only [Act.put, List.setIfInBounds_toArray, List.set_cons_zero, List.set_cons_succ] at hK
      have h6 := not_yet hsh (k := 6) hLi (by decide) (by kernel_rfl) rfl
      have bW := hW.1 hLi
      obtain ⟨g9, e3, hS9⟩ := hW.2.1 (hd 3 (by kernel_rfl)) hLi
      clear hW
      simp only [e3] at hK ⊢
      obtain ⟨v9, w9, hrun, hOn, hBn⟩ := run_app_full (base := W6.heap.size) (L := circleL) (M := [(0, 0)]) _ g9 0 1 (any_sl (hA3.bel bW) (by decide)) hS9 (by decide) bW.size (by decide)
      replace hBn := hBn _ bW
      refine oper_app _ _ rfl rfl rfl hrun ?_
      exact hK.out _ _ ⟨val_upd (VAL := (fun j v => match j with | 0 => v = .pointer (some ⟨w3.heap.size, 2, none⟩) | 1 => v = .slice (some ⟨b3, 0, none⟩) 1 1 | 2 => v = .agg #[.float .f64 0, .float .f64 0] | 3 => True | 4 => True | 5 => v = .pointer (some ⟨w3.heap.size, 2, none⟩) | 6 => True | _ => True)) hV trivial, fun h => (by simp [updL] at h), fun _ h => (by simp [updL] at h), fun _ _ => ⟨hOn, hBn⟩, fun h => Bool.noConfusion (h6.symm.trans h)⟩
    · cases ho
      simp only [Act.put, List.setIfInBounds_toArray, List.set_cons_zero, List.set_cons_succ] at hK
      go_simp
      all_goals first | with_reducible exact hK.out _ _ ⟨val_upd (VAL := (fun j v => match j with | 0 => v = .pointer (some ⟨w3.heap.size, 2, none⟩) | 1 => v = .slice (some ⟨b3, 0, none⟩) 1 1 | 2 => v = .agg #[.float .f64 0, .float .f64 0] | 3 => True | 4 => True | 5 => v = .pointer (some ⟨w3.heap.size, 2, none⟩) | 6 => True | _ => True)) hV rfl, hW⟩ | exact hK.out _ _ ⟨val_upd (VAL := (fun j v => match j with | 0 => v = .pointer (some ⟨w3.heap.size, 2, none⟩) | 1 => v = .slice (some ⟨b3, 0, none⟩) 1 1 | 2 => v = .agg #[.float .f64 0, .float .f64 0] | 3 => True | 4 => True | 5 => v = .pointer (some ⟨w3.heap.size, 2, none⟩) | 6 => True | _ => True)) hV rfl, hW⟩
    · cases ho
      have e5 : s 5 = _ := hV 5 (by decide) (hd 5 (by kernel_rfl))
      simp only [e5] at hK ⊢
      simp only [Act.put, List.setIfInBounds_toArray, List.set_cons_zero, List.set_cons_succ] at hK
      have hia := hd 4 (by kernel_rfl)
      obtain ⟨hO9, hB9⟩ := hW.2.2.1 hia hLi
      clear hW
      obtain ⟨g9, n9, c9, e4⟩ := own_form hO9
      rw [e4] at hO9
      simp only [e4] at hK ⊢
      have c2 := keep hB9 E2
      have z2 := fun o => (hB9.2 ⟨w3.heap.size, o, none⟩).trans (za o)
      go_simp
      exact hK.out undef _ ⟨val_upd (VAL := (fun j v => match j with | 0 => v = .pointer (some ⟨w3.heap.size, 2, none⟩) | 1 => v = .slice (some ⟨b3, 0, none⟩) 1 1 | 2 => v = .agg #[.float .f64 0, .float .f64 0] | 3 => True | 4 => True | 5 => v = .pointer (some ⟨w3.heap.size, 2, none⟩) | 6 => True | _ => True)) hV trivial, fun h => Bool.noConfusion (h.symm.trans hia), fun _ h => Bool.noConfusion (h.symm.trans hia), fun _ h => (by simp [updL] at h), fun _ => ⟨_, _, rfl, hO9, hB9⟩⟩
  case ht_w6 =>
    intro s W hj
    obtain ⟨hV, hW⟩ := hj
    have e0 : s 0 = _ := hV 0 (by decide) rfl
    have e1 : s 1 = _ := hV 1 (by decide) rfl
    have e2 : s 2 = _ := hV 2 (by decide) rfl
    have e5 : s 5 = _ := hV 5 (by decide) rfl
    simp only [e0, e1, e2, e5]
    clear hV e0 e1 e2 e5
    obtain ⟨W7, u, hWe, hO, hB⟩ := hW.2.2.2 rfl
    obtain ⟨g6, c6, rfl⟩ := own_form2 hO
    clear hW
    replace hA3 := own_any (o := 2) (u := .slice (some ⟨g6, 0, none⟩) 2 c6) hO (by decide) (by decide) two_oks lw6
    replace hA1 := any_set (o := 2) (u := .slice (some ⟨g6, 0, none⟩) 2 c6) (hA1.bel hB) n13
    replace hA2 := any_set (o := 2) (u := .slice (some ⟨g6, 0, none⟩) 2 c6) (hA2.bel hB) n23
    replace A0 := put_far (u := .slice (some ⟨g6, 0, none⟩) 2 c6) (o := 2) (keep hB A0) (.inl q13)
    replace A1 := put_far (u := .slice (some ⟨g6, 0, none⟩) 2 c6) (o := 2) (keep hB A1) (.inl q13)
    replace A2 := put_far (u := .slice (some ⟨g6, 0, none⟩) 2 c6) (o := 2) (keep hB A2) (.inl q13)
    replace C0 := put_far (u := .slice (some ⟨g6, 0, none⟩) 2 c6) (o := 2) (keep hB C0) (.inl q23)
    replace C1 := put_far (u := .slice (some ⟨g6, 0, none⟩) 2 c6) (o := 2) (keep hB C1) (.inl q23)
    replace C2 := put_far (u := .slice (some ⟨g6, 0, none⟩) 2 c6) (o := 2) (keep hB C2) (.inl q23)
    replace E0 := put_far (u := .slice (some ⟨g6, 0, none⟩) 2 c6) (p := w3.heap.size) (o := 2) (keep hB E0) (.inr (by decide))
    replace E1 := put_far (u := .slice (some ⟨g6, 0, none⟩) 2 c6) (p := w3.heap.size) (o := 2) (keep hB E1) (.inr (by decide))
    replace E2 := World.cell?_setCell_same (v := .slice (some ⟨g6, 0, none⟩) 2 c6) (h := keep hB E2)
    replace B1 := bl_set (p := ⟨w3.heap.size, 2, none⟩) (v := .slice (some ⟨g6, 0, none⟩) 2 c6) (bl_trans B1 hB) le3
    rw [← hWe] at A0 A1 A2 C0 C1 C2 E0 E1 E2 hA1 hA2 hA3 B1
    clear hWe hO hB za lw6 n13 n23 q13 q23 W6 W7 le1 le2 le3
    replace E2 : W.cell? ⟨w3.heap.size, 2, none⟩ = some (.slice (some ⟨g6, 0, none⟩) 2 c6) := E2
    replace hA3 : AnyS W (.slice (some ⟨g6, 0, none⟩) 2 c6) 2 (px twoL) (py twoL) := hA3
    go_wp2_with (first | (go_at_call 14; (with_reducible refine (circle_b _).mono ?_); rintro e vcircle ⟨bcircle, rfl, hXcircle, hbx⟩; replace A0 := keep hbx A0; replace A1 := keep hbx A1; replace A2 := keep hbx A2; replace C0 := keep hbx C0; replace C1 := keep hbx C1; replace C2 := keep hbx C2; replace E0 := keep hbx E0; replace E1 := keep hbx E1; replace E2 := keep hbx E2; replace hA1 := hA1.bel hbx; replace hA2 := hA2.bel hbx; replace hA3 := hA3.bel hbx; replace B1 := bl_trans B1 hbx; clear hbx) | (go_at_call 16; (with_reducible refine (check_any _ _ _ _ _ _ _ hXcircle).mono ?_); rintro e wx ⟨rfl, hbx⟩; rw [x_circle]; replace A0 := keep hbx A0; replace A1 := keep hbx A1; replace A2 := keep hbx A2; replace C0 := keep hbx C0; replace C1 := keep hbx C1; replace C2 := keep hbx C2; replace E0 := keep hbx E0; replace E1 := keep hbx E1; replace E2 := keep hbx E2; replace hA1 := hA1.bel hbx; replace hA2 := hA2.bel hbx; replace hA3 := hA3.bel hbx; replace B1 := bl_trans B1 hbx; clear hbx) | (go_at_call 17; (with_reducible refine (capsule_b _).mono ?_); rintro e vcapsule ⟨bcapsule, rfl, hXcapsule, hbx⟩; replace A0 := keep hbx A0; replace A1 := keep hbx A1; replace A2 := keep hbx A2; replace C0 := keep hbx C0; replace C1 := keep hbx C1; replace C2 := keep hbx C2; replace E0 := keep hbx E0; replace E1 := keep hbx E1; replace E2 := keep hbx E2; replace hA1 := hA1.bel hbx; replace hA2 := hA2.bel hbx; replace hA3 := hA3.bel hbx; replace B1 := bl_trans B1 hbx; clear hbx) | (go_at_call 16; (with_reducible refine (check_any _ _ _ _ _ _ _ hXcapsule).mono ?_); rintro e wx ⟨rfl, hbx⟩; rw [x_capsule]; replace A0 := keep hbx A0; replace A1 := keep hbx A1; replace A2 := keep hbx A2; replace C0 := keep hbx C0; replace C1 := keep hbx C1; replace C2 := keep hbx C2; replace E0 := keep hbx E0; replace E1 := keep hbx E1; replace E2 := keep hbx E2; replace hA1 := hA1.bel hbx; replace hA2 := hA2.bel hbx; replace hA3 := hA3.bel hbx; replace B1 := bl_trans B1 hbx; clear hbx) | (go_at_call 13; (with_reducible refine (square_b _).mono ?_); rintro e vsquare ⟨bsquare, rfl, hXsquare, hbx⟩; replace A0 := keep hbx A0; replace A1 := keep hbx A1; replace A2 := keep hbx A2; replace C0 := keep hbx C0; replace C1 := keep hbx C1; replace C2 := keep hbx C2; replace E0 := keep hbx E0; replace E1 := keep hbx E1; replace E2 := keep hbx E2; replace hA1 := hA1.bel hbx; replace hA2 := hA2.bel hbx; replace hA3 := hA3.bel hbx; replace B1 := bl_trans B1 hbx; clear hbx) | (go_at_call 16; (with_reducible refine (check_any _ _ _ _ _ _ _ hXsquare).mono ?_); rintro e wx ⟨rfl, hbx⟩; rw [x_square]; replace A0 := keep hbx A0; replace A1 := keep hbx A1; replace A2 := keep hbx A2; replace C0 := keep hbx C0; replace C1 := keep hbx C1; replace C2 := keep hbx C2; replace E0 := keep hbx E0; replace E1 := keep hbx E1; replace E2 := keep hbx E2; replace hA1 := hA1.bel hbx; replace hA2 := hA2.bel hbx; replace hA3 := hA3.bel hbx; replace B1 := bl_trans B1 hbx; clear hbx) | (go_at_call 16; (with_reducible refine (check_any _ _ _ _ _ _ _ (any_zero _)).mono ?_); rintro e wx ⟨rfl, hbx⟩; rw [y_zero]; replace A0 := keep hbx A0; replace A1 := keep hbx A1; replace A2 := keep hbx A2; replace C0 := keep hbx C0; replace C1 := keep hbx C1; replace C2 := keep hbx C2; replace E0 := keep hbx E0; replace E1 := keep hbx E1; replace E2 := keep hbx E2; replace hA1 := hA1.bel hbx; replace hA2 := hA2.bel hbx; replace hA3 := hA3.bel hbx; replace B1 := bl_trans B1 hbx; clear hbx) | (go_at_call 16; (with_reducible refine (check_any _ _ _ _ _ _ _ hA1).mono ?_); rintro e wx ⟨rfl, hbx⟩; rw [y_q]; replace A0 := keep hbx A0; replace A1 := keep hbx A1; replace A2 := keep hbx A2; replace C0 := keep hbx C0; replace C1 := keep hbx C1; replace C2 := keep hbx C2; replace E0 := keep hbx E0; replace E1 := keep hbx E1; replace E2 := keep hbx E2; replace hA1 := hA1.bel hbx; replace hA2 := hA2.bel hbx; replace hA3 := hA3.bel hbx; replace B1 := bl_trans B1 hbx; clear hbx) | (go_at_call 16; (with_reducible refine (check_any _ _ _ _ _ _ _ hA2).mono ?_); rintro e wx ⟨rfl, hbx⟩; rw [y_c]; replace A0 := keep hbx A0; replace A1 := keep hbx A1; replace A2 := keep hbx A2; replace C0 := keep hbx C0; replace C1 := keep hbx C1; replace C2 := keep hbx C2; replace E0 := keep hbx E0; replace E1 := keep hbx E1; replace E2 := keep hbx E2; replace hA1 := hA1.bel hbx; replace hA2 := hA2.bel hbx; replace hA3 := hA3.bel hbx; replace B1 := bl_trans B1 hbx; clear hbx) | (go_at_call 16; (with_reducible refine (check_any _ _ _ _ _ _ _ hA3).mono ?_); rintro e wx ⟨rfl, hbx⟩; rw [y_two]; replace A0 := keep hbx A0; replace A1 := keep hbx A1; replace A2 := keep hbx A2; replace C0 := keep hbx C0; replace C1 := keep hbx C1; replace C2 := keep hbx C2; replace E0 := keep hbx E0; replace E1 := keep hbx E1; replace E2 := keep hbx E2; replace hA1 := hA1.bel hbx; replace hA2 := hA2.bel hbx; replace hA3 := hA3.bel hbx; replace B1 := bl_trans B1 hbx; clear hbx; obtain ⟨S0, S1, S2⟩ := new3 wx 33 (.int .u8 3) (.float .f64 0) (.slice none 0 0); have le5 := B1.size; replace B1 := bl_alloc B1 #[.int .u8 3, .float .f64 0, .slice none 0 0] 33; have zs : ∀ o, (wx.alloc (.cells #[.int .u8 3, .float .f64 0, .slice none 0 0] 33)).frozen? ⟨wx.heap.size, o, none⟩ = false := fun o => fz_alloc (fresh_frozen (Nat.le_refl _))))
    clear A0 A1 A2 C0 C1 C2 E0 E1 E2 hA1 hA2 hA3 hXcircle hXcapsule hXsquare
    have hpN : wx.heap.size < (wx.alloc (.cells #[.int .u8 3, .float .f64 0, .slice none 0 0] 33)).heap.size := by simp
    obtain ⟨Wb, hWb⟩ : ∃ W, W = wx.alloc (.cells #[.int .u8 3, .float .f64 0, .slice none 0 0] 33) := ⟨_, rfl⟩
    rw [← hWb] at S0 S1 S2 B1 zs hpN ⊢
    clear hWb
    obtain ⟨p5, hp5⟩ : ∃ p, p = wx.heap.size := ⟨_, rfl⟩
    rw [← hp5] at S0 S1 S2 zs hpN le5 ⊢
    clear hp5
    obtain ⟨NB, hNB⟩ : ∃ n, n = Wb.heap.size := ⟨_, rfl⟩
    rw [← hNB] at hpN
    have HNB : Hid (NB = Wb.heap.size) := hNB
    clear hNB
    have fc : finK .f64 4476578029606273024 = true := by decide +kernel
    go_loopg [6] 4 (fun kx s6 wr => ∃ (k : Nat) (A : World) (sv : Value), s6 = .int .i64 k ∧ k ≤ 4 ∧ 4 - k ≤ kx ∧ Own NB wr sv (smallL.take k) ∧ Hid (A.heap.size = NB) ∧ A.cell? ⟨p5, 0, none⟩ = some (.int .u8 3) ∧ A.cell? ⟨p5, 1, none⟩ = some (.float .f64 0) ∧ A.cell? ⟨p5, 2, none⟩ = some sv ∧ (∀ o, A.frozen? ⟨p5, o, none⟩ = false) ∧ Bel A wr ∧ Bel w A)
    case atStart => exact ⟨0, Wb, .slice none 0 0, rfl, by omega, by omega, Own.nil _ _, HNB.out.symm, S0, S1, S2, zs, bl_refl _, B1⟩
    case round =>
      obtain ⟨k, A, sv, rfl, hk4, hkx, hO, hAN, Q0, Q1, Q2, qz, hBA, hwA⟩ := hrel
      clear S0 S1 S2 zs B1
      by_cases hlt : k < 4
      · have hkz : (k : Int) < 4 := by omega
        obtain ⟨f1, f2, ft', fl'⟩ := small_at hlt
        have ft : Hid _ := ft'
        have fl : Hid _ := fl'
        clear ft' fl'
        obtain ⟨x, hxe⟩ : ∃ x, px squareL k = x := ⟨_, rfl⟩
        obtain ⟨y, hye⟩ : ∃ y, py squareL k = y := ⟨_, rfl⟩
        rw [hxe] at f1
        rw [hye] at f2
        have rp := run_points
        have hNW : NB ≤ wr.heap.size := Nat.le_trans (Nat.le_of_eq hAN.out.symm) hBA.size
        go_wp2_with (first | (go_at_call 13; (with_reducible refine (square_b _).mono ?_); rintro e w5 ⟨b5, rfl, hR5, hb5⟩; obtain ⟨x0, x1⟩ := any_sl hR5 (by decide) k hlt; rw [hxe, Nat.zero_add] at x0; rw [hye, Nat.zero_add] at x1))
        obtain ⟨P0, P1, _⟩ := new2 w5 36 (.float .f64 x) (.float .f64 y)
        have bm := bl_alloc hb5 #[.float .f64 x, .float .f64 y] 36
        have hOm := hO.bel bm
        have hBm := bl_trans hBA bm
        have hNm := Nat.le_trans hNW bm.size
        have Q2m := keep hBm Q2
        obtain ⟨Wm, hWm⟩ : ∃ W, W = w5.alloc (.cells #[.float .f64 x, .float .f64 y] 36) := ⟨_, rfl⟩
        rw [← hWm] at P0 P1 bm hOm hBm hNm Q2m ⊢
        clear hWm
        obtain ⟨p7, hp7⟩ : ∃ p, p = w5.heap.size := ⟨_, rfl⟩
        rw [← hp7] at P0 P1 ⊢
        clear hp7 hb5 x0 x1 hR5
        refine wp_region_inv 13 rfl (fun L s W => (∀ j, j < 13 → L j = true → (fun j v => match j with | 0 => v = .pointer (some ⟨p5, 2, none⟩) | 1 => v = sv | 2 => v = .pointer (some ⟨p7, 0, none⟩) | 3 => v = .float .f64 x | 4 => v = .float .f64 (Dv .mul x 4476578029606273024) | 5 => v = .pointer (some ⟨p7, 1, none⟩) | 6 => v = .float .f64 y | 7 => v = .float .f64 (Dv .mul y 4476578029606273024) | 8 => v = .agg #[.float .f64 (Dv .mul x 4476578029606273024), .float .f64 (Dv .mul y 4476578029606273024)] | 9 => True | 10 => True | 11 => v = .pointer (some ⟨p5, 2, none⟩) | 12 => True | _ => True) j (s j)) ∧ ((L 10 = false → Bel Wm W) ∧ (L 9 = true → L 10 = false → ∃ g, s 9 = .slice (some ⟨g, 0, none⟩) 1 1 ∧ Sl W g 0 1 (px [((Dv .mul x 4476578029606273024), (Dv .mul y 4476578029606273024))]) (py [((Dv .mul x 4476578029606273024), (Dv .mul y 4476578029606273024))])) ∧ (L 10 = true → L 12 = false → Own NB W (s 10) ((smallL.take k) ++ [((Dv .mul x 4476578029606273024), (Dv .mul y 4476578029606273024))]) ∧ Bel A W) ∧ (L 12 = true → ∃ W' u, W = W'.setCell ⟨p5, 2, none⟩ u ∧ Own NB W' u ((smallL.take k) ++ [((Dv .mul x 4476578029606273024), (Dv .mul y 4476578029606273024))]) ∧ Bel A W'))) ?A_w13 (by kernel_rfl) (by kernel_rfl) ?hA_w13 ?h0_w13 ?hq_w13 ?hJ_w13 ?ht_w13
        case hA_w13 =>
          intro s
          simp only [putL, dstO, Act.put, List.getElem?_toArray, List.getElem?_cons_zero, List.getElem?_cons_succ, Option.bind_some, List.setIfInBounds_toArray, List.set_cons_zero, List.set_cons_succ, if_true]
          all_goals exact rfl
        case h0_w13 => exact ⟨fun j _ h => (by cases h), ⟨fun _ => bl_drew (bl_refl _), fun h => (by cases h), fun h => (by cases h), fun h => (by cases h)⟩⟩
        case hJ_w13 =>
          intro L L' s W h hj
          refine ⟨fun j hj2 hl => hj.1 j hj2 ((h j hj2).trans hl), ?_⟩
          have hj2 := hj.2
          rw [h 9 (by decide), h 10 (by decide), h 12 (by decide)] at hj2
          exact hj2
        case hq_w13 =>
          intro i o hi ho L s W hLi hd hsh hj K hK
          obtain ⟨hV, hW⟩ := hj
          rcases (show i = 0 ∨ i = 1 ∨ i = 2 ∨ i = 3 ∨ i = 4 ∨ i = 5 ∨ i = 6 ∨ i = 7 ∨ i = 8 ∨ i = 9 ∨ i = 10 ∨ i = 11 ∨ i = 12 by omega) with rfl | rfl | rfl | rfl | rfl | rfl | rfl | rfl | rfl | rfl | rfl | rfl | rfl
          · cases ho
            simp only [Act.put, List.setIfInBounds_toArray, List.set_cons_zero, List.set_cons_succ] at hK
            go_simp
            all_goals first | with_reducible exact hK.out _ _ ⟨val_upd (VAL := (fun j v => match j with | 0 => v = .pointer (some ⟨p5, 2, none⟩) | 1 => v = sv | 2 => v = .pointer (some ⟨p7, 0, none⟩) | 3 => v = .float .f64 x | 4 => v = .float .f64 (Dv .mul x 4476578029606273024) | 5 => v = .pointer (some ⟨p7, 1, none⟩) | 6 => v = .float .f64 y | 7 => v = .float .f64 (Dv .mul y 4476578029606273024) | 8 => v = .agg #[.float .f64 (Dv .mul x 4476578029606273024), .float .f64 (Dv .mul y 4476578029606273024)] | 9 => True | 10 => True | 11 => v = .pointer (some ⟨p5, 2, none⟩) | 12 => True | _ => True)) hV rfl, hW⟩ | exact hK.out _ _ ⟨val_upd (VAL := (fun j v => match j with | 0 => v = .pointer (some ⟨p5, 2, none⟩) | 1 => v = sv | 2 => v = .pointer (some ⟨p7, 0, none⟩) | 3 => v = .float .f64 x | 4 => v = .float .f64 (Dv .mul x 4476578029606273024) | 5 => v = .pointer (some ⟨p7, 1, none⟩) | 6 => v = .float .f64 y | 7 => v = .float .f64 (Dv .mul y 4476578029606273024) | 8 => v = .agg #[.float .f64 (Dv .mul x 4476578029606273024), .float .f64 (Dv .mul y 4476578029606273024)] | 9 => True | 10 => True | 11 => v = .pointer (some ⟨p5, 2, none⟩) | 12 => True | _ => True)) hV rfl, hW⟩
          · cases ho
            have e0 : s 0 = _ := hV 0 (by decide) (hd 0 (by kernel_rfl))
            simp only [e0] at hK ⊢
            simp only [Act.put, List.setIfInBounds_toArray, List.set_cons_zero, List.set_cons_succ] at hK
            have h10 := not_yet hsh (k := 10) hLi (by decide) (by kernel_rfl) rfl
            have bW := hW.1 h10
            have Q2mk := keep bW Q2m
            go_simp
            all_goals first | with_reducible exact hK.out _ _ ⟨val_upd (VAL := (fun j v => match j with | 0 => v = .pointer (some ⟨p5, 2, none⟩) | 1 => v = sv | 2 => v = .pointer (some ⟨p7, 0, none⟩) | 3 => v = .float .f64 x | 4 => v = .float .f64 (Dv .mul x 4476578029606273024) | 5 => v = .pointer (some ⟨p7, 1, none⟩) | 6 => v = .float .f64 y | 7 => v = .float .f64 (Dv .mul y 4476578029606273024) | 8 => v = .agg #[.float .f64 (Dv .mul x 4476578029606273024), .float .f64 (Dv .mul y 4476578029606273024)] | 9 => True | 10 => True | 11 => v = .pointer (some ⟨p5, 2, none⟩) | 12 => True | _ => True)) hV rfl, hW⟩ | exact hK.out _ _ ⟨val_upd (VAL := (fun j v => match j with | 0 => v = .pointer (some ⟨p5, 2, none⟩) | 1 => v = sv | 2 => v = .pointer (some ⟨p7, 0, none⟩) | 3 => v = .float .f64 x | 4 => v = .float .f64 (Dv .mul x 4476578029606273024) | 5 => v = .pointer (some ⟨p7, 1, none⟩) | 6 => v = .float .f64 y | 7 => v = .float .f64 (Dv .mul y 4476578029606273024) | 8 => v = .agg #[.float .f64 (Dv .mul x 4476578029606273024), .float .f64 (Dv .mul y 4476578029606273024)] | 9 => True | 10 => True | 11 => v = .pointer (some ⟨p5, 2, none⟩) | 12 => True | _ => True)) hV rfl, hW⟩
          · cases ho
            simp only [Act.put, List.setIfInBounds_toArray, List.set_cons_zero, List.set_cons_succ] at hK
            go_simp
            all_goals first | with_reducible exact hK.out _ _ ⟨val_upd (VAL := (fun j v => match j with | 0 => v = .pointer (some ⟨p5, 2, none⟩) | 1 => v = sv | 2 => v = .pointer (some ⟨p7, 0, none⟩) | 3 => v = .float .f64 x | 4 => v = .float .f64 (Dv .mul x 4476578029606273024) | 5 => v = .pointer (some ⟨p7, 1, none⟩) | 6 => v = .float .f64 y | 7 => v = .float .f64 (Dv .mul y 4476578029606273024) | 8 => v = .agg #[.float .f64 (Dv .mul x 4476578029606273024), .float .f64 (Dv .mul y 4476578029606273024)] | 9 => True | 10 => True | 11 => v = .pointer (some ⟨p5, 2, none⟩) | 12 => True | _ => True)) hV rfl, hW⟩ | exact hK.out _ _ ⟨val_upd (VAL := (fun j v => match j with | 0 => v = .pointer (some ⟨p5, 2, none⟩) | 1 => v = sv | 2 => v = .pointer (some ⟨p7, 0, none⟩) | 3 => v = .float .f64 x | 4 => v = .float .f64 (Dv .mul x 4476578029606273024) | 5 => v = .pointer (some ⟨p7, 1, none⟩) | 6 => v = .float .f64 y | 7 => v = .float .f64 (Dv .mul y 4476578029606273024) | 8 => v = .agg #[.float .f64 (Dv .mul x 4476578029606273024), .float .f64 (Dv .mul y 4476578029606273024)] | 9 => True | 10 => True | 11 => v = .pointer (some ⟨p5, 2, none⟩) | 12 => True | _ => True)) hV rfl, hW⟩
          · cases ho
            have e2 : s 2 = _ := hV 2 (by decide) (hd 2 (by kernel_rfl))
            simp only [e2] at hK ⊢
            simp only [Act.put, List.setIfInBounds_toArray, List.set_cons_zero, List.set_cons_succ] at hK
            have h10 := not_yet hsh (k := 10) hLi (by decide) (by kernel_rfl) rfl
            have bW := hW.1 h10
            have P0k := keep bW P0
            go_simp
            all_goals first | with_reducible exact hK.out _ _ ⟨val_upd (VAL := (fun j v => match j with | 0 => v = .pointer (some ⟨p5, 2, none⟩) | 1 => v = sv | 2 => v = .pointer (some ⟨p7, 0, none⟩) | 3 => v = .float .f64 x | 4 => v = .float .f64 (Dv .mul x 4476578029606273024) | 5 => v = .pointer (some ⟨p7, 1, none⟩) | 6 => v = .float .f64 y | 7 => v = .float .f64 (Dv .mul y 4476578029606273024) | 8 => v = .agg #[.float .f64 (Dv .mul x 4476578029606273024), .float .f64 (Dv .mul y 4476578029606273024)] | 9 => True | 10 => True | 11 => v = .pointer (some ⟨p5, 2, none⟩) | 12 => True | _ => True)) hV rfl, hW⟩ | exact hK.out _ _ ⟨val_upd (VAL := (fun j v => match j with | 0 => v = .pointer (some ⟨p5, 2, none⟩) | 1 => v = sv | 2 => v = .pointer (some ⟨p7, 0, none⟩) | 3 => v = .float .f64 x | 4 => v = .float .f64 (Dv .mul x 4476578029606273024) | 5 => v = .pointer (some ⟨p7, 1, none⟩) | 6 => v = .float .f64 y | 7 => v = .float .f64 (Dv .mul y 4476578029606273024) | 8 => v = .agg #[.float .f64 (Dv .mul x 4476578029606273024), .float .f64 (Dv .mul y 4476578029606273024)] | 9 => True | 10 => True | 11 => v = .pointer (some ⟨p5, 2, none⟩) | 12 => True | _ => True)) hV rfl, hW⟩
          · cases ho
            have e3 : s 3 = _ := hV 3 (by decide) (hd 3 (by kernel_rfl))
            simp only [e3] at hK ⊢
            simp only [Act.put, List.setIfInBounds_toArray, List.set_cons_zero, List.set_cons_succ] at hK
            have rm := fun W => run_mul_dv Try.prog 31 x 4476578029606273024 W f1 fc
            go_simp
            all_goals first | with_reducible exact hK.out _ _ ⟨val_upd (VAL := (fun j v => match j with | 0 => v = .pointer (some ⟨p5, 2, none⟩) | 1 => v = sv | 2 => v = .pointer (some ⟨p7, 0, none⟩) | 3 => v = .float .f64 x | 4 => v = .float .f64 (Dv .mul x 4476578029606273024) | 5 => v = .pointer (some ⟨p7, 1, none⟩) | 6 => v = .float .f64 y | 7 => v = .float .f64 (Dv .mul y 4476578029606273024) | 8 => v = .agg #[.float .f64 (Dv .mul x 4476578029606273024), .float .f64 (Dv .mul y 4476578029606273024)] | 9 => True | 10 => True | 11 => v = .pointer (some ⟨p5, 2, none⟩) | 12 => True | _ => True)) hV rfl, hW⟩ | exact hK.out _ _ ⟨val_upd (VAL := (fun j v => match j with | 0 => v = .pointer (some ⟨p5, 2, none⟩) | 1 => v = sv | 2 => v = .pointer (some ⟨p7, 0, none⟩) | 3 => v = .float .f64 x | 4 => v = .float .f64 (Dv .mul x 4476578029606273024) | 5 => v = .pointer (some ⟨p7, 1, none⟩) | 6 => v = .float .f64 y | 7 => v = .float .f64 (Dv .mul y 4476578029606273024) | 8 => v = .agg #[.float .f64 (Dv .mul x 4476578029606273024), .float .f64 (Dv .mul y 4476578029606273024)] | 9 => True | 10 => True | 11 => v = .pointer (some ⟨p5, 2, none⟩) | 12 => True | _ => True)) hV rfl, hW⟩
          · cases ho
            simp only [Act.put, List.setIfInBounds_toArray, List.set_cons_zero, List.set_cons_succ] at hK
            go_simp
            all_goals first | with_reducible exact hK.out _ _ ⟨val_upd (VAL := (fun j v => match j with | 0 => v = .pointer (some ⟨p5, 2, none⟩) | 1 => v = sv | 2 => v = .pointer (some ⟨p7, 0, none⟩) | 3 => v = .float .f64 x | 4 => v = .float .f64 (Dv .mul x 4476578029606273024) | 5 => v = .pointer (some ⟨p7, 1, none⟩) | 6 => v = .float .f64 y | 7 => v = .float .f64 (Dv .mul y 4476578029606273024) | 8 => v = .agg #[.float .f64 (Dv .mul x 4476578029606273024), .float .f64 (Dv .mul y 4476578029606273024)] | 9 => True | 10 => True | 11 => v = .pointer (some ⟨p5, 2, none⟩) | 12 => True | _ => True)) hV rfl, hW⟩ | exact hK.out _ _ ⟨val_upd (VAL := (fun j v => match j with | 0 => v = .pointer (some ⟨p5, 2, none⟩) | 1 => v = sv | 2 => v = .pointer (some ⟨p7, 0, none⟩) | 3 => v = .float .f64 x | 4 => v = .float .f64 (Dv .mul x 4476578029606273024) | 5 => v = .pointer (some ⟨p7, 1, none⟩) | 6 => v = .float .f64 y | 7 => v = .float .f64 (Dv .mul y 4476578029606273024) | 8 => v = .agg #[.float .f64 (Dv .mul x 4476578029606273024), .float .f64 (Dv .mul y 4476578029606273024)] | 9 => True | 10 => True | 11 => v = .pointer (some ⟨p5, 2, none⟩) | 12 => True | _ => True)) hV rfl, hW⟩
          · cases ho
            have e5 : s 5 = _ := hV 5 (by decide) (hd 5 (by kernel_rfl))
            simp only [e5] at hK ⊢
            simp only [Act.put, List.setIfInBounds_toArray, List.set_cons_zero, List.set_cons_succ] at hK
            have h10 := not_yet hsh (k := 10) hLi (by decide) (by kernel_rfl) rfl
            have bW := hW.1 h10
            have P1k := keep bW P1
            go_simp
            all_goals first | with_reducible exact hK.out _ _ ⟨val_upd (VAL := (fun j v => match j with | 0 => v = .pointer (some ⟨p5, 2, none⟩) | 1 => v = sv | 2 => v = .pointer (some ⟨p7, 0, none⟩) | 3 => v = .float .f64 x | 4 => v = .float .f64 (Dv .mul x 4476578029606273024) | 5 => v = .pointer (some ⟨p7, 1, none⟩) | 6 => v = .float .f64 y | 7 => v = .float .f64 (Dv .mul y 4476578029606273024) | 8 => v = .agg #[.float .f64 (Dv .mul x 4476578029606273024), .float .f64 (Dv .mul y 4476578029606273024)] | 9 => True | 10 => True | 11 => v = .pointer (some ⟨p5, 2, none⟩) | 12 => True | _ => True)) hV rfl, hW⟩ | exact hK.out _ _ ⟨val_upd (VAL := (fun j v => match j with | 0 => v = .pointer (some ⟨p5, 2, none⟩) | 1 => v = sv | 2 => v = .pointer (some ⟨p7, 0, none⟩) | 3 => v = .float .f64 x | 4 => v = .float .f64 (Dv .mul x 4476578029606273024) | 5 => v = .pointer (some ⟨p7, 1, none⟩) | 6 => v = .float .f64 y | 7 => v = .float .f64 (Dv .mul y 4476578029606273024) | 8 => v = .agg #[.float .f64 (Dv .mul x 4476578029606273024), .float .f64 (Dv .mul y 4476578029606273024)] | 9 => True | 10 => True | 11 => v = .pointer (some ⟨p5, 2, none⟩) | 12 => True | _ => True)) hV rfl, hW⟩
          · cases ho
            have e6 : s 6 = _ := hV 6 (by decide) (hd 6 (by kernel_rfl))
            simp only [e6] at hK ⊢
            simp only [Act.put, List.setIfInBounds_toArray, List.set_cons_zero, List.set_cons_succ] at hK
            have rm := fun W => run_mul_dv Try.prog 31 y 4476578029606273024 W f2 fc
            go_simp
            all_goals first | with_reducible exact hK.out _ _ ⟨val_upd (VAL := (fun j v => match j with | 0 => v = .pointer (some ⟨p5, 2, none⟩) | 1 => v = sv | 2 => v = .pointer (some ⟨p7, 0, none⟩) | 3 => v = .float .f64 x | 4 => v = .float .f64 (Dv .mul x 4476578029606273024) | 5 => v = .pointer (some ⟨p7, 1, none⟩) | 6 => v = .float .f64 y | 7 => v = .float .f64 (Dv .mul y 4476578029606273024) | 8 => v = .agg #[.float .f64 (Dv .mul x 4476578029606273024), .float .f64 (Dv .mul y 4476578029606273024)] | 9 => True | 10 => True | 11 => v = .pointer (some ⟨p5, 2, none⟩) | 12 => True | _ => True)) hV rfl, hW⟩ | exact hK.out _ _ ⟨val_upd (VAL := (fun j v => match j with | 0 => v = .pointer (some ⟨p5, 2, none⟩) | 1 => v = sv | 2 => v = .pointer (some ⟨p7, 0, none⟩) | 3 => v = .float .f64 x | 4 => v = .float .f64 (Dv .mul x 4476578029606273024) | 5 => v = .pointer (some ⟨p7, 1, none⟩) | 6 => v = .float .f64 y | 7 => v = .float .f64 (Dv .mul y 4476578029606273024) | 8 => v = .agg #[.float .f64 (Dv .mul x 4476578029606273024), .float .f64 (Dv .mul y 4476578029606273024)] | 9 => True | 10 => True | 11 => v = .pointer (some ⟨p5, 2, none⟩) | 12 => True | _ => True)) hV rfl, hW⟩
          · cases ho
            have e4 : s 4 = _ := hV 4 (by decide) (hd 4 (by kernel_rfl))
            have e7 : s 7 = _ := hV 7 (by decide) (hd 7 (by kernel_rfl))
            simp only [e4, e7] at hK ⊢
            simp only [Act.put, List.setIfInBounds_toArray, List.set_cons_zero, List.set_cons_succ] at hK
            have h9 := not_yet hsh (k := 9) hLi (by decide) (by kernel_rfl) rfl
            have h10 := not_yet hsh (k := 10) hLi (by decide) (by kernel_rfl) rfl
            have h12 := not_yet hsh (k := 12) hLi (by decide) (by kernel_rfl) rfl
            have bW := hW.1 h10
            clear hW
            go_simp
            all_goals (try go_wp2_with (first | (go_at_call 15; (with_reducible refine (v_any _ _ _).mono ?_); rintro e w9 ⟨rfl, hb9⟩)))
            exact hK.out _ _ ⟨val_upd (VAL := (fun j v => match j with | 0 => v = .pointer (some ⟨p5, 2, none⟩) | 1 => v = sv | 2 => v = .pointer (some ⟨p7, 0, none⟩) | 3 => v = .float .f64 x | 4 => v = .float .f64 (Dv .mul x 4476578029606273024) | 5 => v = .pointer (some ⟨p7, 1, none⟩) | 6 => v = .float .f64 y | 7 => v = .float .f64 (Dv .mul y 4476578029606273024) | 8 => v = .agg #[.float .f64 (Dv .mul x 4476578029606273024), .float .f64 (Dv .mul y 4476578029606273024)] | 9 => True | 10 => True | 11 => v = .pointer (some ⟨p5, 2, none⟩) | 12 => True | _ => True)) hV rfl, fun _ => bl_trans bW hb9, fun h => Bool.noConfusion (h9.symm.trans h), fun h => Bool.noConfusion (h10.symm.trans h), fun h => Bool.noConfusion (h12.symm.trans h)⟩
          · cases ho
            have e8 : s 8 = _ := hV 8 (by decide) (hd 8 (by kernel_rfl))
            simp only [e8] at hK ⊢
            simp only [Act.put, List.setIfInBounds_toArray, List.set_cons_zero, List.set_cons_succ] at hK
            have h10 := not_yet hsh (k := 10) hLi (by decide) (by kernel_rfl) rfl
            have h12 := not_yet hsh (k := 12) hLi (by decide) (by kernel_rfl) rfl
            have bW := hW.1 h10
            clear hW
            go_simp
            exact hK.out _ _ ⟨val_upd (VAL := (fun j v => match j with | 0 => v = .pointer (some ⟨p5, 2, none⟩) | 1 => v = sv | 2 => v = .pointer (some ⟨p7, 0, none⟩) | 3 => v = .float .f64 x | 4 => v = .float .f64 (Dv .mul x 4476578029606273024) | 5 => v = .pointer (some ⟨p7, 1, none⟩) | 6 => v = .float .f64 y | 7 => v = .float .f64 (Dv .mul y 4476578029606273024) | 8 => v = .agg #[.float .f64 (Dv .mul x 4476578029606273024), .float .f64 (Dv .mul y 4476578029606273024)] | 9 => True | 10 => True | 11 => v = .pointer (some ⟨p5, 2, none⟩) | 12 => True | _ => True)) hV trivial, fun _ => bl_alloc bW _ _, fun _ _ => ⟨_, rfl, one_laid _ _ _⟩, fun h => Bool.noConfusion (h10.symm.trans h), fun h => Bool.noConfusion (h12.symm.trans h)⟩
          · cases ho
            have e1 : s 1 = _ := hV 1 (by decide) (hd 1 (by kernel_rfl))
            simp only [e1] at hK ⊢
            simp only [Act.put, List.setIfInBounds_toArray, List.set_cons_zero, List.set_cons_succ] at hK
            have h12 := not_yet hsh (k := 12) hLi (by decide) (by kernel_rfl) rfl
            have bW := hW.1 hLi
            obtain ⟨g9, e9, hS9⟩ := hW.2.1 (hd 9 (by kernel_rfl)) hLi
            clear hW
            simp only [e9] at hK ⊢
            have hO8 := hOm.bel bW
            obtain ⟨v9, w9, hrun, hOn, hBn⟩ := run_app (base := NB) (L := smallL.take k) (M := [((Dv .mul x 4476578029606273024), (Dv .mul y 4476578029606273024))]) _ g9 0 1 hO8 hS9 Nat.zero_lt_one (Nat.le_trans hNm bW.size) (by rw [fl.out]; simp; omega)
            replace hBn := hBn A (bl_trans hBm bW) (Nat.le_of_eq hAN.out)
            refine oper_app _ _ rfl rfl rfl hrun ?_
            exact hK.out _ _ ⟨val_upd (VAL := (fun j v => match j with | 0 => v = .pointer (some ⟨p5, 2, none⟩) | 1 => v = sv | 2 => v = .pointer (some ⟨p7, 0, none⟩) | 3 => v = .float .f64 x | 4 => v = .float .f64 (Dv .mul x 4476578029606273024) | 5 => v = .pointer (some ⟨p7, 1, none⟩) | 6 => v = .float .f64 y | 7 => v = .float .f64 (Dv .mul y 4476578029606273024) | 8 => v = .agg #[.float .f64 (Dv .mul x 4476578029606273024), .float .f64 (Dv .mul y 4476578029606273024)] | 9 => True | 10 => True | 11 => v = .pointer (some ⟨p5, 2, none⟩) | 12 => True | _ => True)) hV trivial, fun h => (by simp [updL] at h), fun _ h => (by simp [updL] at h), fun _ _ => ⟨hOn, hBn⟩, fun h => Bool.noConfusion (h12.symm.trans h)⟩
          · cases ho
            simp only [Act.put, List.setIfInBounds_toArray, List.set_cons_zero, List.set_cons_succ] at hK
            go_simp
            all_goals first | with_reducible exact hK.out _ _ ⟨val_upd (VAL := (fun j v => match j with | 0 => v = .pointer (some ⟨p5, 2, none⟩) | 1 => v = sv | 2 => v = .pointer (some ⟨p7, 0, none⟩) | 3 => v = .float .f64 x | 4 => v = .float .f64 (Dv .mul x 4476578029606273024) | 5 => v = .pointer (some ⟨p7, 1, none⟩) | 6 => v = .float .f64 y | 7 => v = .float .f64 (Dv .mul y 4476578029606273024) | 8 => v = .agg #[.float .f64 (Dv .mul x 4476578029606273024), .float .f64 (Dv .mul y 4476578029606273024)] | 9 => True | 10 => True | 11 => v = .pointer (some ⟨p5, 2, none⟩) | 12 => True | _ => True)) hV rfl, hW⟩ | exact hK.out _ _ ⟨val_upd (VAL := (fun j v => match j with | 0 => v = .pointer (some ⟨p5, 2, none⟩) | 1 => v = sv | 2 => v = .pointer (some ⟨p7, 0, none⟩) | 3 => v = .float .f64 x | 4 => v = .float .f64 (Dv .mul x 4476578029606273024) | 5 => v = .pointer (some ⟨p7, 1, none⟩) | 6 => v = .float .f64 y | 7 => v = .float .f64 (Dv .mul y 4476578029606273024) | 8 => v = .agg #[.float .f64 (Dv .mul x 4476578029606273024), .float .f64 (Dv .mul y 4476578029606273024)] | 9 => True | 10 => True | 11 => v = .pointer (some ⟨p5, 2, none⟩) | 12 => True | _ => True)) hV rfl, hW⟩
          · cases ho
            have e11 : s 11 = _ := hV 11 (by decide) (hd 11 (by kernel_rfl))
            simp only [e11] at hK ⊢
            simp only [Act.put, List.setIfInBounds_toArray, List.set_cons_zero, List.set_cons_succ] at hK
            have hia := hd 10 (by kernel_rfl)
            obtain ⟨hO9, hB9⟩ := hW.2.2.1 hia hLi
            clear hW
            obtain ⟨g9, n9, c9, e10⟩ := own_form hO9
            rw [e10] at hO9
            simp only [e10] at hK ⊢
            have c2 := keep hB9 Q2
            have z2 := fun o => (hB9.2 ⟨p5, o, none⟩).trans (qz o)
            go_simp
            exact hK.out undef _ ⟨val_upd (VAL := (fun j v => match j with | 0 => v = .pointer (some ⟨p5, 2, none⟩) | 1 => v = sv | 2 => v = .pointer (some ⟨p7, 0, none⟩) | 3 => v = .float .f64 x | 4 => v = .float .f64 (Dv .mul x 4476578029606273024) | 5 => v = .pointer (some ⟨p7, 1, none⟩) | 6 => v = .float .f64 y | 7 => v = .float .f64 (Dv .mul y 4476578029606273024) | 8 => v = .agg #[.float .f64 (Dv .mul x 4476578029606273024), .float .f64 (Dv .mul y 4476578029606273024)] | 9 => True | 10 => True | 11 => v = .pointer (some ⟨p5, 2, none⟩) | 12 => True | _ => True)) hV trivial, fun h => Bool.noConfusion (h.symm.trans hia), fun _ h => Bool.noConfusion (h.symm.trans hia), fun _ h => (by simp [updL] at h), fun _ => ⟨_, _, rfl, hO9, hB9⟩⟩
        case ht_w13 =>
          intro s W hj
          obtain ⟨hV, hW⟩ := hj
          have e0 : s 0 = _ := hV 0 (by decide) rfl
          have e1 : s 1 = _ := hV 1 (by decide) rfl
          have e2 : s 2 = _ := hV 2 (by decide) rfl
          have e3 : s 3 = _ := hV 3 (by decide) rfl
          have e4 : s 4 = _ := hV 4 (by decide) rfl
          have e5 : s 5 = _ := hV 5 (by decide) rfl
          have e6 : s 6 = _ := hV 6 (by decide) rfl
          have e7 : s 7 = _ := hV 7 (by decide) rfl
          have e8 : s 8 = _ := hV 8 (by decide) rfl
          have e11 : s 11 = _ := hV 11 (by decide) rfl
          simp only [e0, e1, e2, e3, e4, e5, e6, e7, e8, e11]
          clear hV e0 e1 e2 e3 e4 e5 e6 e7 e8 e11
          obtain ⟨W8, u, hWe, hO9, hB9⟩ := hW.2.2.2 rfl
          clear hW
          subst hWe
          go_wp2
          go_roundg (4 - (k + 1))
          case measure => omega
          case rel =>
            rw [← hxe, ← hye, ← ft.out] at hO9
            exact ⟨k + 1, A.setCell ⟨p5, 2, none⟩ u, u, by go_num, by omega, by omega, own_set hO9 hpN, (World.size_setCell ..).trans hAN.out, put_far Q0 (.inr (by decide)), put_far Q1 (.inr (by decide)), World.cell?_setCell_same (v := u) (h := Q2), fun o => (World.frozen?_setCell ..).trans (qz o), bel_both hB9 _ _, bl_set hwA le5⟩
      · have hk : k = 4 := by omega
        subst hk
        obtain ⟨g5, c5, rfl⟩ := own_form4 hO
        have hS : AnyS wr (.slice (some ⟨g5, 0, none⟩) 4 c5) 4 (px smallL) (py smallL) := own_any0 hO (by decide) (by decide) small_oks
        have Q0r := keep hBA Q0
        have Q1r := keep hBA Q1
        have Q2r := keep hBA Q2
        clear hO
        go_wp2
        refine wp_region_inv 10 rfl (fun L s W => (∀ j, j < 10 → L j = true → (fun j v => match j with | 0 => v = .agg #[.int .u8 3, .float .f64 0, .slice (some ⟨g5, 0, none⟩) 4 c5] | 1 => v = .agg #[.float .f64 4742290407621132288, .float .f64 0] | 2 => v = .agg #[.float .f64 4742290407621132288, .float .f64 0, .complex .f64 4607182418800017408 0] | 3 => v = .tuple #[.agg #[.int .u8 0, .float .f64 0, .slice none 0 0], .int .i64 60] | 4 => v = .tuple #[.agg #[.int .u8 0, .float .f64 0, .slice none 0 0], .int .i64 60] | 5 => v = .agg #[.int .u8 0, .float .f64 0, .slice none 0 0] | 6 => v = .int .i64 60 | 7 => True | 8 => True | 9 => v = .int .i64 60 | _ => True) j (s j)) ∧ (Bel wr W ∧ (L 7 = true → L 8 = false → PL wr.heap.size W (s 7)))) ?A_w14 (by kernel_rfl) (by kernel_rfl) ?hA_w14 ?h0_w14 ?hq_w14 ?hJ_w14 ?ht_w14
        case hA_w14 =>
          intro s
          simp only [putL, dstO, Act.put, List.getElem?_toArray, List.getElem?_cons_zero, List.getElem?_cons_succ, Option.bind_some, List.setIfInBounds_toArray, List.set_cons_zero, List.set_cons_succ, if_true]
          all_goals exact rfl
        case h0_w14 => exact ⟨fun j _ h => (by cases h), ⟨bl_drew (bl_refl _), fun h => (by cases h)⟩⟩
        case hJ_w14 =>
          intro L L' s W h hj
          refine ⟨fun j hj2 hl => hj.1 j hj2 ((h j hj2).trans hl), ?_⟩
          have hj2 := hj.2
          rw [h 7 (by decide), h 8 (by decide)] at hj2
          exact hj2
        case hq_w14 =>
          intro i o hi ho L s W hLi hd hsh hj K hK
          obtain ⟨hV, hW⟩ := hj
          rcases (show i = 0 ∨ i = 1 ∨ i = 2 ∨ i = 3 ∨ i = 4 ∨ i = 5 ∨ i = 6 ∨ i = 7 ∨ i = 8 ∨ i = 9 by omega) with rfl | rfl | rfl | rfl | rfl | rfl | rfl | rfl | rfl | rfl
          · cases ho
            simp only [Act.put, List.setIfInBounds_toArray, List.set_cons_zero, List.set_cons_succ] at hK
            have t0 := keep hW.1 Q0r
            have t1 := keep hW.1 Q1r
            have t2 := keep hW.1 Q2r
            go_simp
            all_goals first | with_reducible exact hK.out _ _ ⟨val_upd (VAL := (fun j v => match j with | 0 => v = .agg #[.int .u8 3, .float .f64 0, .slice (some ⟨g5, 0, none⟩) 4 c5] | 1 => v = .agg #[.float .f64 4742290407621132288, .float .f64 0] | 2 => v = .agg #[.float .f64 4742290407621132288, .float .f64 0, .complex .f64 4607182418800017408 0] | 3 => v = .tuple #[.agg #[.int .u8 0, .float .f64 0, .slice none 0 0], .int .i64 60] | 4 => v = .tuple #[.agg #[.int .u8 0, .float .f64 0, .slice none 0 0], .int .i64 60] | 5 => v = .agg #[.int .u8 0, .float .f64 0, .slice none 0 0] | 6 => v = .int .i64 60 | 7 => True | 8 => True | 9 => v = .int .i64 60 | _ => True)) hV rfl, hW⟩ | exact hK.out _ _ ⟨val_upd (VAL := (fun j v => match j with | 0 => v = .agg #[.int .u8 3, .float .f64 0, .slice (some ⟨g5, 0, none⟩) 4 c5] | 1 => v = .agg #[.float .f64 4742290407621132288, .float .f64 0] | 2 => v = .agg #[.float .f64 4742290407621132288, .float .f64 0, .complex .f64 4607182418800017408 0] | 3 => v = .tuple #[.agg #[.int .u8 0, .float .f64 0, .slice none 0 0], .int .i64 60] | 4 => v = .tuple #[.agg #[.int .u8 0, .float .f64 0, .slice none 0 0], .int .i64 60] | 5 => v = .agg #[.int .u8 0, .float .f64 0, .slice none 0 0] | 6 => v = .int .i64 60 | 7 => True | 8 => True | 9 => v = .int .i64 60 | _ => True)) hV rfl, hW⟩
          · cases ho
            simp only [Act.put, List.setIfInBounds_toArray, List.set_cons_zero, List.set_cons_succ] at hK
            have hW1 := hW.1
            have hW2 := hW.2
            have hSk := hS.bel hW1
            clear hW
            go_simp
            all_goals (try go_wp2_with (first | (go_at_call 15; refine (v_any _ _ _).mono ?_; rintro e w' ⟨rfl, hb1⟩) | (go_at_call 18; refine (put_err _ 4 (px smallL) (py smallL) 3 0 4742290407621132288 0 4607182418800017408 0 _ hSk (by rw [okK64]; decide) y_small y_in (by rw [okK64]; decide) (by rw [okK64]; decide) x_bd1 x_bd0 y_chk 60 y_put (by decide)).mono ?_; rintro e w' ⟨rfl, hb1⟩)))
            exact hK.out _ _ ⟨val_upd (VAL := (fun j v => match j with | 0 => v = .agg #[.int .u8 3, .float .f64 0, .slice (some ⟨g5, 0, none⟩) 4 c5] | 1 => v = .agg #[.float .f64 4742290407621132288, .float .f64 0] | 2 => v = .agg #[.float .f64 4742290407621132288, .float .f64 0, .complex .f64 4607182418800017408 0] | 3 => v = .tuple #[.agg #[.int .u8 0, .float .f64 0, .slice none 0 0], .int .i64 60] | 4 => v = .tuple #[.agg #[.int .u8 0, .float .f64 0, .slice none 0 0], .int .i64 60] | 5 => v = .agg #[.int .u8 0, .float .f64 0, .slice none 0 0] | 6 => v = .int .i64 60 | 7 => True | 8 => True | 9 => v = .int .i64 60 | _ => True)) hV rfl, bl_trans hW1 hb1, fun h g => (hW2 h g).bel hb1⟩
          · cases ho
            have e1 : s 1 = _ := hV 1 (by decide) (hd 1 (by kernel_rfl))
            simp only [e1] at hK ⊢
            simp only [Act.put, List.setIfInBounds_toArray, List.set_cons_zero, List.set_cons_succ] at hK
            go_simp
            all_goals first | with_reducible exact hK.out _ _ ⟨val_upd (VAL := (fun j v => match j with | 0 => v = .agg #[.int .u8 3, .float .f64 0, .slice (some ⟨g5, 0, none⟩) 4 c5] | 1 => v = .agg #[.float .f64 4742290407621132288, .float .f64 0] | 2 => v = .agg #[.float .f64 4742290407621132288, .float .f64 0, .complex .f64 4607182418800017408 0] | 3 => v = .tuple #[.agg #[.int .u8 0, .float .f64 0, .slice none 0 0], .int .i64 60] | 4 => v = .tuple #[.agg #[.int .u8 0, .float .f64 0, .slice none 0 0], .int .i64 60] | 5 => v = .agg #[.int .u8 0, .float .f64 0, .slice none 0 0] | 6 => v = .int .i64 60 | 7 => True | 8 => True | 9 => v = .int .i64 60 | _ => True)) hV rfl, hW⟩ | exact hK.out _ _ ⟨val_upd (VAL := (fun j v => match j with | 0 => v = .agg #[.int .u8 3, .float .f64 0, .slice (some ⟨g5, 0, none⟩) 4 c5] | 1 => v = .agg #[.float .f64 4742290407621132288, .float .f64 0] | 2 => v = .agg #[.float .f64 4742290407621132288, .float .f64 0, .complex .f64 4607182418800017408 0] | 3 => v = .tuple #[.agg #[.int .u8 0, .float .f64 0, .slice none 0 0], .int .i64 60] | 4 => v = .tuple #[.agg #[.int .u8 0, .float .f64 0, .slice none 0 0], .int .i64 60] | 5 => v = .agg #[.int .u8 0, .float .f64 0, .slice none 0 0] | 6 => v = .int .i64 60 | 7 => True | 8 => True | 9 => v = .int .i64 60 | _ => True)) hV rfl, hW⟩
          · cases ho
            have e0 : s 0 = _ := hV 0 (by decide) (hd 0 (by kernel_rfl))
            have e2 : s 2 = _ := hV 2 (by decide) (hd 2 (by kernel_rfl))
            simp only [e0, e2] at hK ⊢
            simp only [Act.put, List.setIfInBounds_toArray, List.set_cons_zero, List.set_cons_succ] at hK
            have hW1 := hW.1
            have hW2 := hW.2
            have hSk := hS.bel hW1
            clear hW
            go_simp
            all_goals (try go_wp2_with (first | (go_at_call 15; refine (v_any _ _ _).mono ?_; rintro e w' ⟨rfl, hb1⟩) | (go_at_call 18; refine (put_err _ 4 (px smallL) (py smallL) 3 0 4742290407621132288 0 4607182418800017408 0 _ hSk (by rw [okK64]; decide) y_small y_in (by rw [okK64]; decide) (by rw [okK64]; decide) x_bd1 x_bd0 y_chk 60 y_put (by decide)).mono ?_; rintro e w' ⟨rfl, hb1⟩)))
            exact hK.out _ _ ⟨val_upd (VAL := (fun j v => match j with | 0 => v = .agg #[.int .u8 3, .float .f64 0, .slice (some ⟨g5, 0, none⟩) 4 c5] | 1 => v = .agg #[.float .f64 4742290407621132288, .float .f64 0] | 2 => v = .agg #[.float .f64 4742290407621132288, .float .f64 0, .complex .f64 4607182418800017408 0] | 3 => v = .tuple #[.agg #[.int .u8 0, .float .f64 0, .slice none 0 0], .int .i64 60] | 4 => v = .tuple #[.agg #[.int .u8 0, .float .f64 0, .slice none 0 0], .int .i64 60] | 5 => v = .agg #[.int .u8 0, .float .f64 0, .slice none 0 0] | 6 => v = .int .i64 60 | 7 => True | 8 => True | 9 => v = .int .i64 60 | _ => True)) hV rfl, bl_trans hW1 hb1, fun h g => (hW2 h g).bel hb1⟩
          · cases ho
            have e3 : s 3 = _ := hV 3 (by decide) (hd 3 (by kernel_rfl))
            simp only [e3] at hK ⊢
            simp only [Act.put, List.setIfInBounds_toArray, List.set_cons_zero, List.set_cons_succ] at hK
            go_simp
            all_goals first | with_reducible exact hK.out _ _ ⟨val_upd (VAL := (fun j v => match j with | 0 => v = .agg #[.int .u8 3, .float .f64 0, .slice (some ⟨g5, 0, none⟩) 4 c5] | 1 => v = .agg #[.float .f64 4742290407621132288, .float .f64 0] | 2 => v = .agg #[.float .f64 4742290407621132288, .float .f64 0, .complex .f64 4607182418800017408 0] | 3 => v = .tuple #[.agg #[.int .u8 0, .float .f64 0, .slice none 0 0], .int .i64 60] | 4 => v = .tuple #[.agg #[.int .u8 0, .float .f64 0, .slice none 0 0], .int .i64 60] | 5 => v = .agg #[.int .u8 0, .float .f64 0, .slice none 0 0] | 6 => v = .int .i64 60 | 7 => True | 8 => True | 9 => v = .int .i64 60 | _ => True)) hV rfl, hW⟩ | exact hK.out _ _ ⟨val_upd (VAL := (fun j v => match j with | 0 => v = .agg #[.int .u8 3, .float .f64 0, .slice (some ⟨g5, 0, none⟩) 4 c5] | 1 => v = .agg #[.float .f64 4742290407621132288, .float .f64 0] | 2 => v = .agg #[.float .f64 4742290407621132288, .float .f64 0, .complex .f64 4607182418800017408 0] | 3 => v = .tuple #[.agg #[.int .u8 0, .float .f64 0, .slice none 0 0], .int .i64 60] | 4 => v = .tuple #[.agg #[.int .u8 0, .float .f64 0, .slice none 0 0], .int .i64 60] | 5 => v = .agg #[.int .u8 0, .float .f64 0, .slice none 0 0] | 6 => v = .int .i64 60 | 7 => True | 8 => True | 9 => v = .int .i64 60 | _ => True)) hV rfl, hW⟩
          · cases ho
            have e4 : s 4 = _ := hV 4 (by decide) (hd 4 (by kernel_rfl))
            simp only [e4] at hK ⊢
            simp only [Act.put, List.setIfInBounds_toArray, List.set_cons_zero, List.set_cons_succ] at hK
            go_simp
            all_goals first | with_reducible exact hK.out _ _ ⟨val_upd (VAL := (fun j v => match j with | 0 => v = .agg #[.int .u8 3, .float .f64 0, .slice (some ⟨g5, 0, none⟩) 4 c5] | 1 => v = .agg #[.float .f64 4742290407621132288, .float .f64 0] | 2 => v = .agg #[.float .f64 4742290407621132288, .float .f64 0, .complex .f64 4607182418800017408 0] | 3 => v = .tuple #[.agg #[.int .u8 0, .float .f64 0, .slice none 0 0], .int .i64 60] | 4 => v = .tuple #[.agg #[.int .u8 0, .float .f64 0, .slice none 0 0], .int .i64 60] | 5 => v = .agg #[.int .u8 0, .float .f64 0, .slice none 0 0] | 6 => v = .int .i64 60 | 7 => True | 8 => True | 9 => v = .int .i64 60 | _ => True)) hV rfl, hW⟩ | exact hK.out _ _ ⟨val_upd (VAL := (fun j v => match j with | 0 => v = .agg #[.int .u8 3, .float .f64 0, .slice (some ⟨g5, 0, none⟩) 4 c5] | 1 => v = .agg #[.float .f64 4742290407621132288, .float .f64 0] | 2 => v = .agg #[.float .f64 4742290407621132288, .float .f64 0, .complex .f64 4607182418800017408 0] | 3 => v = .tuple #[.agg #[.int .u8 0, .float .f64 0, .slice none 0 0], .int .i64 60] | 4 => v = .tuple #[.agg #[.int .u8 0, .float .f64 0, .slice none 0 0], .int .i64 60] | 5 => v = .agg #[.int .u8 0, .float .f64 0, .slice none 0 0] | 6 => v = .int .i64 60 | 7 => True | 8 => True | 9 => v = .int .i64 60 | _ => True)) hV rfl, hW⟩
          · cases ho
            have e4 : s 4 = _ := hV 4 (by decide) (hd 4 (by kernel_rfl))
            simp only [e4] at hK ⊢
            simp only [Act.put, List.setIfInBounds_toArray, List.set_cons_zero, List.set_cons_succ] at hK
            go_simp
            all_goals first | with_reducible exact hK.out _ _ ⟨val_upd (VAL := (fun j v => match j with | 0 => v = .agg #[.int .u8 3, .float .f64 0, .slice (some ⟨g5, 0, none⟩) 4 c5] | 1 => v = .agg #[.float .f64 4742290407621132288, .float .f64 0] | 2 => v = .agg #[.float .f64 4742290407621132288, .float .f64 0, .complex .f64 4607182418800017408 0] | 3 => v = .tuple #[.agg #[.int .u8 0, .float .f64 0, .slice none 0 0], .int .i64 60] | 4 => v = .tuple #[.agg #[.int .u8 0, .float .f64 0, .slice none 0 0], .int .i64 60] | 5 => v = .agg #[.int .u8 0, .float .f64 0, .slice none 0 0] | 6 => v = .int .i64 60 | 7 => True | 8 => True | 9 => v = .int .i64 60 | _ => True)) hV rfl, hW⟩ | exact hK.out _ _ ⟨val_upd (VAL := (fun j v => match j with | 0 => v = .agg #[.int .u8 3, .float .f64 0, .slice (some ⟨g5, 0, none⟩) 4 c5] | 1 => v = .agg #[.float .f64 4742290407621132288, .float .f64 0] | 2 => v = .agg #[.float .f64 4742290407621132288, .float .f64 0, .complex .f64 4607182418800017408 0] | 3 => v = .tuple #[.agg #[.int .u8 0, .float .f64 0, .slice none 0 0], .int .i64 60] | 4 => v = .tuple #[.agg #[.int .u8 0, .float .f64 0, .slice none 0 0], .int .i64 60] | 5 => v = .agg #[.int .u8 0, .float .f64 0, .slice none 0 0] | 6 => v = .int .i64 60 | 7 => True | 8 => True | 9 => v = .int .i64 60 | _ => True)) hV rfl, hW⟩
          · cases ho
            simp only [Act.put, List.setIfInBounds_toArray, List.set_cons_zero, List.set_cons_succ] at hK
            have hW1 := hW.1
            clear hW
            go_simp
            exact hK.out _ _ ⟨val_upd (VAL := (fun j v => match j with | 0 => v = .agg #[.int .u8 3, .float .f64 0, .slice (some ⟨g5, 0, none⟩) 4 c5] | 1 => v = .agg #[.float .f64 4742290407621132288, .float .f64 0] | 2 => v = .agg #[.float .f64 4742290407621132288, .float .f64 0, .complex .f64 4607182418800017408 0] | 3 => v = .tuple #[.agg #[.int .u8 0, .float .f64 0, .slice none 0 0], .int .i64 60] | 4 => v = .tuple #[.agg #[.int .u8 0, .float .f64 0, .slice none 0 0], .int .i64 60] | 5 => v = .agg #[.int .u8 0, .float .f64 0, .slice none 0 0] | 6 => v = .int .i64 60 | 7 => True | 8 => True | 9 => v = .int .i64 60 | _ => True)) hV trivial, bl_alloc hW1 _ _, fun _ _ => pl_new hW1.size⟩
          · cases ho
            have e5 : s 5 = _ := hV 5 (by decide) (hd 5 (by kernel_rfl))
            simp only [e5] at hK ⊢
            simp only [Act.put, List.setIfInBounds_toArray, List.set_cons_zero, List.set_cons_succ] at hK
            have hW1 := hW.1
            obtain ⟨g8, e7, hg8, a8, b8, c8, k0, k1, k2⟩ := hW.2 (hd 7 (by kernel_rfl)) hLi
            clear hW
            simp only [e7] at hK ⊢
            have z8 := fun o => (hW1.2 ⟨g8, o, none⟩).trans (fresh_frozen hg8)
            go_simp
            exact hK.out undef _ ⟨val_upd (VAL := (fun j v => match j with | 0 => v = .agg #[.int .u8 3, .float .f64 0, .slice (some ⟨g5, 0, none⟩) 4 c5] | 1 => v = .agg #[.float .f64 4742290407621132288, .float .f64 0] | 2 => v = .agg #[.float .f64 4742290407621132288, .float .f64 0, .complex .f64 4607182418800017408 0] | 3 => v = .tuple #[.agg #[.int .u8 0, .float .f64 0, .slice none 0 0], .int .i64 60] | 4 => v = .tuple #[.agg #[.int .u8 0, .float .f64 0, .slice none 0 0], .int .i64 60] | 5 => v = .agg #[.int .u8 0, .float .f64 0, .slice none 0 0] | 6 => v = .int .i64 60 | 7 => True | 8 => True | 9 => v = .int .i64 60 | _ => True)) hV trivial, bl_set (bl_set (bl_set hW1 hg8) hg8) hg8, fun _ h => (by simp [updL] at h)⟩
          · cases ho
            have e6 : s 6 = _ := hV 6 (by decide) (hd 6 (by kernel_rfl))
            simp only [e6] at hK ⊢
            simp only [Act.put, List.setIfInBounds_toArray, List.set_cons_zero, List.set_cons_succ] at hK
            go_simp
            all_goals first | with_reducible exact hK.out _ _ ⟨val_upd (VAL := (fun j v => match j with | 0 => v = .agg #[.int .u8 3, .float .f64 0, .slice (some ⟨g5, 0, none⟩) 4 c5] | 1 => v = .agg #[.float .f64 4742290407621132288, .float .f64 0] | 2 => v = .agg #[.float .f64 4742290407621132288, .float .f64 0, .complex .f64 4607182418800017408 0] | 3 => v = .tuple #[.agg #[.int .u8 0, .float .f64 0, .slice none 0 0], .int .i64 60] | 4 => v = .tuple #[.agg #[.int .u8 0, .float .f64 0, .slice none 0 0], .int .i64 60] | 5 => v = .agg #[.int .u8 0, .float .f64 0, .slice none 0 0] | 6 => v = .int .i64 60 | 7 => True | 8 => True | 9 => v = .int .i64 60 | _ => True)) hV rfl, hW⟩ | exact hK.out _ _ ⟨val_upd (VAL := (fun j v => match j with | 0 => v = .agg #[.int .u8 3, .float .f64 0, .slice (some ⟨g5, 0, none⟩) 4 c5] | 1 => v = .agg #[.float .f64 4742290407621132288, .float .f64 0] | 2 => v = .agg #[.float .f64 4742290407621132288, .float .f64 0, .complex .f64 4607182418800017408 0] | 3 => v = .tuple #[.agg #[.int .u8 0, .float .f64 0, .slice none 0 0], .int .i64 60] | 4 => v = .tuple #[.agg #[.int .u8 0, .float .f64 0, .slice none 0 0], .int .i64 60] | 5 => v = .agg #[.int .u8 0, .float .f64 0, .slice none 0 0] | 6 => v = .int .i64 60 | 7 => True | 8 => True | 9 => v = .int .i64 60 | _ => True)) hV rfl, hW⟩
        case ht_w14 =>
          intro s W hj
          obtain ⟨hV, hW⟩ := hj
          have e0 : s 0 = _ := hV 0 (by decide) rfl
          have e1 : s 1 = _ := hV 1 (by decide) rfl
          have e2 : s 2 = _ := hV 2 (by decide) rfl
          have e3 : s 3 = _ := hV 3 (by decide) rfl
          have e4 : s 4 = _ := hV 4 (by decide) rfl
          have e5 : s 5 = _ := hV 5 (by decide) rfl
          have e6 : s 6 = _ := hV 6 (by decide) rfl
          have e9 : s 9 = _ := hV 9 (by decide) rfl
          simp only [e0, e1, e2, e3, e4, e5, e6, e9]
          clear hV e0 e1 e2 e3 e4 e5 e6 e9
          have Bz := hW.1
          clear hW
          have B1 := bl_trans hwA (bl_trans hBA Bz)
          replace Q0 := keep Bz Q0r
          replace Q1 := keep Bz Q1r
          replace Q2 := keep Bz Q2r
          replace hS := hS.bel Bz
          clear Q0r Q1r Q2r Bz hwA hBA qz
          go_wp2_with (first | (go_at_call 17; (with_reducible refine (capsule_b _).mono ?_); rintro e wy ⟨by_capsule, rfl, hX, hbx⟩; replace Q0 := keep hbx Q0; replace Q1 := keep hbx Q1; replace Q2 := keep hbx Q2; replace hS := hS.bel hbx; replace B1 := bl_trans B1 hbx; clear hbx) | (go_at_call 13; (with_reducible refine (square_b _).mono ?_); rintro e wy ⟨by_square, rfl, hX, hbx⟩; replace Q0 := keep hbx Q0; replace Q1 := keep hbx Q1; replace Q2 := keep hbx Q2; replace hS := hS.bel hbx; replace B1 := bl_trans B1 hbx; clear hbx) | (go_at_call 14; (with_reducible refine (circle_b _).mono ?_); rintro e wy ⟨by_circle, rfl, hX, hbx⟩; replace Q0 := keep hbx Q0; replace Q1 := keep hbx Q1; replace Q2 := keep hbx Q2; replace hS := hS.bel hbx; replace B1 := bl_trans B1 hbx; clear hbx) | (go_at_call 15; (with_reducible refine (v_any _ _ _).mono ?_); rintro e wy ⟨rfl, hbx⟩; replace Q0 := keep hbx Q0; replace Q1 := keep hbx Q1; replace Q2 := keep hbx Q2; replace hS := hS.bel hbx; replace B1 := bl_trans B1 hbx; replace hX := hX.bel hbx; clear hbx) | (go_at_call 19; (with_reducible refine (sReach_any _ 2 (px capsuleL) (py capsuleL) 2 4607182418800017408 _ hX (by rw [okK64]; decide) 0 0 (by rw [okK64]; decide) (by rw [okK64]; decide)).mono ?_); rintro e wy ⟨rfl, hbx⟩; rw [y_rc, y_re]; replace Q0 := keep hbx Q0; replace Q1 := keep hbx Q1; replace Q2 := keep hbx Q2; replace hS := hS.bel hbx; replace B1 := bl_trans B1 hbx; clear hbx; clear hX) | (go_at_call 19; (with_reducible refine (sReach_any _ 4 (px squareL) (py squareL) 3 0 _ hX (by rw [okK64]; decide) 0 0 (by rw [okK64]; decide) (by rw [okK64]; decide)).mono ?_); rintro e wy ⟨rfl, hbx⟩; rw [y_sc, y_se]; replace Q0 := keep hbx Q0; replace Q1 := keep hbx Q1; replace Q2 := keep hbx Q2; replace hS := hS.bel hbx; replace B1 := bl_trans B1 hbx; clear hbx; clear hX) | (go_at_call 20; (with_reducible refine (sFar_any _ 1 (px circleL) (py circleL) 1 4613937818241073152 _ hX (by rw [okK64]; decide) 0 0 (by rw [okK64]; decide) (by rw [okK64]; decide)).mono ?_); rintro e wz9 ⟨rfl, hbx⟩; rw [y_fx, y_fy, y_fe]; replace Q0 := keep hbx Q0; replace Q1 := keep hbx Q1; replace Q2 := keep hbx Q2; replace hS := hS.bel hbx; replace B1 := bl_trans B1 hbx; clear hbx; clear hX; replace Q0 := up_alloc (o := .cells #[.float .f64 4607182418800017408, .float .f64 4611686018427387904] 36) Q0; replace Q1 := up_alloc (o := .cells #[.float .f64 4607182418800017408, .float .f64 4611686018427387904] 36) Q1; replace Q2 := up_alloc (o := .cells #[.float .f64 4607182418800017408, .float .f64 4611686018427387904] 36) Q2; obtain ⟨F0, F1, hbx⟩ := new2 wz9 36 (.float .f64 4607182418800017408) (.float .f64 4611686018427387904); replace hS := hS.bel hbx; replace B1 := bl_trans B1 hbx; clear hbx))
          have ckS : ∀ p : BelBy (wz9.alloc (.cells #[.float .f64 4607182418800017408, .float .f64 4611686018427387904] 36)), Calls Try.prog 16 #[.agg #[.int .u8 3, .float .f64 0, .slice (some ⟨g5, 0, none⟩) 4 c5]] p.world fun e w' => e = .returned (.int .i64 0) ∧ Bel p.world w' := fun p => by
            have h := check_any _ _ _ _ 3 0 p.world (hS.bel p.h)
            rw [y_small] at h
            exact h
          have q0 := cmp_eq .f64
          have q1 := fun (x y : Nat) (w : World) => run_equalIn_float Try.prog w 31 .f64 x y Try.underlying31
          have q3 := fun (d x y : Nat) (w : World) => run_equalIn_fl Try.prog w d 31 .f64 x y Try.underlying31
          have q4 := fun (x y : Nat) (w : World) => run_equalIn_fl Try.prog w 9997 31 .f64 x y Try.underlying31
          have q5 := fun (x y : Nat) (w : World) => run_equalIn_fl Try.prog w 9996 31 .f64 x y Try.underlying31
          have e0 : eqK .f64 4607182418800017408 4607182418800017408 = true := by decide +kernel
          have e1 : eqK .f64 4611686018427387904 4611686018427387904 = true := by decide +kernel
          have e2 : eqK .f64 4617315517961601024 4617315517961601024 = true := by decide +kernel
          have e9 := y_s8
          obtain ⟨s8, hs8⟩ : ∃ x, Sq 4620693217682128896 = x := ⟨_, rfl⟩
          have sq8 := sqrt8
          rw [hs8] at sq8 e9 ⊢
          clear hs8
          haveI := belBy_some (wz9.alloc (.cells #[.float .f64 4607182418800017408, .float .f64 4611686018427387904] 36))
          have y0 := belBy_cell Q0
          have y1 := belBy_cell Q1
          have y2 := belBy_cell Q2
          have y3 := belBy_cell F0
          have y4 := belBy_cell F1
          refine wp_region_quiet_bel (by kernel_rfl) (by kernel_rfl) ?_
          repeat (go_big_quiet_step (first | (go_at_call 15; exact calls_bel (v_any _ _ _)) | (go_at_call 21; exact calls_bel (alive7 _)) | (go_at_call 16; exact calls_bel (ckS _)) | (go_at_call 22; exact calls_bel (sq8 _))))
          refine wpQuiet_nil ?_
          rintro _ ⟨nq, rfl⟩
          go_wp2
          go_ret
          exact ⟨rfl, bl_trans B1 nq.h⟩

end Go.Proofs.Ytnbkjkbgfcpcfaa
