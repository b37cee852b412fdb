/-
  What each function of package grid answers: one contract a function.
-/
import Derived.Test.YtekhnolpgoejdabGc
import Derived.Test.YtekhnolpgoejdabOnc7
import Derived.Laws.FloatArith
import Derived.Laws.StructEq
import Derived.Deep.DeepCutAuto
import Derived.Laws.MakeOwn
import Derived.Below
import Derived.BigQuiet
import Derived.OwnWalk
import Derived.Laws.AppendOwn
import Derived.Laws.AppendOwnNone
import Derived.WalkKit
import Derived.WalkLawsBesides
import Derived.WalkSpells
import Derived.ProofKit
import Derived.OpenShut
import Derived.Deep.RegionHeld3
import Derived.Deep.LoopGhost
namespace Go.Proofs.Ytekhnolpgoejdab
open Go.ChangeShapes Go.WideShapes Go.ChangeAt Go.RowKit Go.Shelf Go.Lib Go.Sort
set_option linter.unusedVariables false
set_option linter.unusedSimpArgs false


set_option maxHeartbeats 4000000 in
theorem cellOf_s {x y d : Nat} (hx : nanK .f64 x = false) (hy : nanK .f64 y = false) (h : mayW d = true) (w : World) : Calls Try.prog 37 #[.agg #[.float .f64 x, .float .f64 y], .float .f64 d] w fun e w' => e = .returned (ceV (coK x d, coK y d)) ∧ Bel w w' := by
  go_enter Try.func37, Try.ntmps37
  go_wp2
  refine wp_region_inv 10 rfl (fun L s W => (∀ j, j < 10 → L j = true → (fun j v => match j with | 0 => v = .pointer (some ⟨w.heap.size, 0, none⟩) | 1 => v = .float .f64 x | 2 => v = .float .f64 d | 3 => v = .int .i64 (coK x d) | 4 => v = .pointer (some ⟨w.heap.size, 1, none⟩) | 5 => v = .float .f64 y | 6 => v = .float .f64 d | 7 => v = .int .i64 (coK y d) | 8 => v = .agg #[.int .i64 (coK x d), .int .i64 (coK y d)] | 9 => True | _ => True) j (s j)) ∧ ((L 9 = false → W = ((w.alloc (.cells #[.float .f64 x, .float .f64 y] 33)).alloc (.cells #[.int .i64 0, .int .i64 0] 75)).drew) ∧ (L 9 = true → Bel w W ∧ W.cell? ⟨w.heap.size + 1, 0, none⟩ = some (.int .i64 (coK x d)) ∧ W.cell? ⟨w.heap.size + 1, 1, none⟩ = some (.int .i64 (coK y d))))) ?A_wi (by kernel_rfl) (by kernel_rfl) ?hA_wi ?h0_wi ?hq_wi ?hJ_wi ?ht_wi
  case hA_wi =>
    intro s
    simp only [putL, dstO, Act.put, List.getElem?_toArray, List.getElem?_cons_zero, List.getElem?_cons_succ, Option.bind_some, List.setIfInBounds_toArray, List.set_cons_zero, List.set_cons_succ, if_true]
    all_goals exact rfl
  case h0_wi => exact ⟨fun j _ h => (by cases h), ⟨fun _ => rfl, fun h => (by cases h)⟩⟩
  case hJ_wi =>
    intro L L' s W h hj
    refine ⟨fun j hj2 hl => hj.1 j hj2 ((h j hj2).trans hl), ?_⟩
    have hj2 := hj.2
    rw [h 9 (by decide)] at hj2
    exact hj2
  case hq_wi =>
    intro i o hi ho L s W hLi hd hsh hj K hK
    obtain ⟨hV, hW⟩ := hj
    rcases (show i = 0 ∨ i = 1 ∨ i = 2 ∨ i = 3 ∨ i = 4 ∨ i = 5 ∨ i = 6 ∨ i = 7 ∨ i = 8 ∨ i = 9 by omega) with rfl | rfl | rfl | rfl | rfl | rfl | rfl | rfl | rfl | rfl
    · cases ho
      simp only [Act.put, List.setIfInBounds_toArray, List.set_cons_zero, List.set_cons_succ] at hK
      have h9 := not_yet hsh (k := 9) hLi (by decide) (by kernel_rfl) rfl
      have hw := hW.1 h9
      subst hw
      clear hsh hd
      clear hW
      go_simp
      all_goals (try go_wp2_with (first | (go_at_call 56; first | ((with_reducible refine (column_s hx h _).mono ?_); rintro e w' ⟨rfl, hw⟩; rw [hw]; clear hw) | ((with_reducible refine (column_s hy h _).mono ?_); rintro e w' ⟨rfl, hw⟩; rw [hw]; clear hw))))
      all_goals first | with_reducible exact hK.out _ _ ⟨val_upd (VAL := (fun j v => match j with | 0 => v = .pointer (some ⟨w.heap.size, 0, none⟩) | 1 => v = .float .f64 x | 2 => v = .float .f64 d | 3 => v = .int .i64 (coK x d) | 4 => v = .pointer (some ⟨w.heap.size, 1, none⟩) | 5 => v = .float .f64 y | 6 => v = .float .f64 d | 7 => v = .int .i64 (coK y d) | 8 => v = .agg #[.int .i64 (coK x d), .int .i64 (coK y d)] | 9 => True | _ => True)) hV rfl, ⟨fun _ => rfl, fun h => Bool.noConfusion (h9.symm.trans h)⟩⟩ | exact hK.out _ _ ⟨val_upd (VAL := (fun j v => match j with | 0 => v = .pointer (some ⟨w.heap.size, 0, none⟩) | 1 => v = .float .f64 x | 2 => v = .float .f64 d | 3 => v = .int .i64 (coK x d) | 4 => v = .pointer (some ⟨w.heap.size, 1, none⟩) | 5 => v = .float .f64 y | 6 => v = .float .f64 d | 7 => v = .int .i64 (coK y d) | 8 => v = .agg #[.int .i64 (coK x d), .int .i64 (coK y d)] | 9 => True | _ => True)) hV rfl, ⟨fun _ => rfl, fun h => Bool.noConfusion (h9.symm.trans h)⟩⟩
    · cases ho
      have e0 : s 0 = _ := hV 0 (by decide) (hd 0 (by kernel_rfl))
      simp only [e0] at hK ⊢
      simp only [Act.put, List.setIfInBounds_toArray, List.set_cons_zero, List.set_cons_succ] at hK
      have h9 := not_yet hsh (k := 9) hLi (by decide) (by kernel_rfl) rfl
      have hw := hW.1 h9
      subst hw
      clear hsh hd
      clear hW
      go_simp
      all_goals (try go_wp2_with (first | (go_at_call 56; first | ((with_reducible refine (column_s hx h _).mono ?_); rintro e w' ⟨rfl, hw⟩; rw [hw]; clear hw) | ((with_reducible refine (column_s hy h _).mono ?_); rintro e w' ⟨rfl, hw⟩; rw [hw]; clear hw))))
      all_goals first | with_reducible exact hK.out _ _ ⟨val_upd (VAL := (fun j v => match j with | 0 => v = .pointer (some ⟨w.heap.size, 0, none⟩) | 1 => v = .float .f64 x | 2 => v = .float .f64 d | 3 => v = .int .i64 (coK x d) | 4 => v = .pointer (some ⟨w.heap.size, 1, none⟩) | 5 => v = .float .f64 y | 6 => v = .float .f64 d | 7 => v = .int .i64 (coK y d) | 8 => v = .agg #[.int .i64 (coK x d), .int .i64 (coK y d)] | 9 => True | _ => True)) hV rfl, ⟨fun _ => rfl, fun h => Bool.noConfusion (h9.symm.trans h)⟩⟩ | exact hK.out _ _ ⟨val_upd (VAL := (fun j v => match j with | 0 => v = .pointer (some ⟨w.heap.size, 0, none⟩) | 1 => v = .float .f64 x | 2 => v = .float .f64 d | 3 => v = .int .i64 (coK x d) | 4 => v = .pointer (some ⟨w.heap.size, 1, none⟩) | 5 => v = .float .f64 y | 6 => v = .float .f64 d | 7 => v = .int .i64 (coK y d) | 8 => v = .agg #[.int .i64 (coK x d), .int .i64 (coK y d)] | 9 => True | _ => True)) hV rfl, ⟨fun _ => rfl, fun h => Bool.noConfusion (h9.symm.trans h)⟩⟩
    · cases ho
      simp only [Act.put, List.setIfInBounds_toArray, List.set_cons_zero, List.set_cons_succ] at hK
      have h9 := not_yet hsh (k := 9) hLi (by decide) (by kernel_rfl) rfl
      have hw := hW.1 h9
      subst hw
      clear hsh hd
      clear hW
      go_simp
      all_goals (try go_wp2_with (first | (go_at_call 56; first | ((with_reducible refine (column_s hx h _).mono ?_); rintro e w' ⟨rfl, hw⟩; rw [hw]; clear hw) | ((with_reducible refine (column_s hy h _).mono ?_); rintro e w' ⟨rfl, hw⟩; rw [hw]; clear hw))))
      all_goals first | with_reducible exact hK.out _ _ ⟨val_upd (VAL := (fun j v => match j with | 0 => v = .pointer (some ⟨w.heap.size, 0, none⟩) | 1 => v = .float .f64 x | 2 => v = .float .f64 d | 3 => v = .int .i64 (coK x d) | 4 => v = .pointer (some ⟨w.heap.size, 1, none⟩) | 5 => v = .float .f64 y | 6 => v = .float .f64 d | 7 => v = .int .i64 (coK y d) | 8 => v = .agg #[.int .i64 (coK x d), .int .i64 (coK y d)] | 9 => True | _ => True)) hV rfl, ⟨fun _ => rfl, fun h => Bool.noConfusion (h9.symm.trans h)⟩⟩ | exact hK.out _ _ ⟨val_upd (VAL := (fun j v => match j with | 0 => v = .pointer (some ⟨w.heap.size, 0, none⟩) | 1 => v = .float .f64 x | 2 => v = .float .f64 d | 3 => v = .int .i64 (coK x d) | 4 => v = .pointer (some ⟨w.heap.size, 1, none⟩) | 5 => v = .float .f64 y | 6 => v = .float .f64 d | 7 => v = .int .i64 (coK y d) | 8 => v = .agg #[.int .i64 (coK x d), .int .i64 (coK y d)] | 9 => True | _ => True)) hV rfl, ⟨fun _ => rfl, fun h => Bool.noConfusion (h9.symm.trans h)⟩⟩
    · cases ho
      have e1 : s 1 = _ := hV 1 (by decide) (hd 1 (by kernel_rfl))
      have e2 : s 2 = _ := hV 2 (by decide) (hd 2 (by kernel_rfl))
      simp only [e1, e2] at hK ⊢
      simp only [Act.put, List.setIfInBounds_toArray, List.set_cons_zero, List.set_cons_succ] at hK
      have h9 := not_yet hsh (k := 9) hLi (by decide) (by kernel_rfl) rfl
      have hw := hW.1 h9
      subst hw
      clear hsh hd
      clear hW
      go_simp
      all_goals (try go_wp2_with (first | (go_at_call 56; first | ((with_reducible refine (column_s hx h _).mono ?_); rintro e w' ⟨rfl, hw⟩; rw [hw]; clear hw) | ((with_reducible refine (column_s hy h _).mono ?_); rintro e w' ⟨rfl, hw⟩; rw [hw]; clear hw))))
      all_goals first | with_reducible exact hK.out _ _ ⟨val_upd (VAL := (fun j v => match j with | 0 => v = .pointer (some ⟨w.heap.size, 0, none⟩) | 1 => v = .float .f64 x | 2 => v = .float .f64 d | 3 => v = .int .i64 (coK x d) | 4 => v = .pointer (some ⟨w.heap.size, 1, none⟩) | 5 => v = .float .f64 y | 6 => v = .float .f64 d | 7 => v = .int .i64 (coK y d) | 8 => v = .agg #[.int .i64 (coK x d), .int .i64 (coK y d)] | 9 => True | _ => True)) hV rfl, ⟨fun _ => rfl, fun h => Bool.noConfusion (h9.symm.trans h)⟩⟩ | exact hK.out _ _ ⟨val_upd (VAL := (fun j v => match j with | 0 => v = .pointer (some ⟨w.heap.size, 0, none⟩) | 1 => v = .float .f64 x | 2 => v = .float .f64 d | 3 => v = .int .i64 (coK x d) | 4 => v = .pointer (some ⟨w.heap.size, 1, none⟩) | 5 => v = .float .f64 y | 6 => v = .float .f64 d | 7 => v = .int .i64 (coK y d) | 8 => v = .agg #[.int .i64 (coK x d), .int .i64 (coK y d)] | 9 => True | _ => True)) hV rfl, ⟨fun _ => rfl, fun h => Bool.noConfusion (h9.symm.trans h)⟩⟩
    · cases ho
      simp only [Act.put, List.setIfInBounds_toArray, List.set_cons_zero, List.set_cons_succ] at hK
      have h9 := not_yet hsh (k := 9) hLi (by decide) (by kernel_rfl) rfl
      have hw := hW.1 h9
      subst hw
      clear hsh hd
      clear hW
      go_simp
      all_goals (try go_wp2_with (first | (go_at_call 56; first | ((with_reducible refine (column_s hx h _).mono ?_); rintro e w' ⟨rfl, hw⟩; rw [hw]; clear hw) | ((with_reducible refine (column_s hy h _).mono ?_); rintro e w' ⟨rfl, hw⟩; rw [hw]; clear hw))))
      all_goals first | with_reducible exact hK.out _ _ ⟨val_upd (VAL := (fun j v => match j with | 0 => v = .pointer (some ⟨w.heap.size, 0, none⟩) | 1 => v = .float .f64 x | 2 => v = .float .f64 d | 3 => v = .int .i64 (coK x d) | 4 => v = .pointer (some ⟨w.heap.size, 1, none⟩) | 5 => v = .float .f64 y | 6 => v = .float .f64 d | 7 => v = .int .i64 (coK y d) | 8 => v = .agg #[.int .i64 (coK x d), .int .i64 (coK y d)] | 9 => True | _ => True)) hV rfl, ⟨fun _ => rfl, fun h => Bool.noConfusion (h9.symm.trans h)⟩⟩ | exact hK.out _ _ ⟨val_upd (VAL := (fun j v => match j with | 0 => v = .pointer (some ⟨w.heap.size, 0, none⟩) | 1 => v = .float .f64 x | 2 => v = .float .f64 d | 3 => v = .int .i64 (coK x d) | 4 => v = .pointer (some ⟨w.heap.size, 1, none⟩) | 5 => v = .float .f64 y | 6 => v = .float .f64 d | 7 => v = .int .i64 (coK y d) | 8 => v = .agg #[.int .i64 (coK x d), .int .i64 (coK y d)] | 9 => True | _ => True)) hV rfl, ⟨fun _ => rfl, fun h => Bool.noConfusion (h9.symm.trans h)⟩⟩
    · cases ho
      have e4 : s 4 = _ := hV 4 (by decide) (hd 4 (by kernel_rfl))
      simp only [e4] at hK ⊢
      simp only [Act.put, List.setIfInBounds_toArray, List.set_cons_zero, List.set_cons_succ] at hK
      have h9 := not_yet hsh (k := 9) hLi (by decide) (by kernel_rfl) rfl
      have hw := hW.1 h9
      subst hw
      clear hsh hd
      clear hW
      go_simp
      all_goals (try go_wp2_with (first | (go_at_call 56; first | ((with_reducible refine (column_s hx h _).mono ?_); rintro e w' ⟨rfl, hw⟩; rw [hw]; clear hw) | ((with_reducible refine (column_s hy h _).mono ?_); rintro e w' ⟨rfl, hw⟩; rw [hw]; clear hw))))
      all_goals first | with_reducible exact hK.out _ _ ⟨val_upd (VAL := (fun j v => match j with | 0 => v = .pointer (some ⟨w.heap.size, 0, none⟩) | 1 => v = .float .f64 x | 2 => v = .float .f64 d | 3 => v = .int .i64 (coK x d) | 4 => v = .pointer (some ⟨w.heap.size, 1, none⟩) | 5 => v = .float .f64 y | 6 => v = .float .f64 d | 7 => v = .int .i64 (coK y d) | 8 => v = .agg #[.int .i64 (coK x d), .int .i64 (coK y d)] | 9 => True | _ => True)) hV rfl, ⟨fun _ => rfl, fun h => Bool.noConfusion (h9.symm.trans h)⟩⟩ | exact hK.out _ _ ⟨val_upd (VAL := (fun j v => match j with | 0 => v = .pointer (some ⟨w.heap.size, 0, none⟩) | 1 => v = .float .f64 x | 2 => v = .float .f64 d | 3 => v = .int .i64 (coK x d) | 4 => v = .pointer (some ⟨w.heap.size, 1, none⟩) | 5 => v = .float .f64 y | 6 => v = .float .f64 d | 7 => v = .int .i64 (coK y d) | 8 => v = .agg #[.int .i64 (coK x d), .int .i64 (coK y d)] | 9 => True | _ => True)) hV rfl, ⟨fun _ => rfl, fun h => Bool.noConfusion (h9.symm.trans h)⟩⟩
    · cases ho
      simp only [Act.put, List.setIfInBounds_toArray, List.set_cons_zero, List.set_cons_succ] at hK
      have h9 := not_yet hsh (k := 9) hLi (by decide) (by kernel_rfl) rfl
      have hw := hW.1 h9
      subst hw
      clear hsh hd
      clear hW
      go_simp
      all_goals (try go_wp2_with (first | (go_at_call 56; first | ((with_reducible refine (column_s hx h _).mono ?_); rintro e w' ⟨rfl, hw⟩; rw [hw]; clear hw) | ((with_reducible refine (column_s hy h _).mono ?_); rintro e w' ⟨rfl, hw⟩; rw [hw]; clear hw))))
      all_goals first | with_reducible exact hK.out _ _ ⟨val_upd (VAL := (fun j v => match j with | 0 => v = .pointer (some ⟨w.heap.size, 0, none⟩) | 1 => v = .float .f64 x | 2 => v = .float .f64 d | 3 => v = .int .i64 (coK x d) | 4 => v = .pointer (some ⟨w.heap.size, 1, none⟩) | 5 => v = .float .f64 y | 6 => v = .float .f64 d | 7 => v = .int .i64 (coK y d) | 8 => v = .agg #[.int .i64 (coK x d), .int .i64 (coK y d)] | 9 => True | _ => True)) hV rfl, ⟨fun _ => rfl, fun h => Bool.noConfusion (h9.symm.trans h)⟩⟩ | exact hK.out _ _ ⟨val_upd (VAL := (fun j v => match j with | 0 => v = .pointer (some ⟨w.heap.size, 0, none⟩) | 1 => v = .float .f64 x | 2 => v = .float .f64 d | 3 => v = .int .i64 (coK x d) | 4 => v = .pointer (some ⟨w.heap.size, 1, none⟩) | 5 => v = .float .f64 y | 6 => v = .float .f64 d | 7 => v = .int .i64 (coK y d) | 8 => v = .agg #[.int .i64 (coK x d), .int .i64 (coK y d)] | 9 => True | _ => True)) hV rfl, ⟨fun _ => rfl, fun h => Bool.noConfusion (h9.symm.trans h)⟩⟩
    · cases ho
      have e5 : s 5 = _ := hV 5 (by decide) (hd 5 (by kernel_rfl))
      have e6 : s 6 = _ := hV 6 (by decide) (hd 6 (by kernel_rfl))
      simp only [e5, e6] at hK ⊢
      simp only [Act.put, List.setIfInBounds_toArray, List.set_cons_zero, List.set_cons_succ] at hK
      have h9 := not_yet hsh (k := 9) hLi (by decide) (by kernel_rfl) rfl
      have hw := hW.1 h9
      subst hw
      clear hsh hd
      clear hW
      go_simp
      all_goals (try go_wp2_with (first | (go_at_call 56; first | ((with_reducible refine (column_s hx h _).mono ?_); rintro e w' ⟨rfl, hw⟩; rw [hw]; clear hw) | ((with_reducible refine (column_s hy h _).mono ?_); rintro e w' ⟨rfl, hw⟩; rw [hw]; clear hw))))
      all_goals first | with_reducible exact hK.out _ _ ⟨val_upd (VAL := (fun j v => match j with | 0 => v = .pointer (some ⟨w.heap.size, 0, none⟩) | 1 => v = .float .f64 x | 2 => v = .float .f64 d | 3 => v = .int .i64 (coK x d) | 4 => v = .pointer (some ⟨w.heap.size, 1, none⟩) | 5 => v = .float .f64 y | 6 => v = .float .f64 d | 7 => v = .int .i64 (coK y d) | 8 => v = .agg #[.int .i64 (coK x d), .int .i64 (coK y d)] | 9 => True | _ => True)) hV rfl, ⟨fun _ => rfl, fun h => Bool.noConfusion (h9.symm.trans h)⟩⟩ | exact hK.out _ _ ⟨val_upd (VAL := (fun j v => match j with | 0 => v = .pointer (some ⟨w.heap.size, 0, none⟩) | 1 => v = .float .f64 x | 2 => v = .float .f64 d | 3 => v = .int .i64 (coK x d) | 4 => v = .pointer (some ⟨w.heap.size, 1, none⟩) | 5 => v = .float .f64 y | 6 => v = .float .f64 d | 7 => v = .int .i64 (coK y d) | 8 => v = .agg #[.int .i64 (coK x d), .int .i64 (coK y d)] | 9 => True | _ => True)) hV rfl, ⟨fun _ => rfl, fun h => Bool.noConfusion (h9.symm.trans h)⟩⟩
    · cases ho
      have e3 : s 3 = _ := hV 3 (by decide) (hd 3 (by kernel_rfl))
      have e7 : s 7 = _ := hV 7 (by decide) (hd 7 (by kernel_rfl))
      simp only [e3, e7] at hK ⊢
      simp only [Act.put, List.setIfInBounds_toArray, List.set_cons_zero, List.set_cons_succ] at hK
      have h9 := not_yet hsh (k := 9) hLi (by decide) (by kernel_rfl) rfl
      have hw := hW.1 h9
      subst hw
      clear hsh hd
      clear hW
      go_simp
      all_goals (try go_wp2_with (first | (go_at_call 56; first | ((with_reducible refine (column_s hx h _).mono ?_); rintro e w' ⟨rfl, hw⟩; rw [hw]; clear hw) | ((with_reducible refine (column_s hy h _).mono ?_); rintro e w' ⟨rfl, hw⟩; rw [hw]; clear hw))))
      all_goals first | with_reducible exact hK.out _ _ ⟨val_upd (VAL := (fun j v => match j with | 0 => v = .pointer (some ⟨w.heap.size, 0, none⟩) | 1 => v = .float .f64 x | 2 => v = .float .f64 d | 3 => v = .int .i64 (coK x d) | 4 => v = .pointer (some ⟨w.heap.size, 1, none⟩) | 5 => v = .float .f64 y | 6 => v = .float .f64 d | 7 => v = .int .i64 (coK y d) | 8 => v = .agg #[.int .i64 (coK x d), .int .i64 (coK y d)] | 9 => True | _ => True)) hV rfl, ⟨fun _ => rfl, fun h => Bool.noConfusion (h9.symm.trans h)⟩⟩ | exact hK.out _ _ ⟨val_upd (VAL := (fun j v => match j with | 0 => v = .pointer (some ⟨w.heap.size, 0, none⟩) | 1 => v = .float .f64 x | 2 => v = .float .f64 d | 3 => v = .int .i64 (coK x d) | 4 => v = .pointer (some ⟨w.heap.size, 1, none⟩) | 5 => v = .float .f64 y | 6 => v = .float .f64 d | 7 => v = .int .i64 (coK y d) | 8 => v = .agg #[.int .i64 (coK x d), .int .i64 (coK y d)] | 9 => True | _ => True)) hV rfl, ⟨fun _ => rfl, fun h => Bool.noConfusion (h9.symm.trans h)⟩⟩
    · cases ho
      have e8 : s 8 = _ := hV 8 (by decide) (hd 8 (by kernel_rfl))
      simp only [e8] at hK ⊢
      simp only [Act.put, List.setIfInBounds_toArray, List.set_cons_zero, List.set_cons_succ] at hK
      have hw := hW.1 hLi
      subst hw
      clear hsh hd hW
      go_simp
      refine hK.out undef _ ⟨val_upd (VAL := (fun j v => match j with | 0 => v = .pointer (some ⟨w.heap.size, 0, none⟩) | 1 => v = .float .f64 x | 2 => v = .float .f64 d | 3 => v = .int .i64 (coK x d) | 4 => v = .pointer (some ⟨w.heap.size, 1, none⟩) | 5 => v = .float .f64 y | 6 => v = .float .f64 d | 7 => v = .int .i64 (coK y d) | 8 => v = .agg #[.int .i64 (coK x d), .int .i64 (coK y d)] | 9 => True | _ => True)) hV trivial, fun h => (by simp [updL] at h), fun _ => ⟨?_, ?_, ?_⟩⟩
      · exact bl_drew (bl_alloc (bl_alloc (bl_refl w) _ _) _ _)
      · simp
      · simp
  case ht_wi =>
    intro s W hj
    obtain ⟨hV, hW⟩ := hj
    have e0 : s 0 = _ := hV 0 (by decide) rfl
    have e1 : s 1 = _ := hV 1 (by decide) rfl
    have e2 : s 2 = _ := hV 2 (by decide) rfl
    have e3 : s 3 = _ := hV 3 (by decide) rfl
    have e4 : s 4 = _ := hV 4 (by decide) rfl
    have e5 : s 5 = _ := hV 5 (by decide) rfl
    have e6 : s 6 = _ := hV 6 (by decide) rfl
    have e7 : s 7 = _ := hV 7 (by decide) rfl
    have e8 : s 8 = _ := hV 8 (by decide) rfl
    simp only [e0, e1, e2, e3, e4, e5, e6, e7, e8]
    clear hV e0 e1 e2 e3 e4 e5 e6 e7 e8
    have hW2 := hW.2
    obtain ⟨hb, c0, c1⟩ := hW2 rfl
    go_wp2
    refine bodyPost_ret (v := ceV (coK x d, coK y d)) (by simp [c0, c1, results, Try.results37, go_sem, ceV]) rfl ⟨rfl, hb⟩

end Go.Proofs.Ytekhnolpgoejdab
