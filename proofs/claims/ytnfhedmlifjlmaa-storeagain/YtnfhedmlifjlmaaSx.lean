/-
  What each function of package store answers, and what its memory holds afterwards: one contract a function; of the memory that was there only the store's own blocks have turned.
-/
import Derived.Test.YtnfhedmlifjlmaaChecked
import Derived.Test.YtnfhedmlifjlmaaSn
import Derived.Below
import Derived.BigQuiet
import Derived.OwnWalk
import Derived.Laws.AppendOwn
import Derived.Laws.AppendOwnNone
import Derived.WalkKit
import Derived.WalkLawsBesides
import Derived.WalkSpells
import Derived.ProofKit
import Derived.OpenShut
import Derived.Deep.RegionHeld3
import Derived.Deep.LoopGhost
import Derived.Laws.StructEq
import Derived.Lib.Builder
import Derived.Deep.DeepCutAuto
import Derived.Lib.SliceRun
import Derived.Laws.MakeOwn
namespace Go.Proofs.Ytnfhedmlifjlmaa
open Go.ChangeShapes Go.WideShapes Go.ChangeAt Go.RowKit Go.Lib
set_option linter.unusedVariables false
set_option linter.unusedSimpArgs false
set_option maxRecDepth 100000
set_option maxHeartbeats 4000000


/-- a clone that was made -/
def Cl9 (w W : World) (x : Value) (n : Nat) (R : List Value) : Prop := ∃ sa cp, x = .slice sa n cp ∧ Ro 1 W sa n cp R ∧ ∀ k ∈ ob sa, w.heap.size ≤ k
theorem Cl9.low {w W W' : World} {x : Value} {n : Nat} {R : List Value} (h : Cl9 w W x n R) (b : Below W.heap.size W W') : Cl9 w W' x n R := by
  obtain ⟨sa, cp, h1, h2, h3⟩ := h
  exact ⟨sa, cp, h1, h2.low b, h3⟩
theorem slots_I (m : Sm) (s : Ss) (w : World) (h : Sto w m s) (ho : Okk s) (n : Nat) (hn : s.U.length = n) (hn0 : 0 < n) : Calls Try.prog 14 #[.pointer (some ⟨m.p, 0, none⟩)] w fun e w' => ∃ su cu sl cl, e = .returned (.tuple #[.slice su n cu, .slice sl n cl]) ∧ Ro 1 w' su n cu (uRow s.U) ∧ (∀ k ∈ ob su, w.heap.size ≤ k) ∧ Ro 1 w' sl n cl (lRow s.L) ∧ (∀ k ∈ ob sl, w.heap.size ≤ k) ∧ Below w.heap.size w w' := by
  have HUn := hide hn
  have HLn : Hid (s.L.length = n) := ho.ll.trans hn
  have hn16 : n ≤ 16384 := by have := ho.um; have := ho.m2; omega
  obtain ⟨gu, hgu, _⟩ := h.ru.at (by omega)
  obtain ⟨gl, hgl, _⟩ := h.rl.at (by rw [HLn.out]; omega)
  have Hgu := hide hgu
  have Hgl := hide hgl
  have c0 := h.c0
  have hS := hide h
  obtain ⟨p, hp⟩ : ∃ p, m.p = p := ⟨_, rfl⟩
  have HPp := hide hp
  rw [hp] at c0 ⊢
  clear hp h hgu hgl hn ho
  go_enter Try.func14, Try.ntmps14
  go_upto_region 3 with (first | (go_at_call 20; (with_reducible refine (isNone_I _ _ c0).mono ?_); rintro e w1 ⟨rfl, hw1⟩; rw [hw1]; clear hw1))
  refine wp_region_inv 12 rfl (fun L s_ W => (∀ j, j < 12 → L j = true → (fun j v => match j with | 0 => v = .pointer (some ⟨p, 0, none⟩) | 1 => v = .pointer (some ⟨p, 0, none⟩) | 2 => v = .pointer (some ⟨p, 2, none⟩) | 3 => v = .slice (some ⟨gu, 0, none⟩) n m.cu | 4 => True | 5 => v = .pointer (some ⟨p, 0, none⟩) | 6 => v = .pointer (some ⟨p, 0, none⟩) | 7 => v = .pointer (some ⟨p, 3, none⟩) | 8 => v = .slice (some ⟨gl, 0, none⟩) n m.cl | 9 => True | 10 => True | 11 => True | _ => True) j (s_ j)) ∧ (Sto W m s ∧ Below w.heap.size w W ∧ (L 4 = true → Cl9 w W (s_ 4) n (uRow s.U)) ∧ (L 9 = true → Cl9 w W (s_ 9) n (lRow s.L)) ∧ (L 10 = true → s_ 10 = s_ 4) ∧ (L 11 = true → s_ 11 = s_ 9))) ?A_w3 (by kernel_rfl) (by kernel_rfl) ?hA_w3 ?h0_w3 ?hq_w3 ?hJ_w3 ?ht_w3
  case hA_w3 =>
    intro s_
    simp only [putL, dstO, Act.put, List.getElem?_toArray, List.getElem?_cons_zero, List.getElem?_cons_succ, Option.bind_some, List.setIfInBounds_toArray, List.set_cons_zero, List.set_cons_succ, if_true]
    all_goals exact rfl
  case h0_w3 => exact ⟨fun j _ h => (by cases h), ⟨hS.out.bel (bl_drew (bl_refl _)), (bl_drew (bl_refl _)).1, (fun h => by cases h), (fun h => by cases h), (fun h => by cases h), (fun h => by cases h)⟩⟩
  case hJ_w3 =>
    intro L L' s_ W h hj
    refine ⟨fun j hj2 hl => hj.1 j hj2 ((h j hj2).trans hl), ?_⟩
    have hj2 := hj.2
    rw [h 4 (by decide), h 9 (by decide), h 10 (by decide), h 11 (by decide)] at hj2
    exact hj2
  case hq_w3 =>
    intro i o hi ho L s_ W hLi hd hsh hj K hK
    obtain ⟨hV, hW⟩ := hj
    rcases (show i = 0 ∨ i = 1 ∨ i = 2 ∨ i = 3 ∨ i = 4 ∨ i = 5 ∨ i = 6 ∨ i = 7 ∨ i = 8 ∨ i = 9 ∨ i = 10 ∨ i = 11 by omega) with rfl | rfl | rfl | rfl | rfl | rfl | rfl | rfl | rfl | rfl | rfl | rfl
    · cases ho
      simp only [Act.put, List.setIfInBounds_toArray, List.set_cons_zero, List.set_cons_succ] at hK
      go_simp
      all_goals first | with_reducible exact hK.out _ _ ⟨val_upd (VAL := (fun j v => match j with | 0 => v = .pointer (some ⟨p, 0, none⟩) | 1 => v = .pointer (some ⟨p, 0, none⟩) | 2 => v = .pointer (some ⟨p, 2, none⟩) | 3 => v = .slice (some ⟨gu, 0, none⟩) n m.cu | 4 => True | 5 => v = .pointer (some ⟨p, 0, none⟩) | 6 => v = .pointer (some ⟨p, 0, none⟩) | 7 => v = .pointer (some ⟨p, 3, none⟩) | 8 => v = .slice (some ⟨gl, 0, none⟩) n m.cl | 9 => True | 10 => True | 11 => True | _ => True)) hV rfl, hW⟩ | exact hK.out _ _ ⟨val_upd (VAL := (fun j v => match j with | 0 => v = .pointer (some ⟨p, 0, none⟩) | 1 => v = .pointer (some ⟨p, 0, none⟩) | 2 => v = .pointer (some ⟨p, 2, none⟩) | 3 => v = .slice (some ⟨gu, 0, none⟩) n m.cu | 4 => True | 5 => v = .pointer (some ⟨p, 0, none⟩) | 6 => v = .pointer (some ⟨p, 0, none⟩) | 7 => v = .pointer (some ⟨p, 3, none⟩) | 8 => v = .slice (some ⟨gl, 0, none⟩) n m.cl | 9 => True | 10 => True | 11 => True | _ => True)) hV rfl, hW⟩
    · cases ho
      have e0 : s_ 0 = _ := hV 0 (by decide) (hd 0 (by kernel_rfl))
      simp only [e0] at hK ⊢
      simp only [Act.put, List.setIfInBounds_toArray, List.set_cons_zero, List.set_cons_succ] at hK
      go_simp
      all_goals first | with_reducible exact hK.out _ _ ⟨val_upd (VAL := (fun j v => match j with | 0 => v = .pointer (some ⟨p, 0, none⟩) | 1 => v = .pointer (some ⟨p, 0, none⟩) | 2 => v = .pointer (some ⟨p, 2, none⟩) | 3 => v = .slice (some ⟨gu, 0, none⟩) n m.cu | 4 => True | 5 => v = .pointer (some ⟨p, 0, none⟩) | 6 => v = .pointer (some ⟨p, 0, none⟩) | 7 => v = .pointer (some ⟨p, 3, none⟩) | 8 => v = .slice (some ⟨gl, 0, none⟩) n m.cl | 9 => True | 10 => True | 11 => True | _ => True)) hV rfl, hW⟩ | exact hK.out _ _ ⟨val_upd (VAL := (fun j v => match j with | 0 => v = .pointer (some ⟨p, 0, none⟩) | 1 => v = .pointer (some ⟨p, 0, none⟩) | 2 => v = .pointer (some ⟨p, 2, none⟩) | 3 => v = .slice (some ⟨gu, 0, none⟩) n m.cu | 4 => True | 5 => v = .pointer (some ⟨p, 0, none⟩) | 6 => v = .pointer (some ⟨p, 0, none⟩) | 7 => v = .pointer (some ⟨p, 3, none⟩) | 8 => v = .slice (some ⟨gl, 0, none⟩) n m.cl | 9 => True | 10 => True | 11 => True | _ => True)) hV rfl, hW⟩
    · cases ho
      have e1 : s_ 1 = _ := hV 1 (by decide) (hd 1 (by kernel_rfl))
      simp only [e1] at hK ⊢
      simp only [Act.put, List.setIfInBounds_toArray, List.set_cons_zero, List.set_cons_succ] at hK
      go_simp
      all_goals first | with_reducible exact hK.out _ _ ⟨val_upd (VAL := (fun j v => match j with | 0 => v = .pointer (some ⟨p, 0, none⟩) | 1 => v = .pointer (some ⟨p, 0, none⟩) | 2 => v = .pointer (some ⟨p, 2, none⟩) | 3 => v = .slice (some ⟨gu, 0, none⟩) n m.cu | 4 => True | 5 => v = .pointer (some ⟨p, 0, none⟩) | 6 => v = .pointer (some ⟨p, 0, none⟩) | 7 => v = .pointer (some ⟨p, 3, none⟩) | 8 => v = .slice (some ⟨gl, 0, none⟩) n m.cl | 9 => True | 10 => True | 11 => True | _ => True)) hV rfl, hW⟩ | exact hK.out _ _ ⟨val_upd (VAL := (fun j v => match j with | 0 => v = .pointer (some ⟨p, 0, none⟩) | 1 => v = .pointer (some ⟨p, 0, none⟩) | 2 => v = .pointer (some ⟨p, 2, none⟩) | 3 => v = .slice (some ⟨gu, 0, none⟩) n m.cu | 4 => True | 5 => v = .pointer (some ⟨p, 0, none⟩) | 6 => v = .pointer (some ⟨p, 0, none⟩) | 7 => v = .pointer (some ⟨p, 3, none⟩) | 8 => v = .slice (some ⟨gl, 0, none⟩) n m.cl | 9 => True | 10 => True | 11 => True | _ => True)) hV rfl, hW⟩
    · cases ho
      simp only [Act.put, List.setIfInBounds_toArray, List.set_cons_zero, List.set_cons_succ] at hK
      have e2 : s_ 2 = _ := hV 2 (by decide) (hd 2 (by kernel_rfl))
      simp only [e2] at hK ⊢
      have t0 := hW.1.c2
      rw [Hgu.out, HUn.out, HPp.out] at t0
      go_simp
      all_goals first | with_reducible exact hK.out _ _ ⟨val_upd (VAL := (fun j v => match j with | 0 => v = .pointer (some ⟨p, 0, none⟩) | 1 => v = .pointer (some ⟨p, 0, none⟩) | 2 => v = .pointer (some ⟨p, 2, none⟩) | 3 => v = .slice (some ⟨gu, 0, none⟩) n m.cu | 4 => True | 5 => v = .pointer (some ⟨p, 0, none⟩) | 6 => v = .pointer (some ⟨p, 0, none⟩) | 7 => v = .pointer (some ⟨p, 3, none⟩) | 8 => v = .slice (some ⟨gl, 0, none⟩) n m.cl | 9 => True | 10 => True | 11 => True | _ => True)) hV rfl, hW⟩ | exact hK.out _ _ ⟨val_upd (VAL := (fun j v => match j with | 0 => v = .pointer (some ⟨p, 0, none⟩) | 1 => v = .pointer (some ⟨p, 0, none⟩) | 2 => v = .pointer (some ⟨p, 2, none⟩) | 3 => v = .slice (some ⟨gu, 0, none⟩) n m.cu | 4 => True | 5 => v = .pointer (some ⟨p, 0, none⟩) | 6 => v = .pointer (some ⟨p, 0, none⟩) | 7 => v = .pointer (some ⟨p, 3, none⟩) | 8 => v = .slice (some ⟨gl, 0, none⟩) n m.cl | 9 => True | 10 => True | 11 => True | _ => True)) hV rfl, hW⟩
    · cases ho
      simp only [Act.put, List.setIfInBounds_toArray, List.set_cons_zero, List.set_cons_succ] at hK
      have h10 : L 10 = false := not_yet hsh hLi (by decide) (by kernel_rfl) rfl
      have e3 : s_ 3 = _ := hV 3 (by decide) (hd 3 (by kernel_rfl))
      simp only [e3] at hK ⊢
      have hR : Rw W gu 0 (uRow s.U) := by
        have r := hW.1.ru
        rw [Hgu.out] at r
        exact (own_parts r.own).2.2.2.1
      have hcc := cloned_uI gu 0 n m.cu (uRow s.U) W hR (by rw [uRow_len]; exact HUn.out) (by intro v hv; obtain ⟨i, _, rfl⟩ := List.mem_map.1 hv; rfl) hn0 (by omega)
      have hW1 := hW
      clear hW hR
      go_simp
      all_goals (try go_wp2_with (first | (go_at_call 25; (with_reducible refine hcc.mono ?_); rintro e w' ⟨sa, cp, rfl, hRo, hob, hbl⟩)))
      exact hK.out _ _ ⟨val_upd (VAL := (fun j v => match j with | 0 => v = .pointer (some ⟨p, 0, none⟩) | 1 => v = .pointer (some ⟨p, 0, none⟩) | 2 => v = .pointer (some ⟨p, 2, none⟩) | 3 => v = .slice (some ⟨gu, 0, none⟩) n m.cu | 4 => True | 5 => v = .pointer (some ⟨p, 0, none⟩) | 6 => v = .pointer (some ⟨p, 0, none⟩) | 7 => v = .pointer (some ⟨p, 3, none⟩) | 8 => v = .slice (some ⟨gl, 0, none⟩) n m.cl | 9 => True | 10 => True | 11 => True | _ => True)) hV trivial, hW1.1.low hbl, hW1.2.1.trans (hbl.mono hW1.2.1.size), fun _ => ⟨sa, cp, rfl, hRo, fun k hk => Nat.le_trans hW1.2.1.size (hob k hk)⟩, fun h => (hW1.2.2.2.1 h).low hbl, (fun h => Bool.noConfusion (h.symm.trans h10)), hW1.2.2.2.2.2⟩
    · cases ho
      simp only [Act.put, List.setIfInBounds_toArray, List.set_cons_zero, List.set_cons_succ] at hK
      go_simp
      all_goals first | with_reducible exact hK.out _ _ ⟨val_upd (VAL := (fun j v => match j with | 0 => v = .pointer (some ⟨p, 0, none⟩) | 1 => v = .pointer (some ⟨p, 0, none⟩) | 2 => v = .pointer (some ⟨p, 2, none⟩) | 3 => v = .slice (some ⟨gu, 0, none⟩) n m.cu | 4 => True | 5 => v = .pointer (some ⟨p, 0, none⟩) | 6 => v = .pointer (some ⟨p, 0, none⟩) | 7 => v = .pointer (some ⟨p, 3, none⟩) | 8 => v = .slice (some ⟨gl, 0, none⟩) n m.cl | 9 => True | 10 => True | 11 => True | _ => True)) hV rfl, hW⟩ | exact hK.out _ _ ⟨val_upd (VAL := (fun j v => match j with | 0 => v = .pointer (some ⟨p, 0, none⟩) | 1 => v = .pointer (some ⟨p, 0, none⟩) | 2 => v = .pointer (some ⟨p, 2, none⟩) | 3 => v = .slice (some ⟨gu, 0, none⟩) n m.cu | 4 => True | 5 => v = .pointer (some ⟨p, 0, none⟩) | 6 => v = .pointer (some ⟨p, 0, none⟩) | 7 => v = .pointer (some ⟨p, 3, none⟩) | 8 => v = .slice (some ⟨gl, 0, none⟩) n m.cl | 9 => True | 10 => True | 11 => True | _ => True)) hV rfl, hW⟩
    · cases ho
      have e5 : s_ 5 = _ := hV 5 (by decide) (hd 5 (by kernel_rfl))
      simp only [e5] at hK ⊢
      simp only [Act.put, List.setIfInBounds_toArray, List.set_cons_zero, List.set_cons_succ] at hK
      go_simp
      all_goals first | with_reducible exact hK.out _ _ ⟨val_upd (VAL := (fun j v => match j with | 0 => v = .pointer (some ⟨p, 0, none⟩) | 1 => v = .pointer (some ⟨p, 0, none⟩) | 2 => v = .pointer (some ⟨p, 2, none⟩) | 3 => v = .slice (some ⟨gu, 0, none⟩) n m.cu | 4 => True | 5 => v = .pointer (some ⟨p, 0, none⟩) | 6 => v = .pointer (some ⟨p, 0, none⟩) | 7 => v = .pointer (some ⟨p, 3, none⟩) | 8 => v = .slice (some ⟨gl, 0, none⟩) n m.cl | 9 => True | 10 => True | 11 => True | _ => True)) hV rfl, hW⟩ | exact hK.out _ _ ⟨val_upd (VAL := (fun j v => match j with | 0 => v = .pointer (some ⟨p, 0, none⟩) | 1 => v = .pointer (some ⟨p, 0, none⟩) | 2 => v = .pointer (some ⟨p, 2, none⟩) | 3 => v = .slice (some ⟨gu, 0, none⟩) n m.cu | 4 => True | 5 => v = .pointer (some ⟨p, 0, none⟩) | 6 => v = .pointer (some ⟨p, 0, none⟩) | 7 => v = .pointer (some ⟨p, 3, none⟩) | 8 => v = .slice (some ⟨gl, 0, none⟩) n m.cl | 9 => True | 10 => True | 11 => True | _ => True)) hV rfl, hW⟩
    · cases ho
      have e6 : s_ 6 = _ := hV 6 (by decide) (hd 6 (by kernel_rfl))
      simp only [e6] at hK ⊢
      simp only [Act.put, List.setIfInBounds_toArray, List.set_cons_zero, List.set_cons_succ] at hK
      go_simp
      all_goals first | with_reducible exact hK.out _ _ ⟨val_upd (VAL := (fun j v => match j with | 0 => v = .pointer (some ⟨p, 0, none⟩) | 1 => v = .pointer (some ⟨p, 0, none⟩) | 2 => v = .pointer (some ⟨p, 2, none⟩) | 3 => v = .slice (some ⟨gu, 0, none⟩) n m.cu | 4 => True | 5 => v = .pointer (some ⟨p, 0, none⟩) | 6 => v = .pointer (some ⟨p, 0, none⟩) | 7 => v = .pointer (some ⟨p, 3, none⟩) | 8 => v = .slice (some ⟨gl, 0, none⟩) n m.cl | 9 => True | 10 => True | 11 => True | _ => True)) hV rfl, hW⟩ | exact hK.out _ _ ⟨val_upd (VAL := (fun j v => match j with | 0 => v = .pointer (some ⟨p, 0, none⟩) | 1 => v = .pointer (some ⟨p, 0, none⟩) | 2 => v = .pointer (some ⟨p, 2, none⟩) | 3 => v = .slice (some ⟨gu, 0, none⟩) n m.cu | 4 => True | 5 => v = .pointer (some ⟨p, 0, none⟩) | 6 => v = .pointer (some ⟨p, 0, none⟩) | 7 => v = .pointer (some ⟨p, 3, none⟩) | 8 => v = .slice (some ⟨gl, 0, none⟩) n m.cl | 9 => True | 10 => True | 11 => True | _ => True)) hV rfl, hW⟩
    · cases ho
      simp only [Act.put, List.setIfInBounds_toArray, List.set_cons_zero, List.set_cons_succ] at hK
      have e7 : s_ 7 = _ := hV 7 (by decide) (hd 7 (by kernel_rfl))
      simp only [e7] at hK ⊢
      have t0 := hW.1.c3
      rw [Hgl.out, HLn.out, HPp.out] at t0
      go_simp
      all_goals first | with_reducible exact hK.out _ _ ⟨val_upd (VAL := (fun j v => match j with | 0 => v = .pointer (some ⟨p, 0, none⟩) | 1 => v = .pointer (some ⟨p, 0, none⟩) | 2 => v = .pointer (some ⟨p, 2, none⟩) | 3 => v = .slice (some ⟨gu, 0, none⟩) n m.cu | 4 => True | 5 => v = .pointer (some ⟨p, 0, none⟩) | 6 => v = .pointer (some ⟨p, 0, none⟩) | 7 => v = .pointer (some ⟨p, 3, none⟩) | 8 => v = .slice (some ⟨gl, 0, none⟩) n m.cl | 9 => True | 10 => True | 11 => True | _ => True)) hV rfl, hW⟩ | exact hK.out _ _ ⟨val_upd (VAL := (fun j v => match j with | 0 => v = .pointer (some ⟨p, 0, none⟩) | 1 => v = .pointer (some ⟨p, 0, none⟩) | 2 => v = .pointer (some ⟨p, 2, none⟩) | 3 => v = .slice (some ⟨gu, 0, none⟩) n m.cu | 4 => True | 5 => v = .pointer (some ⟨p, 0, none⟩) | 6 => v = .pointer (some ⟨p, 0, none⟩) | 7 => v = .pointer (some ⟨p, 3, none⟩) | 8 => v = .slice (some ⟨gl, 0, none⟩) n m.cl | 9 => True | 10 => True | 11 => True | _ => True)) hV rfl, hW⟩
    · cases ho
      simp only [Act.put, List.setIfInBounds_toArray, List.set_cons_zero, List.set_cons_succ] at hK
      have h11 : L 11 = false := not_yet hsh hLi (by decide) (by kernel_rfl) rfl
      have e8 : s_ 8 = _ := hV 8 (by decide) (hd 8 (by kernel_rfl))
      simp only [e8] at hK ⊢
      have hR : Rw W gl 0 (lRow s.L) := by
        have r := hW.1.rl
        rw [Hgl.out] at r
        exact (own_parts r.own).2.2.2.1
      have hcc := cloned_bI gl 0 n m.cl (lRow s.L) W hR (by rw [lRow_len]; exact HLn.out) (by intro v hv; obtain ⟨i, _, rfl⟩ := List.mem_map.1 hv; rfl) hn0 (by omega)
      have hW1 := hW
      clear hW hR
      go_simp
      all_goals (try go_wp2_with (first | (go_at_call 26; (with_reducible refine hcc.mono ?_); rintro e w' ⟨sa, cp, rfl, hRo, hob, hbl⟩)))
      exact hK.out _ _ ⟨val_upd (VAL := (fun j v => match j with | 0 => v = .pointer (some ⟨p, 0, none⟩) | 1 => v = .pointer (some ⟨p, 0, none⟩) | 2 => v = .pointer (some ⟨p, 2, none⟩) | 3 => v = .slice (some ⟨gu, 0, none⟩) n m.cu | 4 => True | 5 => v = .pointer (some ⟨p, 0, none⟩) | 6 => v = .pointer (some ⟨p, 0, none⟩) | 7 => v = .pointer (some ⟨p, 3, none⟩) | 8 => v = .slice (some ⟨gl, 0, none⟩) n m.cl | 9 => True | 10 => True | 11 => True | _ => True)) hV trivial, hW1.1.low hbl, hW1.2.1.trans (hbl.mono hW1.2.1.size), fun h => (hW1.2.2.1 h).low hbl, fun _ => ⟨sa, cp, rfl, hRo, fun k hk => Nat.le_trans hW1.2.1.size (hob k hk)⟩, hW1.2.2.2.2.1, (fun h => Bool.noConfusion (h.symm.trans h11))⟩
    · cases ho
      simp only [Act.put, List.setIfInBounds_toArray, List.set_cons_zero, List.set_cons_succ] at hK
      have hW1 := hW
      clear hW
      go_simp
      exact hK.out _ _ ⟨val_upd (VAL := (fun j v => match j with | 0 => v = .pointer (some ⟨p, 0, none⟩) | 1 => v = .pointer (some ⟨p, 0, none⟩) | 2 => v = .pointer (some ⟨p, 2, none⟩) | 3 => v = .slice (some ⟨gu, 0, none⟩) n m.cu | 4 => True | 5 => v = .pointer (some ⟨p, 0, none⟩) | 6 => v = .pointer (some ⟨p, 0, none⟩) | 7 => v = .pointer (some ⟨p, 3, none⟩) | 8 => v = .slice (some ⟨gl, 0, none⟩) n m.cl | 9 => True | 10 => True | 11 => True | _ => True)) hV trivial, hW1.1, hW1.2.1, hW1.2.2.1, hW1.2.2.2.1, fun _ => rfl, hW1.2.2.2.2.2⟩
    · cases ho
      simp only [Act.put, List.setIfInBounds_toArray, List.set_cons_zero, List.set_cons_succ] at hK
      have hW1 := hW
      clear hW
      go_simp
      exact hK.out _ _ ⟨val_upd (VAL := (fun j v => match j with | 0 => v = .pointer (some ⟨p, 0, none⟩) | 1 => v = .pointer (some ⟨p, 0, none⟩) | 2 => v = .pointer (some ⟨p, 2, none⟩) | 3 => v = .slice (some ⟨gu, 0, none⟩) n m.cu | 4 => True | 5 => v = .pointer (some ⟨p, 0, none⟩) | 6 => v = .pointer (some ⟨p, 0, none⟩) | 7 => v = .pointer (some ⟨p, 3, none⟩) | 8 => v = .slice (some ⟨gl, 0, none⟩) n m.cl | 9 => True | 10 => True | 11 => True | _ => True)) hV trivial, hW1.1, hW1.2.1, hW1.2.2.1, hW1.2.2.2.1, hW1.2.2.2.2.1, fun _ => rfl⟩
  case ht_w3 =>
    intro s_ W hj
    obtain ⟨hV, hW⟩ := hj
    have e0 : s_ 0 = _ := hV 0 (by decide) rfl
    have e1 : s_ 1 = _ := hV 1 (by decide) rfl
    have e2 : s_ 2 = _ := hV 2 (by decide) rfl
    have e3 : s_ 3 = _ := hV 3 (by decide) rfl
    have e5 : s_ 5 = _ := hV 5 (by decide) rfl
    have e6 : s_ 6 = _ := hV 6 (by decide) rfl
    have e7 : s_ 7 = _ := hV 7 (by decide) rfl
    have e8 : s_ 8 = _ := hV 8 (by decide) rfl
    simp only [e0, e1, e2, e3, e5, e6, e7, e8]
    clear hV e0 e1 e2 e3 e5 e6 e7 e8
    obtain ⟨_, hB, h4, h9, h10, h11⟩ := hW
    obtain ⟨su, cu, e4, hRu, hou⟩ := h4 rfl
    obtain ⟨sl, cl, e9, hRl, hol⟩ := h9 rfl
    have e10 := (h10 rfl).trans e4
    have e11 := (h11 rfl).trans e9
    simp only [e4, e9, e10, e11]
    clear h4 h9 h10 h11 e4 e9 e10 e11
    have HRES := hide (And.intro hB (And.intro hRu (And.intro hou (And.intro hRl hol))))
    clear hB hRu hou hRl hol
    go_wp2
    refine bodyPost_ret (v := .tuple #[.slice su n cu, .slice sl n cl]) (by simp [results, Try.results14, go_sem]) rfl ?_
    obtain ⟨hB, hRu, hou, hRl, hol⟩ := HRES.out
    exact ⟨su, cu, sl, cl, rfl, hRu, hou, hRl, hol, hB⟩

end Go.Proofs.Ytnfhedmlifjlmaa
