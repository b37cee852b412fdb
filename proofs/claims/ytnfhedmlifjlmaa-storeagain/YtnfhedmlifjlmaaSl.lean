/-
  What each function of package store answers, and what its memory holds afterwards: one contract a function; of the memory that was there only the store's own blocks have turned.
-/
import Derived.Test.YtnfhedmlifjlmaaChecked
import Derived.Test.YtnfhedmlifjlmaaSa
import Derived.Test.YtnfhedmlifjlmaaSo
import Derived.Test.YtnfhedmlifjlmaaStg
import Derived.Below
import Derived.BigQuiet
import Derived.OwnWalk
import Derived.Laws.AppendOwn
import Derived.Laws.AppendOwnNone
import Derived.WalkKit
import Derived.WalkLawsBesides
import Derived.WalkSpells
import Derived.ProofKit
import Derived.OpenShut
import Derived.Deep.RegionHeld3
import Derived.Deep.LoopGhost
import Derived.Laws.StructEq
import Derived.Lib.Builder
import Derived.Deep.DeepCutAuto
import Derived.Lib.SliceRun
import Derived.Laws.MakeOwn
namespace Go.Proofs.Ytnfhedmlifjlmaa
open Go.ChangeShapes Go.WideShapes Go.ChangeAt Go.RowKit Go.Lib
set_option linter.unusedVariables false
set_option linter.unusedSimpArgs false
set_option maxRecDepth 100000
set_option maxHeartbeats 4000000


theorem there_I (m : Sm) (s : Ss) (w : World) (h : Sto w m s) (ho : Okk s) (hT1 : ∀ v ∈ s.T, ∃ x : Int, v = .int .i64 x) : Calls Try.prog 32 #[.pointer (some ⟨m.p, 0, none⟩)] w fun e w' => ∃ sh ch sx cx, e = .returned (.tuple #[.slice sh (heH s s.U.length).length ch, .slice sx (heH s s.U.length).length cx]) ∧ Pt2 w w' m s sh ch sx cx (heH s s.U.length) (heT s s.U.length) := by
  obtain ⟨N, hN⟩ : ∃ N, s.U.length = N := ⟨_, rfl⟩
  have HLn : Hid (s.L.length = N) := ho.ll.trans hN
  have HTn : Hid (s.T.length = N) := ho.tl.trans hN
  have HUn : Hid (s.U.length = N) := hN
  have hN16 : N ≤ 16384 := by have := ho.um; have := ho.m2; omega
  obtain ⟨p, hp⟩ : ∃ p, m.p = p := ⟨_, rfl⟩
  have HPp := hide hp
  have c0 := h.c0
  have c3 := h.c3
  rw [HLn.out] at c3
  rw [hp] at c0 c3
  have hP0 := hide (Pt2.start (w := w) h)
  rw [hN, hp]
  clear hN hp h
  rcases Nat.eq_zero_or_pos N with hN0 | hN0
  · go_enter Try.func32, Try.ntmps32
    go_upto_region 6 with (first | (go_at_call 20; (with_reducible refine (isNone_I _ _ c0).mono ?_); rintro e w1 ⟨rfl, hw1⟩; rw [hw1]; clear hw1))
    clear c0 c3
    go_loopg [4, 5, 17] 0 (fun kx s4 s5 s17 wr => s4 = .slice none 0 0 ∧ s5 = .slice none 0 0 ∧ s17 = .int .i64 0 ∧ wr = w)
    case atStart => exact ⟨rfl, rfl, rfl, rfl⟩
    case round =>
      obtain ⟨rfl, rfl, rfl, hwr⟩ := hrel
      rw [hwr]
      clear hwr
      have hz : ¬ (0 : Int) < (N : Int) := by omega
      go_wp2
      refine bodyPost_ret (v := .tuple #[.slice none 0 0, .slice none 0 0]) (by simp [results, Try.results32, go_sem]) rfl ?_
      refine ⟨none, 0, none, 0, ?_, ?_⟩
      · rfl
      · exact hP0.out
  obtain ⟨gl, hgl, _⟩ := hP0.out.st.rl.at (by rw [HLn.out]; omega)
  have Hgl := hide hgl
  rw [hgl] at c3
  clear hgl
  go_enter Try.func32, Try.ntmps32
  go_upto_region 6 with (first | (go_at_call 20; (with_reducible refine (isNone_I _ _ c0).mono ?_); rintro e w1 ⟨rfl, hw1⟩; rw [hw1]; clear hw1))
  clear c0 c3
  go_loopg [4, 5, 17] N (fun kx s4 s5 s17 wr => ∃ (k hl : Nat) (sh : Option Addr) (ch : Nat) (sx : Option Addr) (cx : Nat), s4 = .slice sh hl ch ∧ s5 = .slice sx hl cx ∧ s17 = .int .i64 (k : Int) ∧ k ≤ N ∧ N - k ≤ kx ∧ hl ≤ k ∧ Hid ((heH s k).length = hl) ∧ Hid (Pt2 w wr m s sh ch sx cx (heH s k) (heT s k)))
  case atStart => exact ⟨0, 0, none, 0, none, 0, rfl, rfl, rfl, Nat.zero_le _, Nat.le_refl _, Nat.le_refl _, rfl, hP0⟩
  case round =>
    clear hP0
    obtain ⟨k, hl, sh, ch, sx, cx, rfl, rfl, rfl, hk, hkx, hhl, HH, hPt⟩ := hrel
    by_cases hlt : k < N
    · have hz : (k : Int) < (N : Int) := by omega
      have ewk : IntKind.wrap .i64 ((k : Int) + 1) = (k : Int) + 1 := by rw [IntKind.wrap_i64]; omega
      obtain ⟨gt, hgt, _⟩ := hPt.out.st.rt.at (by rw [HTn.out]; omega)
      obtain ⟨b, hb⟩ := get_of_lt (l := s.L) (i := k) (by rw [HLn.out]; exact hlt)
      obtain ⟨u, hu⟩ := get_of_lt (l := s.U) (i := k) (by rw [HUn.out]; exact hlt)
      obtain ⟨tv, htv⟩ := get_of_lt (l := s.T) (i := k) (by rw [HTn.out]; exact hlt)
      have yl : wr.cell? ⟨gl, k, none⟩ = some (.bool b) := by
        have rl := hPt.out.st.rl
        rw [Hgl.out] at rl
        exact rl.cell (by rw [lRow_get, hb]; rfl)
      have Hgt := hide hgt
      clear hgt
      have HU := hide hu
      obtain ⟨x, hx⟩ := hT1 tv (List.mem_of_getElem? htv)
      subst hx
      have HT1 : Hid ((.int .i64 x : Value).oneCell' = true) := rfl
      have HTV := hide htv
      have HX : Hid ((heT s k).length = hl) := (heT_len s k).trans HH.out
      cases b with
      | true =>
        have HEH : Hid (heH s k ++ [(k, u)] = heH s (k + 1)) := (by show _ = heH s k ++ _; rw [if_pos hb, List.getD_eq_getElem?_getD, hu]; rfl)
        have HET : Hid (heT s k ++ [.int .i64 x] = heT s (k + 1)) := (by show _ = heT s k ++ _; rw [if_pos hb, List.getD_eq_getElem?_getD, htv]; rfl)
        clear hb hu htv
        obtain ⟨H, hH⟩ : ∃ H, H = heH s k := ⟨_, rfl⟩
        obtain ⟨X, hX⟩ : ∃ X, X = heT s k := ⟨_, rfl⟩
        rw [← hH] at HH HEH hPt
        rw [← hX] at HX HET hPt
        clear hH hX
        go_upto_region 9 with (fail)
        refine wp_region_inv1 18 rfl (fun L s_ W => (∀ j, j < 18 → L j = true → (fun j v => match j with | 0 => v = .slice sh hl ch | 1 => v = .pointer (some ⟨p, 0, none⟩) | 2 => v = .int .i64 (k : Int) | 3 => v = .agg #[.int .u32 (k : Int), .int .u32 (u : Int)] | 4 => True | 5 => True | 6 => v = .slice sx hl cx | 7 => v = .pointer (some ⟨p, 0, none⟩) | 8 => v = .pointer (some ⟨p, 0, none⟩) | 9 => v = .pointer (some ⟨p, 4, none⟩) | 10 => v = .slice (some ⟨gt, 0, none⟩) N m.ct | 11 => v = .int .i64 (k : Int) | 12 => v = .pointer (some ⟨gt, k, none⟩) | 13 => v = .int .i64 x | 14 => True | 15 => True | 16 => True | 17 => True | _ => True) j (s_ j)) ∧ (K9 w m s sh ch sx cx H X (k, u) (.int .i64 x) L s_ W ∧ (L 16 = true → s_ 16 = s_ 5) ∧ (L 17 = true → s_ 17 = s_ 15) ∧ (L 16 = false → s_ 16 = .slice sh hl ch) ∧ (L 17 = false → s_ 17 = .slice sx hl cx))) ?A_w9 (by kernel_rfl) (by kernel_rfl) ?hA_w9 ?h0_w9 ?hq_w9 ?hJ_w9 ?ht_w9
        case hA_w9 =>
          intro s_
          simp only [putL, dstO, Act.put, List.getElem?_toArray, List.getElem?_cons_zero, List.getElem?_cons_succ, Option.bind_some, List.setIfInBounds_toArray, List.set_cons_zero, List.set_cons_succ, if_true]
          all_goals exact rfl
        case h0_w9 => exact ⟨fun j _ h => (by cases h), ⟨(K9.start _ hPt.out).bel (bl_drew (bl_refl _)), (fun h => by cases h), (fun h => by cases h), fun _ => rfl, fun _ => rfl⟩⟩
        case hJ_w9 =>
          intro L L' s_ W h hj
          refine ⟨fun j hj2 hl => hj.1 j hj2 ((h j hj2).trans hl), ?_⟩
          have hj2 := hj.2
          exact ⟨hj2.1.ext h, fun e => hj2.2.1 ((h 16 (by decide)).trans e), fun e => hj2.2.2.1 ((h 17 (by decide)).trans e), fun e => hj2.2.2.2.1 ((h 16 (by decide)).trans e), fun e => hj2.2.2.2.2 ((h 17 (by decide)).trans e)⟩
        case hq_w9 =>
          intro i o hi ho L s_ W hLi hd hsh hj K hK
          obtain ⟨hV, hW⟩ := hj
          rcases (show i = 0 ∨ i = 1 ∨ i = 2 ∨ i = 3 ∨ i = 4 ∨ i = 5 ∨ i = 6 ∨ i = 7 ∨ i = 8 ∨ i = 9 ∨ i = 10 ∨ i = 11 ∨ i = 12 ∨ i = 13 ∨ i = 14 ∨ i = 15 ∨ i = 16 ∨ i = 17 by omega) with rfl | rfl | rfl | rfl | rfl | rfl | rfl | rfl | rfl | rfl | rfl | rfl | rfl | rfl | rfl | rfl | rfl | rfl
          · cases ho
            simp only [Act.put, List.setIfInBounds_toArray, List.set_cons_zero, List.set_cons_succ] at hK
            have h16 : L 16 = false := not_yet hsh hLi (by decide) (by kernel_rfl) rfl
            have e16 := hW.2.2.2.1 h16
            simp only [e16] at hK ⊢
            go_simp
            all_goals first | with_reducible exact hK.out _ _ ⟨val_upd (VAL := (fun j v => match j with | 0 => v = .slice sh hl ch | 1 => v = .pointer (some ⟨p, 0, none⟩) | 2 => v = .int .i64 (k : Int) | 3 => v = .agg #[.int .u32 (k : Int), .int .u32 (u : Int)] | 4 => True | 5 => True | 6 => v = .slice sx hl cx | 7 => v = .pointer (some ⟨p, 0, none⟩) | 8 => v = .pointer (some ⟨p, 0, none⟩) | 9 => v = .pointer (some ⟨p, 4, none⟩) | 10 => v = .slice (some ⟨gt, 0, none⟩) N m.ct | 11 => v = .int .i64 (k : Int) | 12 => v = .pointer (some ⟨gt, k, none⟩) | 13 => v = .int .i64 x | 14 => True | 15 => True | 16 => True | 17 => True | _ => True)) hV rfl, hW⟩ | exact hK.out _ _ ⟨val_upd (VAL := (fun j v => match j with | 0 => v = .slice sh hl ch | 1 => v = .pointer (some ⟨p, 0, none⟩) | 2 => v = .int .i64 (k : Int) | 3 => v = .agg #[.int .u32 (k : Int), .int .u32 (u : Int)] | 4 => True | 5 => True | 6 => v = .slice sx hl cx | 7 => v = .pointer (some ⟨p, 0, none⟩) | 8 => v = .pointer (some ⟨p, 0, none⟩) | 9 => v = .pointer (some ⟨p, 4, none⟩) | 10 => v = .slice (some ⟨gt, 0, none⟩) N m.ct | 11 => v = .int .i64 (k : Int) | 12 => v = .pointer (some ⟨gt, k, none⟩) | 13 => v = .int .i64 x | 14 => True | 15 => True | 16 => True | 17 => True | _ => True)) hV rfl, hW⟩
          · cases ho
            simp only [Act.put, List.setIfInBounds_toArray, List.set_cons_zero, List.set_cons_succ] at hK
            go_simp
            all_goals first | with_reducible exact hK.out _ _ ⟨val_upd (VAL := (fun j v => match j with | 0 => v = .slice sh hl ch | 1 => v = .pointer (some ⟨p, 0, none⟩) | 2 => v = .int .i64 (k : Int) | 3 => v = .agg #[.int .u32 (k : Int), .int .u32 (u : Int)] | 4 => True | 5 => True | 6 => v = .slice sx hl cx | 7 => v = .pointer (some ⟨p, 0, none⟩) | 8 => v = .pointer (some ⟨p, 0, none⟩) | 9 => v = .pointer (some ⟨p, 4, none⟩) | 10 => v = .slice (some ⟨gt, 0, none⟩) N m.ct | 11 => v = .int .i64 (k : Int) | 12 => v = .pointer (some ⟨gt, k, none⟩) | 13 => v = .int .i64 x | 14 => True | 15 => True | 16 => True | 17 => True | _ => True)) hV rfl, hW⟩ | exact hK.out _ _ ⟨val_upd (VAL := (fun j v => match j with | 0 => v = .slice sh hl ch | 1 => v = .pointer (some ⟨p, 0, none⟩) | 2 => v = .int .i64 (k : Int) | 3 => v = .agg #[.int .u32 (k : Int), .int .u32 (u : Int)] | 4 => True | 5 => True | 6 => v = .slice sx hl cx | 7 => v = .pointer (some ⟨p, 0, none⟩) | 8 => v = .pointer (some ⟨p, 0, none⟩) | 9 => v = .pointer (some ⟨p, 4, none⟩) | 10 => v = .slice (some ⟨gt, 0, none⟩) N m.ct | 11 => v = .int .i64 (k : Int) | 12 => v = .pointer (some ⟨gt, k, none⟩) | 13 => v = .int .i64 x | 14 => True | 15 => True | 16 => True | 17 => True | _ => True)) hV rfl, hW⟩
          · cases ho
            simp only [Act.put, List.setIfInBounds_toArray, List.set_cons_zero, List.set_cons_succ] at hK
            go_simp
            all_goals first | with_reducible exact hK.out _ _ ⟨val_upd (VAL := (fun j v => match j with | 0 => v = .slice sh hl ch | 1 => v = .pointer (some ⟨p, 0, none⟩) | 2 => v = .int .i64 (k : Int) | 3 => v = .agg #[.int .u32 (k : Int), .int .u32 (u : Int)] | 4 => True | 5 => True | 6 => v = .slice sx hl cx | 7 => v = .pointer (some ⟨p, 0, none⟩) | 8 => v = .pointer (some ⟨p, 0, none⟩) | 9 => v = .pointer (some ⟨p, 4, none⟩) | 10 => v = .slice (some ⟨gt, 0, none⟩) N m.ct | 11 => v = .int .i64 (k : Int) | 12 => v = .pointer (some ⟨gt, k, none⟩) | 13 => v = .int .i64 x | 14 => True | 15 => True | 16 => True | 17 => True | _ => True)) hV rfl, hW⟩ | exact hK.out _ _ ⟨val_upd (VAL := (fun j v => match j with | 0 => v = .slice sh hl ch | 1 => v = .pointer (some ⟨p, 0, none⟩) | 2 => v = .int .i64 (k : Int) | 3 => v = .agg #[.int .u32 (k : Int), .int .u32 (u : Int)] | 4 => True | 5 => True | 6 => v = .slice sx hl cx | 7 => v = .pointer (some ⟨p, 0, none⟩) | 8 => v = .pointer (some ⟨p, 0, none⟩) | 9 => v = .pointer (some ⟨p, 4, none⟩) | 10 => v = .slice (some ⟨gt, 0, none⟩) N m.ct | 11 => v = .int .i64 (k : Int) | 12 => v = .pointer (some ⟨gt, k, none⟩) | 13 => v = .int .i64 x | 14 => True | 15 => True | 16 => True | 17 => True | _ => True)) hV rfl, hW⟩
          · cases ho
            simp only [Act.put, List.setIfInBounds_toArray, List.set_cons_zero, List.set_cons_succ] at hK
            have e1 : s_ 1 = _ := hV 1 (by decide) (hd 1 (by kernel_rfl))
            have e2 : s_ 2 = _ := hV 2 (by decide) (hd 2 (by kernel_rfl))
            simp only [e1, e2] at hK ⊢
            have hha := handle_I m s W hW.1.st k u HU.out (by omega)
            rw [HPp.out] at hha
            have hW1 := hW
            clear hW
            go_simp
            all_goals (try go_wp2_with (first | (go_at_call 22; (with_reducible refine hha.mono ?_); rintro e w' ⟨rfl, hb9⟩)))
            exact hK.out _ _ ⟨val_upd (VAL := (fun j v => match j with | 0 => v = .slice sh hl ch | 1 => v = .pointer (some ⟨p, 0, none⟩) | 2 => v = .int .i64 (k : Int) | 3 => v = .agg #[.int .u32 (k : Int), .int .u32 (u : Int)] | 4 => True | 5 => True | 6 => v = .slice sx hl cx | 7 => v = .pointer (some ⟨p, 0, none⟩) | 8 => v = .pointer (some ⟨p, 0, none⟩) | 9 => v = .pointer (some ⟨p, 4, none⟩) | 10 => v = .slice (some ⟨gt, 0, none⟩) N m.ct | 11 => v = .int .i64 (k : Int) | 12 => v = .pointer (some ⟨gt, k, none⟩) | 13 => v = .int .i64 x | 14 => True | 15 => True | 16 => True | 17 => True | _ => True)) hV rfl, hW1.1.bel hb9, hW1.2⟩
          · cases ho
            simp only [Act.put, List.setIfInBounds_toArray, List.set_cons_zero, List.set_cons_succ] at hK
            have e3 : s_ 3 = _ := hV 3 (by decide) (hd 3 (by kernel_rfl))
            simp only [e3] at hK ⊢
            have hJ := hide (hW.1.b4 29)
            have hW1 := hW
            clear hW
            go_simp
            exact hK.out _ _ ⟨val_upd (VAL := (fun j v => match j with | 0 => v = .slice sh hl ch | 1 => v = .pointer (some ⟨p, 0, none⟩) | 2 => v = .int .i64 (k : Int) | 3 => v = .agg #[.int .u32 (k : Int), .int .u32 (u : Int)] | 4 => True | 5 => True | 6 => v = .slice sx hl cx | 7 => v = .pointer (some ⟨p, 0, none⟩) | 8 => v = .pointer (some ⟨p, 0, none⟩) | 9 => v = .pointer (some ⟨p, 4, none⟩) | 10 => v = .slice (some ⟨gt, 0, none⟩) N m.ct | 11 => v = .int .i64 (k : Int) | 12 => v = .pointer (some ⟨gt, k, none⟩) | 13 => v = .int .i64 x | 14 => True | 15 => True | 16 => True | 17 => True | _ => True)) hV trivial, hJ.out, hW1.2⟩
          · cases ho
            simp only [Act.put, List.setIfInBounds_toArray, List.set_cons_zero, List.set_cons_succ] at hK
            have h16 : L 16 = false := not_yet hsh hLi (by decide) (by kernel_rfl) rfl
            have hbd := hd 4 (by kernel_rfl)
            have e0 : s_ 0 = _ := hV 0 (by decide) (hd 0 (by kernel_rfl))
            simp only [e0] at hK ⊢
            obtain ⟨y, W', hrun, hJ⟩ := hW.1.a5 (P := Try.prog) hLi hbd 39 39 29 Try.underlying39 info_han rfl (by rw [HH.out]; unfold maxLen; omega) (by rw [HH.out]; omega)
            rw [HH.out] at hrun
            have hW1 := hW
            clear hW
            refine oper_appt 39 _ _ rfl rfl rfl hrun ?_
            exact hK.out y _ ⟨val_upd (VAL := (fun j v => match j with | 0 => v = .slice sh hl ch | 1 => v = .pointer (some ⟨p, 0, none⟩) | 2 => v = .int .i64 (k : Int) | 3 => v = .agg #[.int .u32 (k : Int), .int .u32 (u : Int)] | 4 => True | 5 => True | 6 => v = .slice sx hl cx | 7 => v = .pointer (some ⟨p, 0, none⟩) | 8 => v = .pointer (some ⟨p, 0, none⟩) | 9 => v = .pointer (some ⟨p, 4, none⟩) | 10 => v = .slice (some ⟨gt, 0, none⟩) N m.ct | 11 => v = .int .i64 (k : Int) | 12 => v = .pointer (some ⟨gt, k, none⟩) | 13 => v = .int .i64 x | 14 => True | 15 => True | 16 => True | 17 => True | _ => True)) hV trivial, hJ, (fun h => Bool.noConfusion (h.symm.trans h16)), hW1.2.2⟩
          · cases ho
            simp only [Act.put, List.setIfInBounds_toArray, List.set_cons_zero, List.set_cons_succ] at hK
            have h17 : L 17 = false := not_yet hsh hLi (by decide) (by kernel_rfl) rfl
            have e17 := hW.2.2.2.2 h17
            simp only [e17] at hK ⊢
            go_simp
            all_goals first | with_reducible exact hK.out _ _ ⟨val_upd (VAL := (fun j v => match j with | 0 => v = .slice sh hl ch | 1 => v = .pointer (some ⟨p, 0, none⟩) | 2 => v = .int .i64 (k : Int) | 3 => v = .agg #[.int .u32 (k : Int), .int .u32 (u : Int)] | 4 => True | 5 => True | 6 => v = .slice sx hl cx | 7 => v = .pointer (some ⟨p, 0, none⟩) | 8 => v = .pointer (some ⟨p, 0, none⟩) | 9 => v = .pointer (some ⟨p, 4, none⟩) | 10 => v = .slice (some ⟨gt, 0, none⟩) N m.ct | 11 => v = .int .i64 (k : Int) | 12 => v = .pointer (some ⟨gt, k, none⟩) | 13 => v = .int .i64 x | 14 => True | 15 => True | 16 => True | 17 => True | _ => True)) hV rfl, hW⟩ | exact hK.out _ _ ⟨val_upd (VAL := (fun j v => match j with | 0 => v = .slice sh hl ch | 1 => v = .pointer (some ⟨p, 0, none⟩) | 2 => v = .int .i64 (k : Int) | 3 => v = .agg #[.int .u32 (k : Int), .int .u32 (u : Int)] | 4 => True | 5 => True | 6 => v = .slice sx hl cx | 7 => v = .pointer (some ⟨p, 0, none⟩) | 8 => v = .pointer (some ⟨p, 0, none⟩) | 9 => v = .pointer (some ⟨p, 4, none⟩) | 10 => v = .slice (some ⟨gt, 0, none⟩) N m.ct | 11 => v = .int .i64 (k : Int) | 12 => v = .pointer (some ⟨gt, k, none⟩) | 13 => v = .int .i64 x | 14 => True | 15 => True | 16 => True | 17 => True | _ => True)) hV rfl, hW⟩
          · cases ho
            simp only [Act.put, List.setIfInBounds_toArray, List.set_cons_zero, List.set_cons_succ] at hK
            go_simp
            all_goals first | with_reducible exact hK.out _ _ ⟨val_upd (VAL := (fun j v => match j with | 0 => v = .slice sh hl ch | 1 => v = .pointer (some ⟨p, 0, none⟩) | 2 => v = .int .i64 (k : Int) | 3 => v = .agg #[.int .u32 (k : Int), .int .u32 (u : Int)] | 4 => True | 5 => True | 6 => v = .slice sx hl cx | 7 => v = .pointer (some ⟨p, 0, none⟩) | 8 => v = .pointer (some ⟨p, 0, none⟩) | 9 => v = .pointer (some ⟨p, 4, none⟩) | 10 => v = .slice (some ⟨gt, 0, none⟩) N m.ct | 11 => v = .int .i64 (k : Int) | 12 => v = .pointer (some ⟨gt, k, none⟩) | 13 => v = .int .i64 x | 14 => True | 15 => True | 16 => True | 17 => True | _ => True)) hV rfl, hW⟩ | exact hK.out _ _ ⟨val_upd (VAL := (fun j v => match j with | 0 => v = .slice sh hl ch | 1 => v = .pointer (some ⟨p, 0, none⟩) | 2 => v = .int .i64 (k : Int) | 3 => v = .agg #[.int .u32 (k : Int), .int .u32 (u : Int)] | 4 => True | 5 => True | 6 => v = .slice sx hl cx | 7 => v = .pointer (some ⟨p, 0, none⟩) | 8 => v = .pointer (some ⟨p, 0, none⟩) | 9 => v = .pointer (some ⟨p, 4, none⟩) | 10 => v = .slice (some ⟨gt, 0, none⟩) N m.ct | 11 => v = .int .i64 (k : Int) | 12 => v = .pointer (some ⟨gt, k, none⟩) | 13 => v = .int .i64 x | 14 => True | 15 => True | 16 => True | 17 => True | _ => True)) hV rfl, hW⟩
          · cases ho
            have e7 : s_ 7 = _ := hV 7 (by decide) (hd 7 (by kernel_rfl))
            simp only [e7] at hK ⊢
            simp only [Act.put, List.setIfInBounds_toArray, List.set_cons_zero, List.set_cons_succ] at hK
            go_simp
            all_goals first | with_reducible exact hK.out _ _ ⟨val_upd (VAL := (fun j v => match j with | 0 => v = .slice sh hl ch | 1 => v = .pointer (some ⟨p, 0, none⟩) | 2 => v = .int .i64 (k : Int) | 3 => v = .agg #[.int .u32 (k : Int), .int .u32 (u : Int)] | 4 => True | 5 => True | 6 => v = .slice sx hl cx | 7 => v = .pointer (some ⟨p, 0, none⟩) | 8 => v = .pointer (some ⟨p, 0, none⟩) | 9 => v = .pointer (some ⟨p, 4, none⟩) | 10 => v = .slice (some ⟨gt, 0, none⟩) N m.ct | 11 => v = .int .i64 (k : Int) | 12 => v = .pointer (some ⟨gt, k, none⟩) | 13 => v = .int .i64 x | 14 => True | 15 => True | 16 => True | 17 => True | _ => True)) hV rfl, hW⟩ | exact hK.out _ _ ⟨val_upd (VAL := (fun j v => match j with | 0 => v = .slice sh hl ch | 1 => v = .pointer (some ⟨p, 0, none⟩) | 2 => v = .int .i64 (k : Int) | 3 => v = .agg #[.int .u32 (k : Int), .int .u32 (u : Int)] | 4 => True | 5 => True | 6 => v = .slice sx hl cx | 7 => v = .pointer (some ⟨p, 0, none⟩) | 8 => v = .pointer (some ⟨p, 0, none⟩) | 9 => v = .pointer (some ⟨p, 4, none⟩) | 10 => v = .slice (some ⟨gt, 0, none⟩) N m.ct | 11 => v = .int .i64 (k : Int) | 12 => v = .pointer (some ⟨gt, k, none⟩) | 13 => v = .int .i64 x | 14 => True | 15 => True | 16 => True | 17 => True | _ => True)) hV rfl, hW⟩
          · cases ho
            have e8 : s_ 8 = _ := hV 8 (by decide) (hd 8 (by kernel_rfl))
            simp only [e8] at hK ⊢
            simp only [Act.put, List.setIfInBounds_toArray, List.set_cons_zero, List.set_cons_succ] at hK
            go_simp
            all_goals first | with_reducible exact hK.out _ _ ⟨val_upd (VAL := (fun j v => match j with | 0 => v = .slice sh hl ch | 1 => v = .pointer (some ⟨p, 0, none⟩) | 2 => v = .int .i64 (k : Int) | 3 => v = .agg #[.int .u32 (k : Int), .int .u32 (u : Int)] | 4 => True | 5 => True | 6 => v = .slice sx hl cx | 7 => v = .pointer (some ⟨p, 0, none⟩) | 8 => v = .pointer (some ⟨p, 0, none⟩) | 9 => v = .pointer (some ⟨p, 4, none⟩) | 10 => v = .slice (some ⟨gt, 0, none⟩) N m.ct | 11 => v = .int .i64 (k : Int) | 12 => v = .pointer (some ⟨gt, k, none⟩) | 13 => v = .int .i64 x | 14 => True | 15 => True | 16 => True | 17 => True | _ => True)) hV rfl, hW⟩ | exact hK.out _ _ ⟨val_upd (VAL := (fun j v => match j with | 0 => v = .slice sh hl ch | 1 => v = .pointer (some ⟨p, 0, none⟩) | 2 => v = .int .i64 (k : Int) | 3 => v = .agg #[.int .u32 (k : Int), .int .u32 (u : Int)] | 4 => True | 5 => True | 6 => v = .slice sx hl cx | 7 => v = .pointer (some ⟨p, 0, none⟩) | 8 => v = .pointer (some ⟨p, 0, none⟩) | 9 => v = .pointer (some ⟨p, 4, none⟩) | 10 => v = .slice (some ⟨gt, 0, none⟩) N m.ct | 11 => v = .int .i64 (k : Int) | 12 => v = .pointer (some ⟨gt, k, none⟩) | 13 => v = .int .i64 x | 14 => True | 15 => True | 16 => True | 17 => True | _ => True)) hV rfl, hW⟩
          · cases ho
            simp only [Act.put, List.setIfInBounds_toArray, List.set_cons_zero, List.set_cons_succ] at hK
            have e9 : s_ 9 = _ := hV 9 (by decide) (hd 9 (by kernel_rfl))
            simp only [e9] at hK ⊢
            have t0 := hW.1.st.c4
            rw [Hgt.out, HTn.out, HPp.out] at t0
            go_simp
            all_goals first | with_reducible exact hK.out _ _ ⟨val_upd (VAL := (fun j v => match j with | 0 => v = .slice sh hl ch | 1 => v = .pointer (some ⟨p, 0, none⟩) | 2 => v = .int .i64 (k : Int) | 3 => v = .agg #[.int .u32 (k : Int), .int .u32 (u : Int)] | 4 => True | 5 => True | 6 => v = .slice sx hl cx | 7 => v = .pointer (some ⟨p, 0, none⟩) | 8 => v = .pointer (some ⟨p, 0, none⟩) | 9 => v = .pointer (some ⟨p, 4, none⟩) | 10 => v = .slice (some ⟨gt, 0, none⟩) N m.ct | 11 => v = .int .i64 (k : Int) | 12 => v = .pointer (some ⟨gt, k, none⟩) | 13 => v = .int .i64 x | 14 => True | 15 => True | 16 => True | 17 => True | _ => True)) hV rfl, hW⟩ | exact hK.out _ _ ⟨val_upd (VAL := (fun j v => match j with | 0 => v = .slice sh hl ch | 1 => v = .pointer (some ⟨p, 0, none⟩) | 2 => v = .int .i64 (k : Int) | 3 => v = .agg #[.int .u32 (k : Int), .int .u32 (u : Int)] | 4 => True | 5 => True | 6 => v = .slice sx hl cx | 7 => v = .pointer (some ⟨p, 0, none⟩) | 8 => v = .pointer (some ⟨p, 0, none⟩) | 9 => v = .pointer (some ⟨p, 4, none⟩) | 10 => v = .slice (some ⟨gt, 0, none⟩) N m.ct | 11 => v = .int .i64 (k : Int) | 12 => v = .pointer (some ⟨gt, k, none⟩) | 13 => v = .int .i64 x | 14 => True | 15 => True | 16 => True | 17 => True | _ => True)) hV rfl, hW⟩
          · cases ho
            simp only [Act.put, List.setIfInBounds_toArray, List.set_cons_zero, List.set_cons_succ] at hK
            go_simp
            all_goals first | with_reducible exact hK.out _ _ ⟨val_upd (VAL := (fun j v => match j with | 0 => v = .slice sh hl ch | 1 => v = .pointer (some ⟨p, 0, none⟩) | 2 => v = .int .i64 (k : Int) | 3 => v = .agg #[.int .u32 (k : Int), .int .u32 (u : Int)] | 4 => True | 5 => True | 6 => v = .slice sx hl cx | 7 => v = .pointer (some ⟨p, 0, none⟩) | 8 => v = .pointer (some ⟨p, 0, none⟩) | 9 => v = .pointer (some ⟨p, 4, none⟩) | 10 => v = .slice (some ⟨gt, 0, none⟩) N m.ct | 11 => v = .int .i64 (k : Int) | 12 => v = .pointer (some ⟨gt, k, none⟩) | 13 => v = .int .i64 x | 14 => True | 15 => True | 16 => True | 17 => True | _ => True)) hV rfl, hW⟩ | exact hK.out _ _ ⟨val_upd (VAL := (fun j v => match j with | 0 => v = .slice sh hl ch | 1 => v = .pointer (some ⟨p, 0, none⟩) | 2 => v = .int .i64 (k : Int) | 3 => v = .agg #[.int .u32 (k : Int), .int .u32 (u : Int)] | 4 => True | 5 => True | 6 => v = .slice sx hl cx | 7 => v = .pointer (some ⟨p, 0, none⟩) | 8 => v = .pointer (some ⟨p, 0, none⟩) | 9 => v = .pointer (some ⟨p, 4, none⟩) | 10 => v = .slice (some ⟨gt, 0, none⟩) N m.ct | 11 => v = .int .i64 (k : Int) | 12 => v = .pointer (some ⟨gt, k, none⟩) | 13 => v = .int .i64 x | 14 => True | 15 => True | 16 => True | 17 => True | _ => True)) hV rfl, hW⟩
          · cases ho
            have e10 : s_ 10 = _ := hV 10 (by decide) (hd 10 (by kernel_rfl))
            have e11 : s_ 11 = _ := hV 11 (by decide) (hd 11 (by kernel_rfl))
            simp only [e10, e11] at hK ⊢
            simp only [Act.put, List.setIfInBounds_toArray, List.set_cons_zero, List.set_cons_succ] at hK
            go_simp
            all_goals first | with_reducible exact hK.out _ _ ⟨val_upd (VAL := (fun j v => match j with | 0 => v = .slice sh hl ch | 1 => v = .pointer (some ⟨p, 0, none⟩) | 2 => v = .int .i64 (k : Int) | 3 => v = .agg #[.int .u32 (k : Int), .int .u32 (u : Int)] | 4 => True | 5 => True | 6 => v = .slice sx hl cx | 7 => v = .pointer (some ⟨p, 0, none⟩) | 8 => v = .pointer (some ⟨p, 0, none⟩) | 9 => v = .pointer (some ⟨p, 4, none⟩) | 10 => v = .slice (some ⟨gt, 0, none⟩) N m.ct | 11 => v = .int .i64 (k : Int) | 12 => v = .pointer (some ⟨gt, k, none⟩) | 13 => v = .int .i64 x | 14 => True | 15 => True | 16 => True | 17 => True | _ => True)) hV rfl, hW⟩ | exact hK.out _ _ ⟨val_upd (VAL := (fun j v => match j with | 0 => v = .slice sh hl ch | 1 => v = .pointer (some ⟨p, 0, none⟩) | 2 => v = .int .i64 (k : Int) | 3 => v = .agg #[.int .u32 (k : Int), .int .u32 (u : Int)] | 4 => True | 5 => True | 6 => v = .slice sx hl cx | 7 => v = .pointer (some ⟨p, 0, none⟩) | 8 => v = .pointer (some ⟨p, 0, none⟩) | 9 => v = .pointer (some ⟨p, 4, none⟩) | 10 => v = .slice (some ⟨gt, 0, none⟩) N m.ct | 11 => v = .int .i64 (k : Int) | 12 => v = .pointer (some ⟨gt, k, none⟩) | 13 => v = .int .i64 x | 14 => True | 15 => True | 16 => True | 17 => True | _ => True)) hV rfl, hW⟩
          · cases ho
            simp only [Act.put, List.setIfInBounds_toArray, List.set_cons_zero, List.set_cons_succ] at hK
            have e12 : s_ 12 = _ := hV 12 (by decide) (hd 12 (by kernel_rfl))
            simp only [e12] at hK ⊢
            have t0 : W.cell? ⟨gt, k, none⟩ = some (.int .i64 x) := by
              have rt := hW.1.st.rt
              rw [Hgt.out] at rt
              exact rt.cell HTV.out
            go_simp
            all_goals first | with_reducible exact hK.out _ _ ⟨val_upd (VAL := (fun j v => match j with | 0 => v = .slice sh hl ch | 1 => v = .pointer (some ⟨p, 0, none⟩) | 2 => v = .int .i64 (k : Int) | 3 => v = .agg #[.int .u32 (k : Int), .int .u32 (u : Int)] | 4 => True | 5 => True | 6 => v = .slice sx hl cx | 7 => v = .pointer (some ⟨p, 0, none⟩) | 8 => v = .pointer (some ⟨p, 0, none⟩) | 9 => v = .pointer (some ⟨p, 4, none⟩) | 10 => v = .slice (some ⟨gt, 0, none⟩) N m.ct | 11 => v = .int .i64 (k : Int) | 12 => v = .pointer (some ⟨gt, k, none⟩) | 13 => v = .int .i64 x | 14 => True | 15 => True | 16 => True | 17 => True | _ => True)) hV rfl, hW⟩ | exact hK.out _ _ ⟨val_upd (VAL := (fun j v => match j with | 0 => v = .slice sh hl ch | 1 => v = .pointer (some ⟨p, 0, none⟩) | 2 => v = .int .i64 (k : Int) | 3 => v = .agg #[.int .u32 (k : Int), .int .u32 (u : Int)] | 4 => True | 5 => True | 6 => v = .slice sx hl cx | 7 => v = .pointer (some ⟨p, 0, none⟩) | 8 => v = .pointer (some ⟨p, 0, none⟩) | 9 => v = .pointer (some ⟨p, 4, none⟩) | 10 => v = .slice (some ⟨gt, 0, none⟩) N m.ct | 11 => v = .int .i64 (k : Int) | 12 => v = .pointer (some ⟨gt, k, none⟩) | 13 => v = .int .i64 x | 14 => True | 15 => True | 16 => True | 17 => True | _ => True)) hV rfl, hW⟩
          · cases ho
            simp only [Act.put, List.setIfInBounds_toArray, List.set_cons_zero, List.set_cons_succ] at hK
            have e13 : s_ 13 = _ := hV 13 (by decide) (hd 13 (by kernel_rfl))
            simp only [e13] at hK ⊢
            have hJ := hide (hW.1.b14 3)
            have hW1 := hW
            clear hW
            go_simp
            exact hK.out _ _ ⟨val_upd (VAL := (fun j v => match j with | 0 => v = .slice sh hl ch | 1 => v = .pointer (some ⟨p, 0, none⟩) | 2 => v = .int .i64 (k : Int) | 3 => v = .agg #[.int .u32 (k : Int), .int .u32 (u : Int)] | 4 => True | 5 => True | 6 => v = .slice sx hl cx | 7 => v = .pointer (some ⟨p, 0, none⟩) | 8 => v = .pointer (some ⟨p, 0, none⟩) | 9 => v = .pointer (some ⟨p, 4, none⟩) | 10 => v = .slice (some ⟨gt, 0, none⟩) N m.ct | 11 => v = .int .i64 (k : Int) | 12 => v = .pointer (some ⟨gt, k, none⟩) | 13 => v = .int .i64 x | 14 => True | 15 => True | 16 => True | 17 => True | _ => True)) hV trivial, hJ.out, hW1.2⟩
          · cases ho
            simp only [Act.put, List.setIfInBounds_toArray, List.set_cons_zero, List.set_cons_succ] at hK
            have h17 : L 17 = false := not_yet hsh hLi (by decide) (by kernel_rfl) rfl
            have hbd := hd 14 (by kernel_rfl)
            have e6 : s_ 6 = _ := hV 6 (by decide) (hd 6 (by kernel_rfl))
            simp only [e6] at hK ⊢
            obtain ⟨y, W', hrun, hJ⟩ := hW.1.a15 (P := Try.prog) hLi hbd 35 35 3 Try.underlying35 info_I rfl HT1.out (by rw [HX.out]; unfold maxLen; omega) (by rw [HX.out]; omega)
            rw [HX.out] at hrun
            have hW1 := hW
            clear hW
            refine oper_appt 35 _ _ rfl rfl rfl hrun ?_
            exact hK.out y _ ⟨val_upd (VAL := (fun j v => match j with | 0 => v = .slice sh hl ch | 1 => v = .pointer (some ⟨p, 0, none⟩) | 2 => v = .int .i64 (k : Int) | 3 => v = .agg #[.int .u32 (k : Int), .int .u32 (u : Int)] | 4 => True | 5 => True | 6 => v = .slice sx hl cx | 7 => v = .pointer (some ⟨p, 0, none⟩) | 8 => v = .pointer (some ⟨p, 0, none⟩) | 9 => v = .pointer (some ⟨p, 4, none⟩) | 10 => v = .slice (some ⟨gt, 0, none⟩) N m.ct | 11 => v = .int .i64 (k : Int) | 12 => v = .pointer (some ⟨gt, k, none⟩) | 13 => v = .int .i64 x | 14 => True | 15 => True | 16 => True | 17 => True | _ => True)) hV trivial, hJ, hW1.2.1, (fun h => Bool.noConfusion (h.symm.trans h17)), hW1.2.2.2⟩
          · cases ho
            simp only [Act.put, List.setIfInBounds_toArray, List.set_cons_zero, List.set_cons_succ] at hK
            have hW1 := hW
            clear hW
            go_simp
            exact hK.out _ _ ⟨val_upd (VAL := (fun j v => match j with | 0 => v = .slice sh hl ch | 1 => v = .pointer (some ⟨p, 0, none⟩) | 2 => v = .int .i64 (k : Int) | 3 => v = .agg #[.int .u32 (k : Int), .int .u32 (u : Int)] | 4 => True | 5 => True | 6 => v = .slice sx hl cx | 7 => v = .pointer (some ⟨p, 0, none⟩) | 8 => v = .pointer (some ⟨p, 0, none⟩) | 9 => v = .pointer (some ⟨p, 4, none⟩) | 10 => v = .slice (some ⟨gt, 0, none⟩) N m.ct | 11 => v = .int .i64 (k : Int) | 12 => v = .pointer (some ⟨gt, k, none⟩) | 13 => v = .int .i64 x | 14 => True | 15 => True | 16 => True | 17 => True | _ => True)) hV trivial, hW1.1, fun _ => rfl, hW1.2.2.1, (fun h => by simp [updL] at h), hW1.2.2.2.2⟩
          · cases ho
            simp only [Act.put, List.setIfInBounds_toArray, List.set_cons_zero, List.set_cons_succ] at hK
            have hW1 := hW
            clear hW
            go_simp
            exact hK.out _ _ ⟨val_upd (VAL := (fun j v => match j with | 0 => v = .slice sh hl ch | 1 => v = .pointer (some ⟨p, 0, none⟩) | 2 => v = .int .i64 (k : Int) | 3 => v = .agg #[.int .u32 (k : Int), .int .u32 (u : Int)] | 4 => True | 5 => True | 6 => v = .slice sx hl cx | 7 => v = .pointer (some ⟨p, 0, none⟩) | 8 => v = .pointer (some ⟨p, 0, none⟩) | 9 => v = .pointer (some ⟨p, 4, none⟩) | 10 => v = .slice (some ⟨gt, 0, none⟩) N m.ct | 11 => v = .int .i64 (k : Int) | 12 => v = .pointer (some ⟨gt, k, none⟩) | 13 => v = .int .i64 x | 14 => True | 15 => True | 16 => True | 17 => True | _ => True)) hV trivial, hW1.1, hW1.2.1, fun _ => rfl, hW1.2.2.2.1, (fun h => by simp [updL] at h)⟩
        case ht_w9 =>
          intro s_ W hj
          obtain ⟨hV, hW⟩ := hj
          have e0 : s_ 0 = _ := hV 0 (by decide) rfl
          have e1 : s_ 1 = _ := hV 1 (by decide) rfl
          have e2 : s_ 2 = _ := hV 2 (by decide) rfl
          have e3 : s_ 3 = _ := hV 3 (by decide) rfl
          have e6 : s_ 6 = _ := hV 6 (by decide) rfl
          have e7 : s_ 7 = _ := hV 7 (by decide) rfl
          have e8 : s_ 8 = _ := hV 8 (by decide) rfl
          have e9 : s_ 9 = _ := hV 9 (by decide) rfl
          have e10 : s_ 10 = _ := hV 10 (by decide) rfl
          have e11 : s_ 11 = _ := hV 11 (by decide) rfl
          have e12 : s_ 12 = _ := hV 12 (by decide) rfl
          have e13 : s_ 13 = _ := hV 13 (by decide) rfl
          simp only [e0, e1, e2, e3, e6, e7, e8, e9, e10, e11, e12, e13]
          clear hV e0 e1 e2 e3 e6 e7 e8 e9 e10 e11 e12 e13
          obtain ⟨sh', ch', sx', cx', x5, x15, hP2⟩ := hW.1.done rfl rfl
          have x16 := (hW.2.1 rfl).trans x5
          have x17 := (hW.2.2.1 rfl).trans x15
          clear hW
          rw [HH.out] at x5 x16
          rw [HX.out] at x15 x17
          obtain ⟨W9, hW9⟩ : ∃ x, x = W := ⟨_, rfl⟩
          rw [← hW9] at hP2 ⊢
          clear hW9
          replace hP2 := hide hP2
          simp only [x5, x15, x16, x17]
          clear x5 x15 x16 x17
          go_wp2
          go_roundg (N - (k + 1))
          case measure => omega
          case rel => exact ⟨k + 1, hl + 1, sh', ch', sx', cx', rfl, rfl, by go_num, by omega, Nat.le_refl _, by omega, (show _ = _ by rw [← HEH.out, List.length_append, HH.out]; rfl), (by rw [← HEH.out, ← HET.out]; exact hP2)⟩
      | false =>
        have HEH : Hid (heH s k = heH s (k + 1)) := (by show _ = heH s k ++ _; rw [if_neg (by rw [hb]; simp)]; simp)
        have HET : Hid (heT s k = heT s (k + 1)) := (by show _ = heT s k ++ _; rw [if_neg (by rw [hb]; simp)]; simp)
        clear hb hu htv
        go_wp2
        go_roundg (N - (k + 1))
        case measure => omega
        case rel => exact ⟨k + 1, hl, sh, ch, sx, cx, rfl, rfl, by go_num, by omega, Nat.le_refl _, by omega, (by rw [← HEH.out]; exact HH), (by rw [← HEH.out, ← HET.out]; exact hPt)⟩
    · have hz : ¬ (k : Int) < (N : Int) := by omega
      have hkn : N = k := by omega
      subst hkn
      go_wp2
      refine bodyPost_ret (v := .tuple #[.slice sh hl ch, .slice sx hl cx]) (by simp [results, Try.results32, go_sem]) rfl ?_
      exact ⟨sh, ch, sx, cx, by rw [HH.out], hPt.out⟩

end Go.Proofs.Ytnfhedmlifjlmaa
