/-
  What each function of package store answers, and what its memory holds afterwards: one contract a function; of the memory that was there only the store's own blocks have turned.
-/
import Derived.Test.YtnfhedmlifjlmaaChecked
import Derived.Test.YtnfhedmlifjlmaaTb
import Derived.Test.YtnfhedmlifjlmaaSo
import Derived.Below
import Derived.BigQuiet
import Derived.OwnWalk
import Derived.Laws.AppendOwn
import Derived.Laws.AppendOwnNone
import Derived.WalkKit
import Derived.WalkLawsBesides
import Derived.WalkSpells
import Derived.ProofKit
import Derived.OpenShut
import Derived.Deep.RegionHeld3
import Derived.Deep.LoopGhost
import Derived.Laws.StructEq
import Derived.Lib.Builder
import Derived.Deep.DeepCutAuto
import Derived.Lib.SliceRun
import Derived.Laws.MakeOwn
namespace Go.Proofs.Ytnfhedmlifjlmaa
open Go.ChangeShapes Go.WideShapes Go.ChangeAt Go.RowKit Go.Lib
set_option linter.unusedVariables false
set_option linter.unusedSimpArgs false
set_option maxRecDepth 100000
set_option maxHeartbeats 4000000


theorem put_S (m : Sm) (s : Ss) (w : World) (h : Sto w m s) (ho : Okk s) (x : ByteArray) : Calls Try.prog 16 #[.pointer (some ⟨m.p, 0, none⟩), .string x] w fun e w' => ∃ (k : Nat) (m' : Sm), NextIs s k ∧ m'.p = m.p ∧ Fr m.F m'.F w w' ∧ (k = s.most ∧ e = .returned (.tuple #[.agg #[.int .u32 0, .int .u32 0], .int .i64 4]) ∧ Sto w' m' { s with nx := k } ∨ k < s.most ∧ e = .returned (.tuple #[.agg #[.int .u32 (k : Int), .int .u32 ((s.U.getD k 0 + 1 : Nat) : Int)], .int .i64 0]) ∧ Sto w' m' (putS s k (.string x))) := by
  have b0 := st_bel (W := w) #[.int .u32 0, .int .u32 0] 29
  have hq0 : ∀ o, (w.alloc (.cells #[.int .u32 0, .int .u32 0] 29)).frozen? ⟨w.heap.size, o, none⟩ = false := fun o => fz_new o
  have x0 : (w.alloc (.cells #[.int .u32 0, .int .u32 0] 29)).cell? ⟨w.heap.size, 0, none⟩ = some (.int .u32 0) := by rw [World.cell?_alloc_new]; rfl
  have x1 : (w.alloc (.cells #[.int .u32 0, .int .u32 0] 29)).cell? ⟨w.heap.size, 1, none⟩ = some (.int .u32 0) := by rw [World.cell?_alloc_new]; rfl
  have hqF : ∀ k ∈ m.F, k < w.heap.size := h.sz
  have h1 := h.bel b0
  obtain ⟨q, hq⟩ : ∃ q, q = w.heap.size := ⟨_, rfl⟩
  obtain ⟨w1, hw1⟩ : ∃ x, x = w.alloc (.cells #[.int .u32 0, .int .u32 0] 29) := ⟨_, rfl⟩
  obtain ⟨p, hp⟩ : ∃ p, m.p = p := ⟨_, rfl⟩
  have HPp := hide hp
  have c0 := h1.c0
  have hnx := next_S m s w1 (hw1 ▸ h1) ho
  rw [hp] at c0 hnx ⊢
  go_enter Try.func16, Try.ntmps16
  go_upto_region 1 with (fail)
  rw [← hq, ← hw1] at x0 x1 hq0
  rw [← hw1] at b0 h1 c0
  rw [← hq, ← hw1]
  rw [← hq] at hqF
  have hqb : Hid (w.heap.size ≤ q) := by rw [hq]; exact Nat.le_refl _
  clear hq hw1 hp h
  go_upto_region 4 with (first | (go_at_call 35; (with_reducible refine (isNone_S _ _ c0).mono ?_); rintro e w1b ⟨rfl, hw1b⟩; rw [hw1b]; clear hw1b) | (go_at_call 36; (with_reducible refine (hnx).mono ?_); rintro e w3 ⟨k, rfl, hN, hS3, hf3⟩))
  replace hN := hide hN
  have hnq : q ∉ m.F := fun hm => Nat.lt_irrefl _ (hqF q hm)
  have y0 := hf3.cell hnq x0
  have y1 := hf3.cell hnq x1
  have hq3 : ∀ o, w3.frozen? ⟨q, o, none⟩ = false := fun o => (heap_frozen_eq (hf3.block q (World.block_lt_of_cell? _ _ x0) hnq) o).trans (hq0 o)
  have hF3 := hide ((Fr.of_bel b0).trans hf3)
  have c1 := hS3.c1
  have c2 := hS3.c2
  simp only at c1 c2
  rw [HPp.out] at c1 c2
  clear hf3 x0 x1 hq0 b0 h1 c0 hnx hqF
  replace hS3 := hide hS3
  have hml := ho.m2
  have hum := ho.um
  have HLL := hide ho.ll
  have HTL := hide ho.tl
  have hkn := hN.out.le
  have hln : s.ln ≤ 16384 := by have := ho.lc; have := ho.ll; have := List.count_le_length (a := true) (l := s.L); omega
  by_cases hkm : k = s.most
  · have hkz : (k : Int) = (s.most : Int) := by omega
    have HK := hide hkm
    clear hkm
    have hkb : ((k : Int) == (s.most : Int)) = true := by simpa using hkz
    obtain ⟨W5, hW5, z0, z1, hS5, hF5⟩ := q_end 0 0 y0 y1 hS3.out hnq hF3.out hqb.out
    replace hS5 := hide hS5
    replace hF5 := hide hF5
    go_wp2
    rw [← hW5]
    clear hW5
    refine bodyPost_ret (v := .tuple #[.agg #[.int .u32 0, .int .u32 0], .int .i64 4]) (by simp [results, Try.results16, go_sem, z0, z1]) rfl ?_
    exact ⟨k, m, hN.out, HPp.out, hF5.out, .inl ⟨HK.out, rfl, hS5.out⟩⟩
  · have hkz : ¬ (k : Int) = (s.most : Int) := by omega
    have hkb : ((k : Int) == (s.most : Int)) = false := by simpa using hkz
    have hkl : Hid (k < s.most) := by show k < s.most; omega
    obtain ⟨SB, hSBe⟩ : ∃ SB, SB = { s with nx := k } := ⟨_, rfl⟩
    have hSB := hS3
    rw [← hSBe] at hSB
    obtain ⟨n, hn⟩ : ∃ n, s.U.length = n := ⟨_, rfl⟩
    have hnU : SB.U.length = n := by rw [hSBe]; exact hn
    have hnL : SB.L.length = n := by rw [hSBe]; exact HLL.out.trans hn
    have hnT : SB.T.length = n := by rw [hSBe]; exact HTL.out.trans hn
    have HN := hide hn
    rw [hn] at c2 hkn hum
    by_cases hke : k = n
    · have hkb2 : ((k : Int) == (n : Int)) = true := by have : (k : Int) = (n : Int) := by omega
                                                        simpa using this
      have hn16 : n + 1 ≤ 16384 := by omega
      have HKE := hide hke
      clear hke hn hkz hkm
      go_upto_region 7 with (fail)
      clear c1 c2 hS3
      refine wp_region_inv 31 rfl (fun L s_ W => (∀ j, j < 31 → L j = true → (fun j v => match j with | 0 => v = .pointer (some ⟨p, 0, none⟩) | 1 => v = .pointer (some ⟨p, 0, none⟩) | 2 => v = .pointer (some ⟨p, 0, none⟩) | 3 => v = .pointer (some ⟨p, 0, none⟩) | 4 => v = .pointer (some ⟨p, 0, none⟩) | 5 => v = .pointer (some ⟨p, 2, none⟩) | 6 => v = .slice m.su n m.cu | 7 => True | 8 => True | 9 => v = .pointer (some ⟨p, 0, none⟩) | 10 => v = .pointer (some ⟨p, 0, none⟩) | 11 => v = .pointer (some ⟨p, 3, none⟩) | 12 => v = .slice m.sl n m.cl | 13 => True | 14 => True | 15 => v = .pointer (some ⟨p, 0, none⟩) | 16 => v = .pointer (some ⟨p, 0, none⟩) | 17 => v = .pointer (some ⟨p, 4, none⟩) | 18 => v = .slice m.st n m.ct | 19 => v = .string x | 20 => True | 21 => True | 22 => v = .pointer (some ⟨p, 0, none⟩) | 23 => v = .pointer (some ⟨p, 2, none⟩) | 24 => True | 25 => v = .pointer (some ⟨p, 0, none⟩) | 26 => v = .pointer (some ⟨p, 3, none⟩) | 27 => True | 28 => v = .pointer (some ⟨p, 0, none⟩) | 29 => v = .pointer (some ⟨p, 4, none⟩) | 30 => True | _ => True) j (s_ j)) ∧ (JJ w3 m SB (.string x) L s_ W)) ?A_w7 (by kernel_rfl) (by kernel_rfl) ?hA_w7 ?h0_w7 ?hq_w7 ?hJ_w7 ?ht_w7
      case hA_w7 =>
        intro s_
        simp only [putL, dstO, Act.put, List.getElem?_toArray, List.getElem?_cons_zero, List.getElem?_cons_succ, Option.bind_some, List.setIfInBounds_toArray, List.set_cons_zero, List.set_cons_succ, if_true]
        all_goals exact rfl
      case h0_w7 => exact ⟨fun j _ h => (by cases h), (JJ.start hSB.out _ _).bel (bl_drew (bl_refl _))⟩
      case hJ_w7 =>
        intro L L' s_ W h hj
        refine ⟨fun j hj2 hl => hj.1 j hj2 ((h j hj2).trans hl), ?_⟩
        have hj2 := hj.2
        exact hj2.ext h
      case hq_w7 =>
        intro i o hi ho L s_ W hLi hd hsh hj K hK
        obtain ⟨hV, hW⟩ := hj
        rcases (show i = 0 ∨ i = 1 ∨ i = 2 ∨ i = 3 ∨ i = 4 ∨ i = 5 ∨ i = 6 ∨ i = 7 ∨ i = 8 ∨ i = 9 ∨ i = 10 ∨ i = 11 ∨ i = 12 ∨ i = 13 ∨ i = 14 ∨ i = 15 ∨ i = 16 ∨ i = 17 ∨ i = 18 ∨ i = 19 ∨ i = 20 ∨ i = 21 ∨ i = 22 ∨ i = 23 ∨ i = 24 ∨ i = 25 ∨ i = 26 ∨ i = 27 ∨ i = 28 ∨ i = 29 ∨ i = 30 by omega) with rfl | rfl | rfl | rfl | rfl | rfl | rfl | rfl | rfl | rfl | rfl | rfl | rfl | rfl | rfl | rfl | rfl | rfl | rfl | rfl | rfl | rfl | rfl | rfl | rfl | rfl | rfl | rfl | rfl | rfl | rfl
        · cases ho
          simp only [Act.put, List.setIfInBounds_toArray, List.set_cons_zero, List.set_cons_succ] at hK
          go_simp
          all_goals first | with_reducible exact hK.out _ _ ⟨val_upd (VAL := (fun j v => match j with | 0 => v = .pointer (some ⟨p, 0, none⟩) | 1 => v = .pointer (some ⟨p, 0, none⟩) | 2 => v = .pointer (some ⟨p, 0, none⟩) | 3 => v = .pointer (some ⟨p, 0, none⟩) | 4 => v = .pointer (some ⟨p, 0, none⟩) | 5 => v = .pointer (some ⟨p, 2, none⟩) | 6 => v = .slice m.su n m.cu | 7 => True | 8 => True | 9 => v = .pointer (some ⟨p, 0, none⟩) | 10 => v = .pointer (some ⟨p, 0, none⟩) | 11 => v = .pointer (some ⟨p, 3, none⟩) | 12 => v = .slice m.sl n m.cl | 13 => True | 14 => True | 15 => v = .pointer (some ⟨p, 0, none⟩) | 16 => v = .pointer (some ⟨p, 0, none⟩) | 17 => v = .pointer (some ⟨p, 4, none⟩) | 18 => v = .slice m.st n m.ct | 19 => v = .string x | 20 => True | 21 => True | 22 => v = .pointer (some ⟨p, 0, none⟩) | 23 => v = .pointer (some ⟨p, 2, none⟩) | 24 => True | 25 => v = .pointer (some ⟨p, 0, none⟩) | 26 => v = .pointer (some ⟨p, 3, none⟩) | 27 => True | 28 => v = .pointer (some ⟨p, 0, none⟩) | 29 => v = .pointer (some ⟨p, 4, none⟩) | 30 => True | _ => True)) hV rfl, hW⟩ | exact hK.out _ _ ⟨val_upd (VAL := (fun j v => match j with | 0 => v = .pointer (some ⟨p, 0, none⟩) | 1 => v = .pointer (some ⟨p, 0, none⟩) | 2 => v = .pointer (some ⟨p, 0, none⟩) | 3 => v = .pointer (some ⟨p, 0, none⟩) | 4 => v = .pointer (some ⟨p, 0, none⟩) | 5 => v = .pointer (some ⟨p, 2, none⟩) | 6 => v = .slice m.su n m.cu | 7 => True | 8 => True | 9 => v = .pointer (some ⟨p, 0, none⟩) | 10 => v = .pointer (some ⟨p, 0, none⟩) | 11 => v = .pointer (some ⟨p, 3, none⟩) | 12 => v = .slice m.sl n m.cl | 13 => True | 14 => True | 15 => v = .pointer (some ⟨p, 0, none⟩) | 16 => v = .pointer (some ⟨p, 0, none⟩) | 17 => v = .pointer (some ⟨p, 4, none⟩) | 18 => v = .slice m.st n m.ct | 19 => v = .string x | 20 => True | 21 => True | 22 => v = .pointer (some ⟨p, 0, none⟩) | 23 => v = .pointer (some ⟨p, 2, none⟩) | 24 => True | 25 => v = .pointer (some ⟨p, 0, none⟩) | 26 => v = .pointer (some ⟨p, 3, none⟩) | 27 => True | 28 => v = .pointer (some ⟨p, 0, none⟩) | 29 => v = .pointer (some ⟨p, 4, none⟩) | 30 => True | _ => True)) hV rfl, hW⟩
        · cases ho
          simp only [Act.put, List.setIfInBounds_toArray, List.set_cons_zero, List.set_cons_succ] at hK
          go_simp
          all_goals first | with_reducible exact hK.out _ _ ⟨val_upd (VAL := (fun j v => match j with | 0 => v = .pointer (some ⟨p, 0, none⟩) | 1 => v = .pointer (some ⟨p, 0, none⟩) | 2 => v = .pointer (some ⟨p, 0, none⟩) | 3 => v = .pointer (some ⟨p, 0, none⟩) | 4 => v = .pointer (some ⟨p, 0, none⟩) | 5 => v = .pointer (some ⟨p, 2, none⟩) | 6 => v = .slice m.su n m.cu | 7 => True | 8 => True | 9 => v = .pointer (some ⟨p, 0, none⟩) | 10 => v = .pointer (some ⟨p, 0, none⟩) | 11 => v = .pointer (some ⟨p, 3, none⟩) | 12 => v = .slice m.sl n m.cl | 13 => True | 14 => True | 15 => v = .pointer (some ⟨p, 0, none⟩) | 16 => v = .pointer (some ⟨p, 0, none⟩) | 17 => v = .pointer (some ⟨p, 4, none⟩) | 18 => v = .slice m.st n m.ct | 19 => v = .string x | 20 => True | 21 => True | 22 => v = .pointer (some ⟨p, 0, none⟩) | 23 => v = .pointer (some ⟨p, 2, none⟩) | 24 => True | 25 => v = .pointer (some ⟨p, 0, none⟩) | 26 => v = .pointer (some ⟨p, 3, none⟩) | 27 => True | 28 => v = .pointer (some ⟨p, 0, none⟩) | 29 => v = .pointer (some ⟨p, 4, none⟩) | 30 => True | _ => True)) hV rfl, hW⟩ | exact hK.out _ _ ⟨val_upd (VAL := (fun j v => match j with | 0 => v = .pointer (some ⟨p, 0, none⟩) | 1 => v = .pointer (some ⟨p, 0, none⟩) | 2 => v = .pointer (some ⟨p, 0, none⟩) | 3 => v = .pointer (some ⟨p, 0, none⟩) | 4 => v = .pointer (some ⟨p, 0, none⟩) | 5 => v = .pointer (some ⟨p, 2, none⟩) | 6 => v = .slice m.su n m.cu | 7 => True | 8 => True | 9 => v = .pointer (some ⟨p, 0, none⟩) | 10 => v = .pointer (some ⟨p, 0, none⟩) | 11 => v = .pointer (some ⟨p, 3, none⟩) | 12 => v = .slice m.sl n m.cl | 13 => True | 14 => True | 15 => v = .pointer (some ⟨p, 0, none⟩) | 16 => v = .pointer (some ⟨p, 0, none⟩) | 17 => v = .pointer (some ⟨p, 4, none⟩) | 18 => v = .slice m.st n m.ct | 19 => v = .string x | 20 => True | 21 => True | 22 => v = .pointer (some ⟨p, 0, none⟩) | 23 => v = .pointer (some ⟨p, 2, none⟩) | 24 => True | 25 => v = .pointer (some ⟨p, 0, none⟩) | 26 => v = .pointer (some ⟨p, 3, none⟩) | 27 => True | 28 => v = .pointer (some ⟨p, 0, none⟩) | 29 => v = .pointer (some ⟨p, 4, none⟩) | 30 => True | _ => True)) hV rfl, hW⟩
        · cases ho
          simp only [Act.put, List.setIfInBounds_toArray, List.set_cons_zero, List.set_cons_succ] at hK
          go_simp
          all_goals first | with_reducible exact hK.out _ _ ⟨val_upd (VAL := (fun j v => match j with | 0 => v = .pointer (some ⟨p, 0, none⟩) | 1 => v = .pointer (some ⟨p, 0, none⟩) | 2 => v = .pointer (some ⟨p, 0, none⟩) | 3 => v = .pointer (some ⟨p, 0, none⟩) | 4 => v = .pointer (some ⟨p, 0, none⟩) | 5 => v = .pointer (some ⟨p, 2, none⟩) | 6 => v = .slice m.su n m.cu | 7 => True | 8 => True | 9 => v = .pointer (some ⟨p, 0, none⟩) | 10 => v = .pointer (some ⟨p, 0, none⟩) | 11 => v = .pointer (some ⟨p, 3, none⟩) | 12 => v = .slice m.sl n m.cl | 13 => True | 14 => True | 15 => v = .pointer (some ⟨p, 0, none⟩) | 16 => v = .pointer (some ⟨p, 0, none⟩) | 17 => v = .pointer (some ⟨p, 4, none⟩) | 18 => v = .slice m.st n m.ct | 19 => v = .string x | 20 => True | 21 => True | 22 => v = .pointer (some ⟨p, 0, none⟩) | 23 => v = .pointer (some ⟨p, 2, none⟩) | 24 => True | 25 => v = .pointer (some ⟨p, 0, none⟩) | 26 => v = .pointer (some ⟨p, 3, none⟩) | 27 => True | 28 => v = .pointer (some ⟨p, 0, none⟩) | 29 => v = .pointer (some ⟨p, 4, none⟩) | 30 => True | _ => True)) hV rfl, hW⟩ | exact hK.out _ _ ⟨val_upd (VAL := (fun j v => match j with | 0 => v = .pointer (some ⟨p, 0, none⟩) | 1 => v = .pointer (some ⟨p, 0, none⟩) | 2 => v = .pointer (some ⟨p, 0, none⟩) | 3 => v = .pointer (some ⟨p, 0, none⟩) | 4 => v = .pointer (some ⟨p, 0, none⟩) | 5 => v = .pointer (some ⟨p, 2, none⟩) | 6 => v = .slice m.su n m.cu | 7 => True | 8 => True | 9 => v = .pointer (some ⟨p, 0, none⟩) | 10 => v = .pointer (some ⟨p, 0, none⟩) | 11 => v = .pointer (some ⟨p, 3, none⟩) | 12 => v = .slice m.sl n m.cl | 13 => True | 14 => True | 15 => v = .pointer (some ⟨p, 0, none⟩) | 16 => v = .pointer (some ⟨p, 0, none⟩) | 17 => v = .pointer (some ⟨p, 4, none⟩) | 18 => v = .slice m.st n m.ct | 19 => v = .string x | 20 => True | 21 => True | 22 => v = .pointer (some ⟨p, 0, none⟩) | 23 => v = .pointer (some ⟨p, 2, none⟩) | 24 => True | 25 => v = .pointer (some ⟨p, 0, none⟩) | 26 => v = .pointer (some ⟨p, 3, none⟩) | 27 => True | 28 => v = .pointer (some ⟨p, 0, none⟩) | 29 => v = .pointer (some ⟨p, 4, none⟩) | 30 => True | _ => True)) hV rfl, hW⟩
        · cases ho
          simp only [Act.put, List.setIfInBounds_toArray, List.set_cons_zero, List.set_cons_succ] at hK
          go_simp
          all_goals first | with_reducible exact hK.out _ _ ⟨val_upd (VAL := (fun j v => match j with | 0 => v = .pointer (some ⟨p, 0, none⟩) | 1 => v = .pointer (some ⟨p, 0, none⟩) | 2 => v = .pointer (some ⟨p, 0, none⟩) | 3 => v = .pointer (some ⟨p, 0, none⟩) | 4 => v = .pointer (some ⟨p, 0, none⟩) | 5 => v = .pointer (some ⟨p, 2, none⟩) | 6 => v = .slice m.su n m.cu | 7 => True | 8 => True | 9 => v = .pointer (some ⟨p, 0, none⟩) | 10 => v = .pointer (some ⟨p, 0, none⟩) | 11 => v = .pointer (some ⟨p, 3, none⟩) | 12 => v = .slice m.sl n m.cl | 13 => True | 14 => True | 15 => v = .pointer (some ⟨p, 0, none⟩) | 16 => v = .pointer (some ⟨p, 0, none⟩) | 17 => v = .pointer (some ⟨p, 4, none⟩) | 18 => v = .slice m.st n m.ct | 19 => v = .string x | 20 => True | 21 => True | 22 => v = .pointer (some ⟨p, 0, none⟩) | 23 => v = .pointer (some ⟨p, 2, none⟩) | 24 => True | 25 => v = .pointer (some ⟨p, 0, none⟩) | 26 => v = .pointer (some ⟨p, 3, none⟩) | 27 => True | 28 => v = .pointer (some ⟨p, 0, none⟩) | 29 => v = .pointer (some ⟨p, 4, none⟩) | 30 => True | _ => True)) hV rfl, hW⟩ | exact hK.out _ _ ⟨val_upd (VAL := (fun j v => match j with | 0 => v = .pointer (some ⟨p, 0, none⟩) | 1 => v = .pointer (some ⟨p, 0, none⟩) | 2 => v = .pointer (some ⟨p, 0, none⟩) | 3 => v = .pointer (some ⟨p, 0, none⟩) | 4 => v = .pointer (some ⟨p, 0, none⟩) | 5 => v = .pointer (some ⟨p, 2, none⟩) | 6 => v = .slice m.su n m.cu | 7 => True | 8 => True | 9 => v = .pointer (some ⟨p, 0, none⟩) | 10 => v = .pointer (some ⟨p, 0, none⟩) | 11 => v = .pointer (some ⟨p, 3, none⟩) | 12 => v = .slice m.sl n m.cl | 13 => True | 14 => True | 15 => v = .pointer (some ⟨p, 0, none⟩) | 16 => v = .pointer (some ⟨p, 0, none⟩) | 17 => v = .pointer (some ⟨p, 4, none⟩) | 18 => v = .slice m.st n m.ct | 19 => v = .string x | 20 => True | 21 => True | 22 => v = .pointer (some ⟨p, 0, none⟩) | 23 => v = .pointer (some ⟨p, 2, none⟩) | 24 => True | 25 => v = .pointer (some ⟨p, 0, none⟩) | 26 => v = .pointer (some ⟨p, 3, none⟩) | 27 => True | 28 => v = .pointer (some ⟨p, 0, none⟩) | 29 => v = .pointer (some ⟨p, 4, none⟩) | 30 => True | _ => True)) hV rfl, hW⟩
        · cases ho
          have e3 : s_ 3 = _ := hV 3 (by decide) (hd 3 (by kernel_rfl))
          simp only [e3] at hK ⊢
          simp only [Act.put, List.setIfInBounds_toArray, List.set_cons_zero, List.set_cons_succ] at hK
          go_simp
          all_goals first | with_reducible exact hK.out _ _ ⟨val_upd (VAL := (fun j v => match j with | 0 => v = .pointer (some ⟨p, 0, none⟩) | 1 => v = .pointer (some ⟨p, 0, none⟩) | 2 => v = .pointer (some ⟨p, 0, none⟩) | 3 => v = .pointer (some ⟨p, 0, none⟩) | 4 => v = .pointer (some ⟨p, 0, none⟩) | 5 => v = .pointer (some ⟨p, 2, none⟩) | 6 => v = .slice m.su n m.cu | 7 => True | 8 => True | 9 => v = .pointer (some ⟨p, 0, none⟩) | 10 => v = .pointer (some ⟨p, 0, none⟩) | 11 => v = .pointer (some ⟨p, 3, none⟩) | 12 => v = .slice m.sl n m.cl | 13 => True | 14 => True | 15 => v = .pointer (some ⟨p, 0, none⟩) | 16 => v = .pointer (some ⟨p, 0, none⟩) | 17 => v = .pointer (some ⟨p, 4, none⟩) | 18 => v = .slice m.st n m.ct | 19 => v = .string x | 20 => True | 21 => True | 22 => v = .pointer (some ⟨p, 0, none⟩) | 23 => v = .pointer (some ⟨p, 2, none⟩) | 24 => True | 25 => v = .pointer (some ⟨p, 0, none⟩) | 26 => v = .pointer (some ⟨p, 3, none⟩) | 27 => True | 28 => v = .pointer (some ⟨p, 0, none⟩) | 29 => v = .pointer (some ⟨p, 4, none⟩) | 30 => True | _ => True)) hV rfl, hW⟩ | exact hK.out _ _ ⟨val_upd (VAL := (fun j v => match j with | 0 => v = .pointer (some ⟨p, 0, none⟩) | 1 => v = .pointer (some ⟨p, 0, none⟩) | 2 => v = .pointer (some ⟨p, 0, none⟩) | 3 => v = .pointer (some ⟨p, 0, none⟩) | 4 => v = .pointer (some ⟨p, 0, none⟩) | 5 => v = .pointer (some ⟨p, 2, none⟩) | 6 => v = .slice m.su n m.cu | 7 => True | 8 => True | 9 => v = .pointer (some ⟨p, 0, none⟩) | 10 => v = .pointer (some ⟨p, 0, none⟩) | 11 => v = .pointer (some ⟨p, 3, none⟩) | 12 => v = .slice m.sl n m.cl | 13 => True | 14 => True | 15 => v = .pointer (some ⟨p, 0, none⟩) | 16 => v = .pointer (some ⟨p, 0, none⟩) | 17 => v = .pointer (some ⟨p, 4, none⟩) | 18 => v = .slice m.st n m.ct | 19 => v = .string x | 20 => True | 21 => True | 22 => v = .pointer (some ⟨p, 0, none⟩) | 23 => v = .pointer (some ⟨p, 2, none⟩) | 24 => True | 25 => v = .pointer (some ⟨p, 0, none⟩) | 26 => v = .pointer (some ⟨p, 3, none⟩) | 27 => True | 28 => v = .pointer (some ⟨p, 0, none⟩) | 29 => v = .pointer (some ⟨p, 4, none⟩) | 30 => True | _ => True)) hV rfl, hW⟩
        · cases ho
          have e4 : s_ 4 = _ := hV 4 (by decide) (hd 4 (by kernel_rfl))
          simp only [e4] at hK ⊢
          simp only [Act.put, List.setIfInBounds_toArray, List.set_cons_zero, List.set_cons_succ] at hK
          go_simp
          all_goals first | with_reducible exact hK.out _ _ ⟨val_upd (VAL := (fun j v => match j with | 0 => v = .pointer (some ⟨p, 0, none⟩) | 1 => v = .pointer (some ⟨p, 0, none⟩) | 2 => v = .pointer (some ⟨p, 0, none⟩) | 3 => v = .pointer (some ⟨p, 0, none⟩) | 4 => v = .pointer (some ⟨p, 0, none⟩) | 5 => v = .pointer (some ⟨p, 2, none⟩) | 6 => v = .slice m.su n m.cu | 7 => True | 8 => True | 9 => v = .pointer (some ⟨p, 0, none⟩) | 10 => v = .pointer (some ⟨p, 0, none⟩) | 11 => v = .pointer (some ⟨p, 3, none⟩) | 12 => v = .slice m.sl n m.cl | 13 => True | 14 => True | 15 => v = .pointer (some ⟨p, 0, none⟩) | 16 => v = .pointer (some ⟨p, 0, none⟩) | 17 => v = .pointer (some ⟨p, 4, none⟩) | 18 => v = .slice m.st n m.ct | 19 => v = .string x | 20 => True | 21 => True | 22 => v = .pointer (some ⟨p, 0, none⟩) | 23 => v = .pointer (some ⟨p, 2, none⟩) | 24 => True | 25 => v = .pointer (some ⟨p, 0, none⟩) | 26 => v = .pointer (some ⟨p, 3, none⟩) | 27 => True | 28 => v = .pointer (some ⟨p, 0, none⟩) | 29 => v = .pointer (some ⟨p, 4, none⟩) | 30 => True | _ => True)) hV rfl, hW⟩ | exact hK.out _ _ ⟨val_upd (VAL := (fun j v => match j with | 0 => v = .pointer (some ⟨p, 0, none⟩) | 1 => v = .pointer (some ⟨p, 0, none⟩) | 2 => v = .pointer (some ⟨p, 0, none⟩) | 3 => v = .pointer (some ⟨p, 0, none⟩) | 4 => v = .pointer (some ⟨p, 0, none⟩) | 5 => v = .pointer (some ⟨p, 2, none⟩) | 6 => v = .slice m.su n m.cu | 7 => True | 8 => True | 9 => v = .pointer (some ⟨p, 0, none⟩) | 10 => v = .pointer (some ⟨p, 0, none⟩) | 11 => v = .pointer (some ⟨p, 3, none⟩) | 12 => v = .slice m.sl n m.cl | 13 => True | 14 => True | 15 => v = .pointer (some ⟨p, 0, none⟩) | 16 => v = .pointer (some ⟨p, 0, none⟩) | 17 => v = .pointer (some ⟨p, 4, none⟩) | 18 => v = .slice m.st n m.ct | 19 => v = .string x | 20 => True | 21 => True | 22 => v = .pointer (some ⟨p, 0, none⟩) | 23 => v = .pointer (some ⟨p, 2, none⟩) | 24 => True | 25 => v = .pointer (some ⟨p, 0, none⟩) | 26 => v = .pointer (some ⟨p, 3, none⟩) | 27 => True | 28 => v = .pointer (some ⟨p, 0, none⟩) | 29 => v = .pointer (some ⟨p, 4, none⟩) | 30 => True | _ => True)) hV rfl, hW⟩
        · cases ho
          simp only [Act.put, List.setIfInBounds_toArray, List.set_cons_zero, List.set_cons_succ] at hK
          have e5 : s_ 5 = _ := hV 5 (by decide) (hd 5 (by kernel_rfl))
          simp only [e5] at hK ⊢
          have h24 : L 24 = false := not_yet hsh hLi (by decide) (by kernel_rfl) rfl
          have t0 := hW.l0 h24
          rw [HPp.out, hnU] at t0
          go_simp
          all_goals first | with_reducible exact hK.out _ _ ⟨val_upd (VAL := (fun j v => match j with | 0 => v = .pointer (some ⟨p, 0, none⟩) | 1 => v = .pointer (some ⟨p, 0, none⟩) | 2 => v = .pointer (some ⟨p, 0, none⟩) | 3 => v = .pointer (some ⟨p, 0, none⟩) | 4 => v = .pointer (some ⟨p, 0, none⟩) | 5 => v = .pointer (some ⟨p, 2, none⟩) | 6 => v = .slice m.su n m.cu | 7 => True | 8 => True | 9 => v = .pointer (some ⟨p, 0, none⟩) | 10 => v = .pointer (some ⟨p, 0, none⟩) | 11 => v = .pointer (some ⟨p, 3, none⟩) | 12 => v = .slice m.sl n m.cl | 13 => True | 14 => True | 15 => v = .pointer (some ⟨p, 0, none⟩) | 16 => v = .pointer (some ⟨p, 0, none⟩) | 17 => v = .pointer (some ⟨p, 4, none⟩) | 18 => v = .slice m.st n m.ct | 19 => v = .string x | 20 => True | 21 => True | 22 => v = .pointer (some ⟨p, 0, none⟩) | 23 => v = .pointer (some ⟨p, 2, none⟩) | 24 => True | 25 => v = .pointer (some ⟨p, 0, none⟩) | 26 => v = .pointer (some ⟨p, 3, none⟩) | 27 => True | 28 => v = .pointer (some ⟨p, 0, none⟩) | 29 => v = .pointer (some ⟨p, 4, none⟩) | 30 => True | _ => True)) hV rfl, hW⟩ | exact hK.out _ _ ⟨val_upd (VAL := (fun j v => match j with | 0 => v = .pointer (some ⟨p, 0, none⟩) | 1 => v = .pointer (some ⟨p, 0, none⟩) | 2 => v = .pointer (some ⟨p, 0, none⟩) | 3 => v = .pointer (some ⟨p, 0, none⟩) | 4 => v = .pointer (some ⟨p, 0, none⟩) | 5 => v = .pointer (some ⟨p, 2, none⟩) | 6 => v = .slice m.su n m.cu | 7 => True | 8 => True | 9 => v = .pointer (some ⟨p, 0, none⟩) | 10 => v = .pointer (some ⟨p, 0, none⟩) | 11 => v = .pointer (some ⟨p, 3, none⟩) | 12 => v = .slice m.sl n m.cl | 13 => True | 14 => True | 15 => v = .pointer (some ⟨p, 0, none⟩) | 16 => v = .pointer (some ⟨p, 0, none⟩) | 17 => v = .pointer (some ⟨p, 4, none⟩) | 18 => v = .slice m.st n m.ct | 19 => v = .string x | 20 => True | 21 => True | 22 => v = .pointer (some ⟨p, 0, none⟩) | 23 => v = .pointer (some ⟨p, 2, none⟩) | 24 => True | 25 => v = .pointer (some ⟨p, 0, none⟩) | 26 => v = .pointer (some ⟨p, 3, none⟩) | 27 => True | 28 => v = .pointer (some ⟨p, 0, none⟩) | 29 => v = .pointer (some ⟨p, 4, none⟩) | 30 => True | _ => True)) hV rfl, hW⟩
        · cases ho
          simp only [Act.put, List.setIfInBounds_toArray, List.set_cons_zero, List.set_cons_succ] at hK
          have hJ := hide (hW.b0 hLi 27)
          clear hW
          go_simp
          exact hK.out _ _ ⟨val_upd (VAL := (fun j v => match j with | 0 => v = .pointer (some ⟨p, 0, none⟩) | 1 => v = .pointer (some ⟨p, 0, none⟩) | 2 => v = .pointer (some ⟨p, 0, none⟩) | 3 => v = .pointer (some ⟨p, 0, none⟩) | 4 => v = .pointer (some ⟨p, 0, none⟩) | 5 => v = .pointer (some ⟨p, 2, none⟩) | 6 => v = .slice m.su n m.cu | 7 => True | 8 => True | 9 => v = .pointer (some ⟨p, 0, none⟩) | 10 => v = .pointer (some ⟨p, 0, none⟩) | 11 => v = .pointer (some ⟨p, 3, none⟩) | 12 => v = .slice m.sl n m.cl | 13 => True | 14 => True | 15 => v = .pointer (some ⟨p, 0, none⟩) | 16 => v = .pointer (some ⟨p, 0, none⟩) | 17 => v = .pointer (some ⟨p, 4, none⟩) | 18 => v = .slice m.st n m.ct | 19 => v = .string x | 20 => True | 21 => True | 22 => v = .pointer (some ⟨p, 0, none⟩) | 23 => v = .pointer (some ⟨p, 2, none⟩) | 24 => True | 25 => v = .pointer (some ⟨p, 0, none⟩) | 26 => v = .pointer (some ⟨p, 3, none⟩) | 27 => True | 28 => v = .pointer (some ⟨p, 0, none⟩) | 29 => v = .pointer (some ⟨p, 4, none⟩) | 30 => True | _ => True)) hV trivial, hJ.out⟩
        · cases ho
          simp only [Act.put, List.setIfInBounds_toArray, List.set_cons_zero, List.set_cons_succ] at hK
          have h24 : L 24 = false := not_yet hsh hLi (by decide) (by kernel_rfl) rfl
          have hbd := hd 7 (by kernel_rfl)
          have e6 : s_ 6 = _ := hV 6 (by decide) (hd 6 (by kernel_rfl))
          simp only [e6] at hK ⊢
          obtain ⟨y, W', hrun, hJ⟩ := hW.a0 (P := Try.prog) hLi hbd h24 33 33 27 Try.underlying33 info_u32 rfl rfl (by rw [hnU]; unfold maxLen; omega) (by rw [hnU]; omega)
          rw [hnU] at hrun
          clear hW
          refine oper_appt 33 _ _ rfl rfl rfl hrun ?_
          exact hK.out y _ ⟨val_upd (VAL := (fun j v => match j with | 0 => v = .pointer (some ⟨p, 0, none⟩) | 1 => v = .pointer (some ⟨p, 0, none⟩) | 2 => v = .pointer (some ⟨p, 0, none⟩) | 3 => v = .pointer (some ⟨p, 0, none⟩) | 4 => v = .pointer (some ⟨p, 0, none⟩) | 5 => v = .pointer (some ⟨p, 2, none⟩) | 6 => v = .slice m.su n m.cu | 7 => True | 8 => True | 9 => v = .pointer (some ⟨p, 0, none⟩) | 10 => v = .pointer (some ⟨p, 0, none⟩) | 11 => v = .pointer (some ⟨p, 3, none⟩) | 12 => v = .slice m.sl n m.cl | 13 => True | 14 => True | 15 => v = .pointer (some ⟨p, 0, none⟩) | 16 => v = .pointer (some ⟨p, 0, none⟩) | 17 => v = .pointer (some ⟨p, 4, none⟩) | 18 => v = .slice m.st n m.ct | 19 => v = .string x | 20 => True | 21 => True | 22 => v = .pointer (some ⟨p, 0, none⟩) | 23 => v = .pointer (some ⟨p, 2, none⟩) | 24 => True | 25 => v = .pointer (some ⟨p, 0, none⟩) | 26 => v = .pointer (some ⟨p, 3, none⟩) | 27 => True | 28 => v = .pointer (some ⟨p, 0, none⟩) | 29 => v = .pointer (some ⟨p, 4, none⟩) | 30 => True | _ => True)) hV trivial, hJ⟩
        · cases ho
          simp only [Act.put, List.setIfInBounds_toArray, List.set_cons_zero, List.set_cons_succ] at hK
          go_simp
          all_goals first | with_reducible exact hK.out _ _ ⟨val_upd (VAL := (fun j v => match j with | 0 => v = .pointer (some ⟨p, 0, none⟩) | 1 => v = .pointer (some ⟨p, 0, none⟩) | 2 => v = .pointer (some ⟨p, 0, none⟩) | 3 => v = .pointer (some ⟨p, 0, none⟩) | 4 => v = .pointer (some ⟨p, 0, none⟩) | 5 => v = .pointer (some ⟨p, 2, none⟩) | 6 => v = .slice m.su n m.cu | 7 => True | 8 => True | 9 => v = .pointer (some ⟨p, 0, none⟩) | 10 => v = .pointer (some ⟨p, 0, none⟩) | 11 => v = .pointer (some ⟨p, 3, none⟩) | 12 => v = .slice m.sl n m.cl | 13 => True | 14 => True | 15 => v = .pointer (some ⟨p, 0, none⟩) | 16 => v = .pointer (some ⟨p, 0, none⟩) | 17 => v = .pointer (some ⟨p, 4, none⟩) | 18 => v = .slice m.st n m.ct | 19 => v = .string x | 20 => True | 21 => True | 22 => v = .pointer (some ⟨p, 0, none⟩) | 23 => v = .pointer (some ⟨p, 2, none⟩) | 24 => True | 25 => v = .pointer (some ⟨p, 0, none⟩) | 26 => v = .pointer (some ⟨p, 3, none⟩) | 27 => True | 28 => v = .pointer (some ⟨p, 0, none⟩) | 29 => v = .pointer (some ⟨p, 4, none⟩) | 30 => True | _ => True)) hV rfl, hW⟩ | exact hK.out _ _ ⟨val_upd (VAL := (fun j v => match j with | 0 => v = .pointer (some ⟨p, 0, none⟩) | 1 => v = .pointer (some ⟨p, 0, none⟩) | 2 => v = .pointer (some ⟨p, 0, none⟩) | 3 => v = .pointer (some ⟨p, 0, none⟩) | 4 => v = .pointer (some ⟨p, 0, none⟩) | 5 => v = .pointer (some ⟨p, 2, none⟩) | 6 => v = .slice m.su n m.cu | 7 => True | 8 => True | 9 => v = .pointer (some ⟨p, 0, none⟩) | 10 => v = .pointer (some ⟨p, 0, none⟩) | 11 => v = .pointer (some ⟨p, 3, none⟩) | 12 => v = .slice m.sl n m.cl | 13 => True | 14 => True | 15 => v = .pointer (some ⟨p, 0, none⟩) | 16 => v = .pointer (some ⟨p, 0, none⟩) | 17 => v = .pointer (some ⟨p, 4, none⟩) | 18 => v = .slice m.st n m.ct | 19 => v = .string x | 20 => True | 21 => True | 22 => v = .pointer (some ⟨p, 0, none⟩) | 23 => v = .pointer (some ⟨p, 2, none⟩) | 24 => True | 25 => v = .pointer (some ⟨p, 0, none⟩) | 26 => v = .pointer (some ⟨p, 3, none⟩) | 27 => True | 28 => v = .pointer (some ⟨p, 0, none⟩) | 29 => v = .pointer (some ⟨p, 4, none⟩) | 30 => True | _ => True)) hV rfl, hW⟩
        · cases ho
          have e9 : s_ 9 = _ := hV 9 (by decide) (hd 9 (by kernel_rfl))
          simp only [e9] at hK ⊢
          simp only [Act.put, List.setIfInBounds_toArray, List.set_cons_zero, List.set_cons_succ] at hK
          go_simp
          all_goals first | with_reducible exact hK.out _ _ ⟨val_upd (VAL := (fun j v => match j with | 0 => v = .pointer (some ⟨p, 0, none⟩) | 1 => v = .pointer (some ⟨p, 0, none⟩) | 2 => v = .pointer (some ⟨p, 0, none⟩) | 3 => v = .pointer (some ⟨p, 0, none⟩) | 4 => v = .pointer (some ⟨p, 0, none⟩) | 5 => v = .pointer (some ⟨p, 2, none⟩) | 6 => v = .slice m.su n m.cu | 7 => True | 8 => True | 9 => v = .pointer (some ⟨p, 0, none⟩) | 10 => v = .pointer (some ⟨p, 0, none⟩) | 11 => v = .pointer (some ⟨p, 3, none⟩) | 12 => v = .slice m.sl n m.cl | 13 => True | 14 => True | 15 => v = .pointer (some ⟨p, 0, none⟩) | 16 => v = .pointer (some ⟨p, 0, none⟩) | 17 => v = .pointer (some ⟨p, 4, none⟩) | 18 => v = .slice m.st n m.ct | 19 => v = .string x | 20 => True | 21 => True | 22 => v = .pointer (some ⟨p, 0, none⟩) | 23 => v = .pointer (some ⟨p, 2, none⟩) | 24 => True | 25 => v = .pointer (some ⟨p, 0, none⟩) | 26 => v = .pointer (some ⟨p, 3, none⟩) | 27 => True | 28 => v = .pointer (some ⟨p, 0, none⟩) | 29 => v = .pointer (some ⟨p, 4, none⟩) | 30 => True | _ => True)) hV rfl, hW⟩ | exact hK.out _ _ ⟨val_upd (VAL := (fun j v => match j with | 0 => v = .pointer (some ⟨p, 0, none⟩) | 1 => v = .pointer (some ⟨p, 0, none⟩) | 2 => v = .pointer (some ⟨p, 0, none⟩) | 3 => v = .pointer (some ⟨p, 0, none⟩) | 4 => v = .pointer (some ⟨p, 0, none⟩) | 5 => v = .pointer (some ⟨p, 2, none⟩) | 6 => v = .slice m.su n m.cu | 7 => True | 8 => True | 9 => v = .pointer (some ⟨p, 0, none⟩) | 10 => v = .pointer (some ⟨p, 0, none⟩) | 11 => v = .pointer (some ⟨p, 3, none⟩) | 12 => v = .slice m.sl n m.cl | 13 => True | 14 => True | 15 => v = .pointer (some ⟨p, 0, none⟩) | 16 => v = .pointer (some ⟨p, 0, none⟩) | 17 => v = .pointer (some ⟨p, 4, none⟩) | 18 => v = .slice m.st n m.ct | 19 => v = .string x | 20 => True | 21 => True | 22 => v = .pointer (some ⟨p, 0, none⟩) | 23 => v = .pointer (some ⟨p, 2, none⟩) | 24 => True | 25 => v = .pointer (some ⟨p, 0, none⟩) | 26 => v = .pointer (some ⟨p, 3, none⟩) | 27 => True | 28 => v = .pointer (some ⟨p, 0, none⟩) | 29 => v = .pointer (some ⟨p, 4, none⟩) | 30 => True | _ => True)) hV rfl, hW⟩
        · cases ho
          have e10 : s_ 10 = _ := hV 10 (by decide) (hd 10 (by kernel_rfl))
          simp only [e10] at hK ⊢
          simp only [Act.put, List.setIfInBounds_toArray, List.set_cons_zero, List.set_cons_succ] at hK
          go_simp
          all_goals first | with_reducible exact hK.out _ _ ⟨val_upd (VAL := (fun j v => match j with | 0 => v = .pointer (some ⟨p, 0, none⟩) | 1 => v = .pointer (some ⟨p, 0, none⟩) | 2 => v = .pointer (some ⟨p, 0, none⟩) | 3 => v = .pointer (some ⟨p, 0, none⟩) | 4 => v = .pointer (some ⟨p, 0, none⟩) | 5 => v = .pointer (some ⟨p, 2, none⟩) | 6 => v = .slice m.su n m.cu | 7 => True | 8 => True | 9 => v = .pointer (some ⟨p, 0, none⟩) | 10 => v = .pointer (some ⟨p, 0, none⟩) | 11 => v = .pointer (some ⟨p, 3, none⟩) | 12 => v = .slice m.sl n m.cl | 13 => True | 14 => True | 15 => v = .pointer (some ⟨p, 0, none⟩) | 16 => v = .pointer (some ⟨p, 0, none⟩) | 17 => v = .pointer (some ⟨p, 4, none⟩) | 18 => v = .slice m.st n m.ct | 19 => v = .string x | 20 => True | 21 => True | 22 => v = .pointer (some ⟨p, 0, none⟩) | 23 => v = .pointer (some ⟨p, 2, none⟩) | 24 => True | 25 => v = .pointer (some ⟨p, 0, none⟩) | 26 => v = .pointer (some ⟨p, 3, none⟩) | 27 => True | 28 => v = .pointer (some ⟨p, 0, none⟩) | 29 => v = .pointer (some ⟨p, 4, none⟩) | 30 => True | _ => True)) hV rfl, hW⟩ | exact hK.out _ _ ⟨val_upd (VAL := (fun j v => match j with | 0 => v = .pointer (some ⟨p, 0, none⟩) | 1 => v = .pointer (some ⟨p, 0, none⟩) | 2 => v = .pointer (some ⟨p, 0, none⟩) | 3 => v = .pointer (some ⟨p, 0, none⟩) | 4 => v = .pointer (some ⟨p, 0, none⟩) | 5 => v = .pointer (some ⟨p, 2, none⟩) | 6 => v = .slice m.su n m.cu | 7 => True | 8 => True | 9 => v = .pointer (some ⟨p, 0, none⟩) | 10 => v = .pointer (some ⟨p, 0, none⟩) | 11 => v = .pointer (some ⟨p, 3, none⟩) | 12 => v = .slice m.sl n m.cl | 13 => True | 14 => True | 15 => v = .pointer (some ⟨p, 0, none⟩) | 16 => v = .pointer (some ⟨p, 0, none⟩) | 17 => v = .pointer (some ⟨p, 4, none⟩) | 18 => v = .slice m.st n m.ct | 19 => v = .string x | 20 => True | 21 => True | 22 => v = .pointer (some ⟨p, 0, none⟩) | 23 => v = .pointer (some ⟨p, 2, none⟩) | 24 => True | 25 => v = .pointer (some ⟨p, 0, none⟩) | 26 => v = .pointer (some ⟨p, 3, none⟩) | 27 => True | 28 => v = .pointer (some ⟨p, 0, none⟩) | 29 => v = .pointer (some ⟨p, 4, none⟩) | 30 => True | _ => True)) hV rfl, hW⟩
        · cases ho
          simp only [Act.put, List.setIfInBounds_toArray, List.set_cons_zero, List.set_cons_succ] at hK
          have e11 : s_ 11 = _ := hV 11 (by decide) (hd 11 (by kernel_rfl))
          simp only [e11] at hK ⊢
          have h27 : L 27 = false := not_yet hsh hLi (by decide) (by kernel_rfl) rfl
          have t0 := hW.l1 h27
          rw [HPp.out, hnL] at t0
          go_simp
          all_goals first | with_reducible exact hK.out _ _ ⟨val_upd (VAL := (fun j v => match j with | 0 => v = .pointer (some ⟨p, 0, none⟩) | 1 => v = .pointer (some ⟨p, 0, none⟩) | 2 => v = .pointer (some ⟨p, 0, none⟩) | 3 => v = .pointer (some ⟨p, 0, none⟩) | 4 => v = .pointer (some ⟨p, 0, none⟩) | 5 => v = .pointer (some ⟨p, 2, none⟩) | 6 => v = .slice m.su n m.cu | 7 => True | 8 => True | 9 => v = .pointer (some ⟨p, 0, none⟩) | 10 => v = .pointer (some ⟨p, 0, none⟩) | 11 => v = .pointer (some ⟨p, 3, none⟩) | 12 => v = .slice m.sl n m.cl | 13 => True | 14 => True | 15 => v = .pointer (some ⟨p, 0, none⟩) | 16 => v = .pointer (some ⟨p, 0, none⟩) | 17 => v = .pointer (some ⟨p, 4, none⟩) | 18 => v = .slice m.st n m.ct | 19 => v = .string x | 20 => True | 21 => True | 22 => v = .pointer (some ⟨p, 0, none⟩) | 23 => v = .pointer (some ⟨p, 2, none⟩) | 24 => True | 25 => v = .pointer (some ⟨p, 0, none⟩) | 26 => v = .pointer (some ⟨p, 3, none⟩) | 27 => True | 28 => v = .pointer (some ⟨p, 0, none⟩) | 29 => v = .pointer (some ⟨p, 4, none⟩) | 30 => True | _ => True)) hV rfl, hW⟩ | exact hK.out _ _ ⟨val_upd (VAL := (fun j v => match j with | 0 => v = .pointer (some ⟨p, 0, none⟩) | 1 => v = .pointer (some ⟨p, 0, none⟩) | 2 => v = .pointer (some ⟨p, 0, none⟩) | 3 => v = .pointer (some ⟨p, 0, none⟩) | 4 => v = .pointer (some ⟨p, 0, none⟩) | 5 => v = .pointer (some ⟨p, 2, none⟩) | 6 => v = .slice m.su n m.cu | 7 => True | 8 => True | 9 => v = .pointer (some ⟨p, 0, none⟩) | 10 => v = .pointer (some ⟨p, 0, none⟩) | 11 => v = .pointer (some ⟨p, 3, none⟩) | 12 => v = .slice m.sl n m.cl | 13 => True | 14 => True | 15 => v = .pointer (some ⟨p, 0, none⟩) | 16 => v = .pointer (some ⟨p, 0, none⟩) | 17 => v = .pointer (some ⟨p, 4, none⟩) | 18 => v = .slice m.st n m.ct | 19 => v = .string x | 20 => True | 21 => True | 22 => v = .pointer (some ⟨p, 0, none⟩) | 23 => v = .pointer (some ⟨p, 2, none⟩) | 24 => True | 25 => v = .pointer (some ⟨p, 0, none⟩) | 26 => v = .pointer (some ⟨p, 3, none⟩) | 27 => True | 28 => v = .pointer (some ⟨p, 0, none⟩) | 29 => v = .pointer (some ⟨p, 4, none⟩) | 30 => True | _ => True)) hV rfl, hW⟩
        · cases ho
          simp only [Act.put, List.setIfInBounds_toArray, List.set_cons_zero, List.set_cons_succ] at hK
          have hJ := hide (hW.b1 hLi 4)
          clear hW
          go_simp
          exact hK.out _ _ ⟨val_upd (VAL := (fun j v => match j with | 0 => v = .pointer (some ⟨p, 0, none⟩) | 1 => v = .pointer (some ⟨p, 0, none⟩) | 2 => v = .pointer (some ⟨p, 0, none⟩) | 3 => v = .pointer (some ⟨p, 0, none⟩) | 4 => v = .pointer (some ⟨p, 0, none⟩) | 5 => v = .pointer (some ⟨p, 2, none⟩) | 6 => v = .slice m.su n m.cu | 7 => True | 8 => True | 9 => v = .pointer (some ⟨p, 0, none⟩) | 10 => v = .pointer (some ⟨p, 0, none⟩) | 11 => v = .pointer (some ⟨p, 3, none⟩) | 12 => v = .slice m.sl n m.cl | 13 => True | 14 => True | 15 => v = .pointer (some ⟨p, 0, none⟩) | 16 => v = .pointer (some ⟨p, 0, none⟩) | 17 => v = .pointer (some ⟨p, 4, none⟩) | 18 => v = .slice m.st n m.ct | 19 => v = .string x | 20 => True | 21 => True | 22 => v = .pointer (some ⟨p, 0, none⟩) | 23 => v = .pointer (some ⟨p, 2, none⟩) | 24 => True | 25 => v = .pointer (some ⟨p, 0, none⟩) | 26 => v = .pointer (some ⟨p, 3, none⟩) | 27 => True | 28 => v = .pointer (some ⟨p, 0, none⟩) | 29 => v = .pointer (some ⟨p, 4, none⟩) | 30 => True | _ => True)) hV trivial, hJ.out⟩
        · cases ho
          simp only [Act.put, List.setIfInBounds_toArray, List.set_cons_zero, List.set_cons_succ] at hK
          have h27 : L 27 = false := not_yet hsh hLi (by decide) (by kernel_rfl) rfl
          have hbd := hd 13 (by kernel_rfl)
          have e12 : s_ 12 = _ := hV 12 (by decide) (hd 12 (by kernel_rfl))
          simp only [e12] at hK ⊢
          obtain ⟨y, W', hrun, hJ⟩ := hW.a1 (P := Try.prog) hLi hbd h27 34 34 4 Try.underlying34 info_bool rfl rfl (by rw [hnL]; unfold maxLen; omega) (by rw [hnL]; omega)
          rw [hnL] at hrun
          clear hW
          refine oper_appt 34 _ _ rfl rfl rfl hrun ?_
          exact hK.out y _ ⟨val_upd (VAL := (fun j v => match j with | 0 => v = .pointer (some ⟨p, 0, none⟩) | 1 => v = .pointer (some ⟨p, 0, none⟩) | 2 => v = .pointer (some ⟨p, 0, none⟩) | 3 => v = .pointer (some ⟨p, 0, none⟩) | 4 => v = .pointer (some ⟨p, 0, none⟩) | 5 => v = .pointer (some ⟨p, 2, none⟩) | 6 => v = .slice m.su n m.cu | 7 => True | 8 => True | 9 => v = .pointer (some ⟨p, 0, none⟩) | 10 => v = .pointer (some ⟨p, 0, none⟩) | 11 => v = .pointer (some ⟨p, 3, none⟩) | 12 => v = .slice m.sl n m.cl | 13 => True | 14 => True | 15 => v = .pointer (some ⟨p, 0, none⟩) | 16 => v = .pointer (some ⟨p, 0, none⟩) | 17 => v = .pointer (some ⟨p, 4, none⟩) | 18 => v = .slice m.st n m.ct | 19 => v = .string x | 20 => True | 21 => True | 22 => v = .pointer (some ⟨p, 0, none⟩) | 23 => v = .pointer (some ⟨p, 2, none⟩) | 24 => True | 25 => v = .pointer (some ⟨p, 0, none⟩) | 26 => v = .pointer (some ⟨p, 3, none⟩) | 27 => True | 28 => v = .pointer (some ⟨p, 0, none⟩) | 29 => v = .pointer (some ⟨p, 4, none⟩) | 30 => True | _ => True)) hV trivial, hJ⟩
        · cases ho
          simp only [Act.put, List.setIfInBounds_toArray, List.set_cons_zero, List.set_cons_succ] at hK
          go_simp
          all_goals first | with_reducible exact hK.out _ _ ⟨val_upd (VAL := (fun j v => match j with | 0 => v = .pointer (some ⟨p, 0, none⟩) | 1 => v = .pointer (some ⟨p, 0, none⟩) | 2 => v = .pointer (some ⟨p, 0, none⟩) | 3 => v = .pointer (some ⟨p, 0, none⟩) | 4 => v = .pointer (some ⟨p, 0, none⟩) | 5 => v = .pointer (some ⟨p, 2, none⟩) | 6 => v = .slice m.su n m.cu | 7 => True | 8 => True | 9 => v = .pointer (some ⟨p, 0, none⟩) | 10 => v = .pointer (some ⟨p, 0, none⟩) | 11 => v = .pointer (some ⟨p, 3, none⟩) | 12 => v = .slice m.sl n m.cl | 13 => True | 14 => True | 15 => v = .pointer (some ⟨p, 0, none⟩) | 16 => v = .pointer (some ⟨p, 0, none⟩) | 17 => v = .pointer (some ⟨p, 4, none⟩) | 18 => v = .slice m.st n m.ct | 19 => v = .string x | 20 => True | 21 => True | 22 => v = .pointer (some ⟨p, 0, none⟩) | 23 => v = .pointer (some ⟨p, 2, none⟩) | 24 => True | 25 => v = .pointer (some ⟨p, 0, none⟩) | 26 => v = .pointer (some ⟨p, 3, none⟩) | 27 => True | 28 => v = .pointer (some ⟨p, 0, none⟩) | 29 => v = .pointer (some ⟨p, 4, none⟩) | 30 => True | _ => True)) hV rfl, hW⟩ | exact hK.out _ _ ⟨val_upd (VAL := (fun j v => match j with | 0 => v = .pointer (some ⟨p, 0, none⟩) | 1 => v = .pointer (some ⟨p, 0, none⟩) | 2 => v = .pointer (some ⟨p, 0, none⟩) | 3 => v = .pointer (some ⟨p, 0, none⟩) | 4 => v = .pointer (some ⟨p, 0, none⟩) | 5 => v = .pointer (some ⟨p, 2, none⟩) | 6 => v = .slice m.su n m.cu | 7 => True | 8 => True | 9 => v = .pointer (some ⟨p, 0, none⟩) | 10 => v = .pointer (some ⟨p, 0, none⟩) | 11 => v = .pointer (some ⟨p, 3, none⟩) | 12 => v = .slice m.sl n m.cl | 13 => True | 14 => True | 15 => v = .pointer (some ⟨p, 0, none⟩) | 16 => v = .pointer (some ⟨p, 0, none⟩) | 17 => v = .pointer (some ⟨p, 4, none⟩) | 18 => v = .slice m.st n m.ct | 19 => v = .string x | 20 => True | 21 => True | 22 => v = .pointer (some ⟨p, 0, none⟩) | 23 => v = .pointer (some ⟨p, 2, none⟩) | 24 => True | 25 => v = .pointer (some ⟨p, 0, none⟩) | 26 => v = .pointer (some ⟨p, 3, none⟩) | 27 => True | 28 => v = .pointer (some ⟨p, 0, none⟩) | 29 => v = .pointer (some ⟨p, 4, none⟩) | 30 => True | _ => True)) hV rfl, hW⟩
        · cases ho
          have e15 : s_ 15 = _ := hV 15 (by decide) (hd 15 (by kernel_rfl))
          simp only [e15] at hK ⊢
          simp only [Act.put, List.setIfInBounds_toArray, List.set_cons_zero, List.set_cons_succ] at hK
          go_simp
          all_goals first | with_reducible exact hK.out _ _ ⟨val_upd (VAL := (fun j v => match j with | 0 => v = .pointer (some ⟨p, 0, none⟩) | 1 => v = .pointer (some ⟨p, 0, none⟩) | 2 => v = .pointer (some ⟨p, 0, none⟩) | 3 => v = .pointer (some ⟨p, 0, none⟩) | 4 => v = .pointer (some ⟨p, 0, none⟩) | 5 => v = .pointer (some ⟨p, 2, none⟩) | 6 => v = .slice m.su n m.cu | 7 => True | 8 => True | 9 => v = .pointer (some ⟨p, 0, none⟩) | 10 => v = .pointer (some ⟨p, 0, none⟩) | 11 => v = .pointer (some ⟨p, 3, none⟩) | 12 => v = .slice m.sl n m.cl | 13 => True | 14 => True | 15 => v = .pointer (some ⟨p, 0, none⟩) | 16 => v = .pointer (some ⟨p, 0, none⟩) | 17 => v = .pointer (some ⟨p, 4, none⟩) | 18 => v = .slice m.st n m.ct | 19 => v = .string x | 20 => True | 21 => True | 22 => v = .pointer (some ⟨p, 0, none⟩) | 23 => v = .pointer (some ⟨p, 2, none⟩) | 24 => True | 25 => v = .pointer (some ⟨p, 0, none⟩) | 26 => v = .pointer (some ⟨p, 3, none⟩) | 27 => True | 28 => v = .pointer (some ⟨p, 0, none⟩) | 29 => v = .pointer (some ⟨p, 4, none⟩) | 30 => True | _ => True)) hV rfl, hW⟩ | exact hK.out _ _ ⟨val_upd (VAL := (fun j v => match j with | 0 => v = .pointer (some ⟨p, 0, none⟩) | 1 => v = .pointer (some ⟨p, 0, none⟩) | 2 => v = .pointer (some ⟨p, 0, none⟩) | 3 => v = .pointer (some ⟨p, 0, none⟩) | 4 => v = .pointer (some ⟨p, 0, none⟩) | 5 => v = .pointer (some ⟨p, 2, none⟩) | 6 => v = .slice m.su n m.cu | 7 => True | 8 => True | 9 => v = .pointer (some ⟨p, 0, none⟩) | 10 => v = .pointer (some ⟨p, 0, none⟩) | 11 => v = .pointer (some ⟨p, 3, none⟩) | 12 => v = .slice m.sl n m.cl | 13 => True | 14 => True | 15 => v = .pointer (some ⟨p, 0, none⟩) | 16 => v = .pointer (some ⟨p, 0, none⟩) | 17 => v = .pointer (some ⟨p, 4, none⟩) | 18 => v = .slice m.st n m.ct | 19 => v = .string x | 20 => True | 21 => True | 22 => v = .pointer (some ⟨p, 0, none⟩) | 23 => v = .pointer (some ⟨p, 2, none⟩) | 24 => True | 25 => v = .pointer (some ⟨p, 0, none⟩) | 26 => v = .pointer (some ⟨p, 3, none⟩) | 27 => True | 28 => v = .pointer (some ⟨p, 0, none⟩) | 29 => v = .pointer (some ⟨p, 4, none⟩) | 30 => True | _ => True)) hV rfl, hW⟩
        · cases ho
          have e16 : s_ 16 = _ := hV 16 (by decide) (hd 16 (by kernel_rfl))
          simp only [e16] at hK ⊢
          simp only [Act.put, List.setIfInBounds_toArray, List.set_cons_zero, List.set_cons_succ] at hK
          go_simp
          all_goals first | with_reducible exact hK.out _ _ ⟨val_upd (VAL := (fun j v => match j with | 0 => v = .pointer (some ⟨p, 0, none⟩) | 1 => v = .pointer (some ⟨p, 0, none⟩) | 2 => v = .pointer (some ⟨p, 0, none⟩) | 3 => v = .pointer (some ⟨p, 0, none⟩) | 4 => v = .pointer (some ⟨p, 0, none⟩) | 5 => v = .pointer (some ⟨p, 2, none⟩) | 6 => v = .slice m.su n m.cu | 7 => True | 8 => True | 9 => v = .pointer (some ⟨p, 0, none⟩) | 10 => v = .pointer (some ⟨p, 0, none⟩) | 11 => v = .pointer (some ⟨p, 3, none⟩) | 12 => v = .slice m.sl n m.cl | 13 => True | 14 => True | 15 => v = .pointer (some ⟨p, 0, none⟩) | 16 => v = .pointer (some ⟨p, 0, none⟩) | 17 => v = .pointer (some ⟨p, 4, none⟩) | 18 => v = .slice m.st n m.ct | 19 => v = .string x | 20 => True | 21 => True | 22 => v = .pointer (some ⟨p, 0, none⟩) | 23 => v = .pointer (some ⟨p, 2, none⟩) | 24 => True | 25 => v = .pointer (some ⟨p, 0, none⟩) | 26 => v = .pointer (some ⟨p, 3, none⟩) | 27 => True | 28 => v = .pointer (some ⟨p, 0, none⟩) | 29 => v = .pointer (some ⟨p, 4, none⟩) | 30 => True | _ => True)) hV rfl, hW⟩ | exact hK.out _ _ ⟨val_upd (VAL := (fun j v => match j with | 0 => v = .pointer (some ⟨p, 0, none⟩) | 1 => v = .pointer (some ⟨p, 0, none⟩) | 2 => v = .pointer (some ⟨p, 0, none⟩) | 3 => v = .pointer (some ⟨p, 0, none⟩) | 4 => v = .pointer (some ⟨p, 0, none⟩) | 5 => v = .pointer (some ⟨p, 2, none⟩) | 6 => v = .slice m.su n m.cu | 7 => True | 8 => True | 9 => v = .pointer (some ⟨p, 0, none⟩) | 10 => v = .pointer (some ⟨p, 0, none⟩) | 11 => v = .pointer (some ⟨p, 3, none⟩) | 12 => v = .slice m.sl n m.cl | 13 => True | 14 => True | 15 => v = .pointer (some ⟨p, 0, none⟩) | 16 => v = .pointer (some ⟨p, 0, none⟩) | 17 => v = .pointer (some ⟨p, 4, none⟩) | 18 => v = .slice m.st n m.ct | 19 => v = .string x | 20 => True | 21 => True | 22 => v = .pointer (some ⟨p, 0, none⟩) | 23 => v = .pointer (some ⟨p, 2, none⟩) | 24 => True | 25 => v = .pointer (some ⟨p, 0, none⟩) | 26 => v = .pointer (some ⟨p, 3, none⟩) | 27 => True | 28 => v = .pointer (some ⟨p, 0, none⟩) | 29 => v = .pointer (some ⟨p, 4, none⟩) | 30 => True | _ => True)) hV rfl, hW⟩
        · cases ho
          simp only [Act.put, List.setIfInBounds_toArray, List.set_cons_zero, List.set_cons_succ] at hK
          have e17 : s_ 17 = _ := hV 17 (by decide) (hd 17 (by kernel_rfl))
          simp only [e17] at hK ⊢
          have h30 : L 30 = false := not_yet hsh hLi (by decide) (by kernel_rfl) rfl
          have t0 := hW.l2 h30
          rw [HPp.out, hnT] at t0
          go_simp
          all_goals first | with_reducible exact hK.out _ _ ⟨val_upd (VAL := (fun j v => match j with | 0 => v = .pointer (some ⟨p, 0, none⟩) | 1 => v = .pointer (some ⟨p, 0, none⟩) | 2 => v = .pointer (some ⟨p, 0, none⟩) | 3 => v = .pointer (some ⟨p, 0, none⟩) | 4 => v = .pointer (some ⟨p, 0, none⟩) | 5 => v = .pointer (some ⟨p, 2, none⟩) | 6 => v = .slice m.su n m.cu | 7 => True | 8 => True | 9 => v = .pointer (some ⟨p, 0, none⟩) | 10 => v = .pointer (some ⟨p, 0, none⟩) | 11 => v = .pointer (some ⟨p, 3, none⟩) | 12 => v = .slice m.sl n m.cl | 13 => True | 14 => True | 15 => v = .pointer (some ⟨p, 0, none⟩) | 16 => v = .pointer (some ⟨p, 0, none⟩) | 17 => v = .pointer (some ⟨p, 4, none⟩) | 18 => v = .slice m.st n m.ct | 19 => v = .string x | 20 => True | 21 => True | 22 => v = .pointer (some ⟨p, 0, none⟩) | 23 => v = .pointer (some ⟨p, 2, none⟩) | 24 => True | 25 => v = .pointer (some ⟨p, 0, none⟩) | 26 => v = .pointer (some ⟨p, 3, none⟩) | 27 => True | 28 => v = .pointer (some ⟨p, 0, none⟩) | 29 => v = .pointer (some ⟨p, 4, none⟩) | 30 => True | _ => True)) hV rfl, hW⟩ | exact hK.out _ _ ⟨val_upd (VAL := (fun j v => match j with | 0 => v = .pointer (some ⟨p, 0, none⟩) | 1 => v = .pointer (some ⟨p, 0, none⟩) | 2 => v = .pointer (some ⟨p, 0, none⟩) | 3 => v = .pointer (some ⟨p, 0, none⟩) | 4 => v = .pointer (some ⟨p, 0, none⟩) | 5 => v = .pointer (some ⟨p, 2, none⟩) | 6 => v = .slice m.su n m.cu | 7 => True | 8 => True | 9 => v = .pointer (some ⟨p, 0, none⟩) | 10 => v = .pointer (some ⟨p, 0, none⟩) | 11 => v = .pointer (some ⟨p, 3, none⟩) | 12 => v = .slice m.sl n m.cl | 13 => True | 14 => True | 15 => v = .pointer (some ⟨p, 0, none⟩) | 16 => v = .pointer (some ⟨p, 0, none⟩) | 17 => v = .pointer (some ⟨p, 4, none⟩) | 18 => v = .slice m.st n m.ct | 19 => v = .string x | 20 => True | 21 => True | 22 => v = .pointer (some ⟨p, 0, none⟩) | 23 => v = .pointer (some ⟨p, 2, none⟩) | 24 => True | 25 => v = .pointer (some ⟨p, 0, none⟩) | 26 => v = .pointer (some ⟨p, 3, none⟩) | 27 => True | 28 => v = .pointer (some ⟨p, 0, none⟩) | 29 => v = .pointer (some ⟨p, 4, none⟩) | 30 => True | _ => True)) hV rfl, hW⟩
        · cases ho
          simp only [Act.put, List.setIfInBounds_toArray, List.set_cons_zero, List.set_cons_succ] at hK
          go_simp
          all_goals first | with_reducible exact hK.out _ _ ⟨val_upd (VAL := (fun j v => match j with | 0 => v = .pointer (some ⟨p, 0, none⟩) | 1 => v = .pointer (some ⟨p, 0, none⟩) | 2 => v = .pointer (some ⟨p, 0, none⟩) | 3 => v = .pointer (some ⟨p, 0, none⟩) | 4 => v = .pointer (some ⟨p, 0, none⟩) | 5 => v = .pointer (some ⟨p, 2, none⟩) | 6 => v = .slice m.su n m.cu | 7 => True | 8 => True | 9 => v = .pointer (some ⟨p, 0, none⟩) | 10 => v = .pointer (some ⟨p, 0, none⟩) | 11 => v = .pointer (some ⟨p, 3, none⟩) | 12 => v = .slice m.sl n m.cl | 13 => True | 14 => True | 15 => v = .pointer (some ⟨p, 0, none⟩) | 16 => v = .pointer (some ⟨p, 0, none⟩) | 17 => v = .pointer (some ⟨p, 4, none⟩) | 18 => v = .slice m.st n m.ct | 19 => v = .string x | 20 => True | 21 => True | 22 => v = .pointer (some ⟨p, 0, none⟩) | 23 => v = .pointer (some ⟨p, 2, none⟩) | 24 => True | 25 => v = .pointer (some ⟨p, 0, none⟩) | 26 => v = .pointer (some ⟨p, 3, none⟩) | 27 => True | 28 => v = .pointer (some ⟨p, 0, none⟩) | 29 => v = .pointer (some ⟨p, 4, none⟩) | 30 => True | _ => True)) hV rfl, hW⟩ | exact hK.out _ _ ⟨val_upd (VAL := (fun j v => match j with | 0 => v = .pointer (some ⟨p, 0, none⟩) | 1 => v = .pointer (some ⟨p, 0, none⟩) | 2 => v = .pointer (some ⟨p, 0, none⟩) | 3 => v = .pointer (some ⟨p, 0, none⟩) | 4 => v = .pointer (some ⟨p, 0, none⟩) | 5 => v = .pointer (some ⟨p, 2, none⟩) | 6 => v = .slice m.su n m.cu | 7 => True | 8 => True | 9 => v = .pointer (some ⟨p, 0, none⟩) | 10 => v = .pointer (some ⟨p, 0, none⟩) | 11 => v = .pointer (some ⟨p, 3, none⟩) | 12 => v = .slice m.sl n m.cl | 13 => True | 14 => True | 15 => v = .pointer (some ⟨p, 0, none⟩) | 16 => v = .pointer (some ⟨p, 0, none⟩) | 17 => v = .pointer (some ⟨p, 4, none⟩) | 18 => v = .slice m.st n m.ct | 19 => v = .string x | 20 => True | 21 => True | 22 => v = .pointer (some ⟨p, 0, none⟩) | 23 => v = .pointer (some ⟨p, 2, none⟩) | 24 => True | 25 => v = .pointer (some ⟨p, 0, none⟩) | 26 => v = .pointer (some ⟨p, 3, none⟩) | 27 => True | 28 => v = .pointer (some ⟨p, 0, none⟩) | 29 => v = .pointer (some ⟨p, 4, none⟩) | 30 => True | _ => True)) hV rfl, hW⟩
        · cases ho
          simp only [Act.put, List.setIfInBounds_toArray, List.set_cons_zero, List.set_cons_succ] at hK
          have e19 : s_ 19 = _ := hV 19 (by decide) (hd 19 (by kernel_rfl))
          simp only [e19] at hK ⊢
          have hJ := hide (hW.b2 hLi 9)
          clear hW
          go_simp
          exact hK.out _ _ ⟨val_upd (VAL := (fun j v => match j with | 0 => v = .pointer (some ⟨p, 0, none⟩) | 1 => v = .pointer (some ⟨p, 0, none⟩) | 2 => v = .pointer (some ⟨p, 0, none⟩) | 3 => v = .pointer (some ⟨p, 0, none⟩) | 4 => v = .pointer (some ⟨p, 0, none⟩) | 5 => v = .pointer (some ⟨p, 2, none⟩) | 6 => v = .slice m.su n m.cu | 7 => True | 8 => True | 9 => v = .pointer (some ⟨p, 0, none⟩) | 10 => v = .pointer (some ⟨p, 0, none⟩) | 11 => v = .pointer (some ⟨p, 3, none⟩) | 12 => v = .slice m.sl n m.cl | 13 => True | 14 => True | 15 => v = .pointer (some ⟨p, 0, none⟩) | 16 => v = .pointer (some ⟨p, 0, none⟩) | 17 => v = .pointer (some ⟨p, 4, none⟩) | 18 => v = .slice m.st n m.ct | 19 => v = .string x | 20 => True | 21 => True | 22 => v = .pointer (some ⟨p, 0, none⟩) | 23 => v = .pointer (some ⟨p, 2, none⟩) | 24 => True | 25 => v = .pointer (some ⟨p, 0, none⟩) | 26 => v = .pointer (some ⟨p, 3, none⟩) | 27 => True | 28 => v = .pointer (some ⟨p, 0, none⟩) | 29 => v = .pointer (some ⟨p, 4, none⟩) | 30 => True | _ => True)) hV trivial, hJ.out⟩
        · cases ho
          simp only [Act.put, List.setIfInBounds_toArray, List.set_cons_zero, List.set_cons_succ] at hK
          have h30 : L 30 = false := not_yet hsh hLi (by decide) (by kernel_rfl) rfl
          have hbd := hd 20 (by kernel_rfl)
          have e18 : s_ 18 = _ := hV 18 (by decide) (hd 18 (by kernel_rfl))
          simp only [e18] at hK ⊢
          obtain ⟨y, W', hrun, hJ⟩ := hW.a2 (P := Try.prog) hLi hbd h30 69 69 9 Try.underlying69 info_S rfl rfl (by rw [hnT]; unfold maxLen; omega) (by rw [hnT]; omega)
          rw [hnT] at hrun
          clear hW
          refine oper_appt 69 _ _ rfl rfl rfl hrun ?_
          exact hK.out y _ ⟨val_upd (VAL := (fun j v => match j with | 0 => v = .pointer (some ⟨p, 0, none⟩) | 1 => v = .pointer (some ⟨p, 0, none⟩) | 2 => v = .pointer (some ⟨p, 0, none⟩) | 3 => v = .pointer (some ⟨p, 0, none⟩) | 4 => v = .pointer (some ⟨p, 0, none⟩) | 5 => v = .pointer (some ⟨p, 2, none⟩) | 6 => v = .slice m.su n m.cu | 7 => True | 8 => True | 9 => v = .pointer (some ⟨p, 0, none⟩) | 10 => v = .pointer (some ⟨p, 0, none⟩) | 11 => v = .pointer (some ⟨p, 3, none⟩) | 12 => v = .slice m.sl n m.cl | 13 => True | 14 => True | 15 => v = .pointer (some ⟨p, 0, none⟩) | 16 => v = .pointer (some ⟨p, 0, none⟩) | 17 => v = .pointer (some ⟨p, 4, none⟩) | 18 => v = .slice m.st n m.ct | 19 => v = .string x | 20 => True | 21 => True | 22 => v = .pointer (some ⟨p, 0, none⟩) | 23 => v = .pointer (some ⟨p, 2, none⟩) | 24 => True | 25 => v = .pointer (some ⟨p, 0, none⟩) | 26 => v = .pointer (some ⟨p, 3, none⟩) | 27 => True | 28 => v = .pointer (some ⟨p, 0, none⟩) | 29 => v = .pointer (some ⟨p, 4, none⟩) | 30 => True | _ => True)) hV trivial, hJ⟩
        · cases ho
          have e0 : s_ 0 = _ := hV 0 (by decide) (hd 0 (by kernel_rfl))
          simp only [e0] at hK ⊢
          simp only [Act.put, List.setIfInBounds_toArray, List.set_cons_zero, List.set_cons_succ] at hK
          go_simp
          all_goals first | with_reducible exact hK.out _ _ ⟨val_upd (VAL := (fun j v => match j with | 0 => v = .pointer (some ⟨p, 0, none⟩) | 1 => v = .pointer (some ⟨p, 0, none⟩) | 2 => v = .pointer (some ⟨p, 0, none⟩) | 3 => v = .pointer (some ⟨p, 0, none⟩) | 4 => v = .pointer (some ⟨p, 0, none⟩) | 5 => v = .pointer (some ⟨p, 2, none⟩) | 6 => v = .slice m.su n m.cu | 7 => True | 8 => True | 9 => v = .pointer (some ⟨p, 0, none⟩) | 10 => v = .pointer (some ⟨p, 0, none⟩) | 11 => v = .pointer (some ⟨p, 3, none⟩) | 12 => v = .slice m.sl n m.cl | 13 => True | 14 => True | 15 => v = .pointer (some ⟨p, 0, none⟩) | 16 => v = .pointer (some ⟨p, 0, none⟩) | 17 => v = .pointer (some ⟨p, 4, none⟩) | 18 => v = .slice m.st n m.ct | 19 => v = .string x | 20 => True | 21 => True | 22 => v = .pointer (some ⟨p, 0, none⟩) | 23 => v = .pointer (some ⟨p, 2, none⟩) | 24 => True | 25 => v = .pointer (some ⟨p, 0, none⟩) | 26 => v = .pointer (some ⟨p, 3, none⟩) | 27 => True | 28 => v = .pointer (some ⟨p, 0, none⟩) | 29 => v = .pointer (some ⟨p, 4, none⟩) | 30 => True | _ => True)) hV rfl, hW⟩ | exact hK.out _ _ ⟨val_upd (VAL := (fun j v => match j with | 0 => v = .pointer (some ⟨p, 0, none⟩) | 1 => v = .pointer (some ⟨p, 0, none⟩) | 2 => v = .pointer (some ⟨p, 0, none⟩) | 3 => v = .pointer (some ⟨p, 0, none⟩) | 4 => v = .pointer (some ⟨p, 0, none⟩) | 5 => v = .pointer (some ⟨p, 2, none⟩) | 6 => v = .slice m.su n m.cu | 7 => True | 8 => True | 9 => v = .pointer (some ⟨p, 0, none⟩) | 10 => v = .pointer (some ⟨p, 0, none⟩) | 11 => v = .pointer (some ⟨p, 3, none⟩) | 12 => v = .slice m.sl n m.cl | 13 => True | 14 => True | 15 => v = .pointer (some ⟨p, 0, none⟩) | 16 => v = .pointer (some ⟨p, 0, none⟩) | 17 => v = .pointer (some ⟨p, 4, none⟩) | 18 => v = .slice m.st n m.ct | 19 => v = .string x | 20 => True | 21 => True | 22 => v = .pointer (some ⟨p, 0, none⟩) | 23 => v = .pointer (some ⟨p, 2, none⟩) | 24 => True | 25 => v = .pointer (some ⟨p, 0, none⟩) | 26 => v = .pointer (some ⟨p, 3, none⟩) | 27 => True | 28 => v = .pointer (some ⟨p, 0, none⟩) | 29 => v = .pointer (some ⟨p, 4, none⟩) | 30 => True | _ => True)) hV rfl, hW⟩
        · cases ho
          have e22 : s_ 22 = _ := hV 22 (by decide) (hd 22 (by kernel_rfl))
          simp only [e22] at hK ⊢
          simp only [Act.put, List.setIfInBounds_toArray, List.set_cons_zero, List.set_cons_succ] at hK
          go_simp
          all_goals first | with_reducible exact hK.out _ _ ⟨val_upd (VAL := (fun j v => match j with | 0 => v = .pointer (some ⟨p, 0, none⟩) | 1 => v = .pointer (some ⟨p, 0, none⟩) | 2 => v = .pointer (some ⟨p, 0, none⟩) | 3 => v = .pointer (some ⟨p, 0, none⟩) | 4 => v = .pointer (some ⟨p, 0, none⟩) | 5 => v = .pointer (some ⟨p, 2, none⟩) | 6 => v = .slice m.su n m.cu | 7 => True | 8 => True | 9 => v = .pointer (some ⟨p, 0, none⟩) | 10 => v = .pointer (some ⟨p, 0, none⟩) | 11 => v = .pointer (some ⟨p, 3, none⟩) | 12 => v = .slice m.sl n m.cl | 13 => True | 14 => True | 15 => v = .pointer (some ⟨p, 0, none⟩) | 16 => v = .pointer (some ⟨p, 0, none⟩) | 17 => v = .pointer (some ⟨p, 4, none⟩) | 18 => v = .slice m.st n m.ct | 19 => v = .string x | 20 => True | 21 => True | 22 => v = .pointer (some ⟨p, 0, none⟩) | 23 => v = .pointer (some ⟨p, 2, none⟩) | 24 => True | 25 => v = .pointer (some ⟨p, 0, none⟩) | 26 => v = .pointer (some ⟨p, 3, none⟩) | 27 => True | 28 => v = .pointer (some ⟨p, 0, none⟩) | 29 => v = .pointer (some ⟨p, 4, none⟩) | 30 => True | _ => True)) hV rfl, hW⟩ | exact hK.out _ _ ⟨val_upd (VAL := (fun j v => match j with | 0 => v = .pointer (some ⟨p, 0, none⟩) | 1 => v = .pointer (some ⟨p, 0, none⟩) | 2 => v = .pointer (some ⟨p, 0, none⟩) | 3 => v = .pointer (some ⟨p, 0, none⟩) | 4 => v = .pointer (some ⟨p, 0, none⟩) | 5 => v = .pointer (some ⟨p, 2, none⟩) | 6 => v = .slice m.su n m.cu | 7 => True | 8 => True | 9 => v = .pointer (some ⟨p, 0, none⟩) | 10 => v = .pointer (some ⟨p, 0, none⟩) | 11 => v = .pointer (some ⟨p, 3, none⟩) | 12 => v = .slice m.sl n m.cl | 13 => True | 14 => True | 15 => v = .pointer (some ⟨p, 0, none⟩) | 16 => v = .pointer (some ⟨p, 0, none⟩) | 17 => v = .pointer (some ⟨p, 4, none⟩) | 18 => v = .slice m.st n m.ct | 19 => v = .string x | 20 => True | 21 => True | 22 => v = .pointer (some ⟨p, 0, none⟩) | 23 => v = .pointer (some ⟨p, 2, none⟩) | 24 => True | 25 => v = .pointer (some ⟨p, 0, none⟩) | 26 => v = .pointer (some ⟨p, 3, none⟩) | 27 => True | 28 => v = .pointer (some ⟨p, 0, none⟩) | 29 => v = .pointer (some ⟨p, 4, none⟩) | 30 => True | _ => True)) hV rfl, hW⟩
        · cases ho
          simp only [Act.put, List.setIfInBounds_toArray, List.set_cons_zero, List.set_cons_succ] at hK
          have e23 : s_ 23 = _ := hV 23 (by decide) (hd 23 (by kernel_rfl))
          obtain ⟨sy, cy, ey⟩ := hW.y0 (hd 8 (by kernel_rfl))
          rw [hnU] at ey
          obtain ⟨u0, t0⟩ := hW.o0
          have z0 := hW.fz 2
          have hJ := hide (hW.s0 undef)
          rw [HPp.out] at t0 z0 hJ
          rw [ey] at hJ
          simp only [e23, ey] at hK ⊢
          clear hW
          go_simp
          exact hK.out undef _ ⟨val_upd (VAL := (fun j v => match j with | 0 => v = .pointer (some ⟨p, 0, none⟩) | 1 => v = .pointer (some ⟨p, 0, none⟩) | 2 => v = .pointer (some ⟨p, 0, none⟩) | 3 => v = .pointer (some ⟨p, 0, none⟩) | 4 => v = .pointer (some ⟨p, 0, none⟩) | 5 => v = .pointer (some ⟨p, 2, none⟩) | 6 => v = .slice m.su n m.cu | 7 => True | 8 => True | 9 => v = .pointer (some ⟨p, 0, none⟩) | 10 => v = .pointer (some ⟨p, 0, none⟩) | 11 => v = .pointer (some ⟨p, 3, none⟩) | 12 => v = .slice m.sl n m.cl | 13 => True | 14 => True | 15 => v = .pointer (some ⟨p, 0, none⟩) | 16 => v = .pointer (some ⟨p, 0, none⟩) | 17 => v = .pointer (some ⟨p, 4, none⟩) | 18 => v = .slice m.st n m.ct | 19 => v = .string x | 20 => True | 21 => True | 22 => v = .pointer (some ⟨p, 0, none⟩) | 23 => v = .pointer (some ⟨p, 2, none⟩) | 24 => True | 25 => v = .pointer (some ⟨p, 0, none⟩) | 26 => v = .pointer (some ⟨p, 3, none⟩) | 27 => True | 28 => v = .pointer (some ⟨p, 0, none⟩) | 29 => v = .pointer (some ⟨p, 4, none⟩) | 30 => True | _ => True)) hV trivial, hJ.out⟩
        · cases ho
          have e1 : s_ 1 = _ := hV 1 (by decide) (hd 1 (by kernel_rfl))
          simp only [e1] at hK ⊢
          simp only [Act.put, List.setIfInBounds_toArray, List.set_cons_zero, List.set_cons_succ] at hK
          go_simp
          all_goals first | with_reducible exact hK.out _ _ ⟨val_upd (VAL := (fun j v => match j with | 0 => v = .pointer (some ⟨p, 0, none⟩) | 1 => v = .pointer (some ⟨p, 0, none⟩) | 2 => v = .pointer (some ⟨p, 0, none⟩) | 3 => v = .pointer (some ⟨p, 0, none⟩) | 4 => v = .pointer (some ⟨p, 0, none⟩) | 5 => v = .pointer (some ⟨p, 2, none⟩) | 6 => v = .slice m.su n m.cu | 7 => True | 8 => True | 9 => v = .pointer (some ⟨p, 0, none⟩) | 10 => v = .pointer (some ⟨p, 0, none⟩) | 11 => v = .pointer (some ⟨p, 3, none⟩) | 12 => v = .slice m.sl n m.cl | 13 => True | 14 => True | 15 => v = .pointer (some ⟨p, 0, none⟩) | 16 => v = .pointer (some ⟨p, 0, none⟩) | 17 => v = .pointer (some ⟨p, 4, none⟩) | 18 => v = .slice m.st n m.ct | 19 => v = .string x | 20 => True | 21 => True | 22 => v = .pointer (some ⟨p, 0, none⟩) | 23 => v = .pointer (some ⟨p, 2, none⟩) | 24 => True | 25 => v = .pointer (some ⟨p, 0, none⟩) | 26 => v = .pointer (some ⟨p, 3, none⟩) | 27 => True | 28 => v = .pointer (some ⟨p, 0, none⟩) | 29 => v = .pointer (some ⟨p, 4, none⟩) | 30 => True | _ => True)) hV rfl, hW⟩ | exact hK.out _ _ ⟨val_upd (VAL := (fun j v => match j with | 0 => v = .pointer (some ⟨p, 0, none⟩) | 1 => v = .pointer (some ⟨p, 0, none⟩) | 2 => v = .pointer (some ⟨p, 0, none⟩) | 3 => v = .pointer (some ⟨p, 0, none⟩) | 4 => v = .pointer (some ⟨p, 0, none⟩) | 5 => v = .pointer (some ⟨p, 2, none⟩) | 6 => v = .slice m.su n m.cu | 7 => True | 8 => True | 9 => v = .pointer (some ⟨p, 0, none⟩) | 10 => v = .pointer (some ⟨p, 0, none⟩) | 11 => v = .pointer (some ⟨p, 3, none⟩) | 12 => v = .slice m.sl n m.cl | 13 => True | 14 => True | 15 => v = .pointer (some ⟨p, 0, none⟩) | 16 => v = .pointer (some ⟨p, 0, none⟩) | 17 => v = .pointer (some ⟨p, 4, none⟩) | 18 => v = .slice m.st n m.ct | 19 => v = .string x | 20 => True | 21 => True | 22 => v = .pointer (some ⟨p, 0, none⟩) | 23 => v = .pointer (some ⟨p, 2, none⟩) | 24 => True | 25 => v = .pointer (some ⟨p, 0, none⟩) | 26 => v = .pointer (some ⟨p, 3, none⟩) | 27 => True | 28 => v = .pointer (some ⟨p, 0, none⟩) | 29 => v = .pointer (some ⟨p, 4, none⟩) | 30 => True | _ => True)) hV rfl, hW⟩
        · cases ho
          have e25 : s_ 25 = _ := hV 25 (by decide) (hd 25 (by kernel_rfl))
          simp only [e25] at hK ⊢
          simp only [Act.put, List.setIfInBounds_toArray, List.set_cons_zero, List.set_cons_succ] at hK
          go_simp
          all_goals first | with_reducible exact hK.out _ _ ⟨val_upd (VAL := (fun j v => match j with | 0 => v = .pointer (some ⟨p, 0, none⟩) | 1 => v = .pointer (some ⟨p, 0, none⟩) | 2 => v = .pointer (some ⟨p, 0, none⟩) | 3 => v = .pointer (some ⟨p, 0, none⟩) | 4 => v = .pointer (some ⟨p, 0, none⟩) | 5 => v = .pointer (some ⟨p, 2, none⟩) | 6 => v = .slice m.su n m.cu | 7 => True | 8 => True | 9 => v = .pointer (some ⟨p, 0, none⟩) | 10 => v = .pointer (some ⟨p, 0, none⟩) | 11 => v = .pointer (some ⟨p, 3, none⟩) | 12 => v = .slice m.sl n m.cl | 13 => True | 14 => True | 15 => v = .pointer (some ⟨p, 0, none⟩) | 16 => v = .pointer (some ⟨p, 0, none⟩) | 17 => v = .pointer (some ⟨p, 4, none⟩) | 18 => v = .slice m.st n m.ct | 19 => v = .string x | 20 => True | 21 => True | 22 => v = .pointer (some ⟨p, 0, none⟩) | 23 => v = .pointer (some ⟨p, 2, none⟩) | 24 => True | 25 => v = .pointer (some ⟨p, 0, none⟩) | 26 => v = .pointer (some ⟨p, 3, none⟩) | 27 => True | 28 => v = .pointer (some ⟨p, 0, none⟩) | 29 => v = .pointer (some ⟨p, 4, none⟩) | 30 => True | _ => True)) hV rfl, hW⟩ | exact hK.out _ _ ⟨val_upd (VAL := (fun j v => match j with | 0 => v = .pointer (some ⟨p, 0, none⟩) | 1 => v = .pointer (some ⟨p, 0, none⟩) | 2 => v = .pointer (some ⟨p, 0, none⟩) | 3 => v = .pointer (some ⟨p, 0, none⟩) | 4 => v = .pointer (some ⟨p, 0, none⟩) | 5 => v = .pointer (some ⟨p, 2, none⟩) | 6 => v = .slice m.su n m.cu | 7 => True | 8 => True | 9 => v = .pointer (some ⟨p, 0, none⟩) | 10 => v = .pointer (some ⟨p, 0, none⟩) | 11 => v = .pointer (some ⟨p, 3, none⟩) | 12 => v = .slice m.sl n m.cl | 13 => True | 14 => True | 15 => v = .pointer (some ⟨p, 0, none⟩) | 16 => v = .pointer (some ⟨p, 0, none⟩) | 17 => v = .pointer (some ⟨p, 4, none⟩) | 18 => v = .slice m.st n m.ct | 19 => v = .string x | 20 => True | 21 => True | 22 => v = .pointer (some ⟨p, 0, none⟩) | 23 => v = .pointer (some ⟨p, 2, none⟩) | 24 => True | 25 => v = .pointer (some ⟨p, 0, none⟩) | 26 => v = .pointer (some ⟨p, 3, none⟩) | 27 => True | 28 => v = .pointer (some ⟨p, 0, none⟩) | 29 => v = .pointer (some ⟨p, 4, none⟩) | 30 => True | _ => True)) hV rfl, hW⟩
        · cases ho
          simp only [Act.put, List.setIfInBounds_toArray, List.set_cons_zero, List.set_cons_succ] at hK
          have e26 : s_ 26 = _ := hV 26 (by decide) (hd 26 (by kernel_rfl))
          obtain ⟨sy, cy, ey⟩ := hW.y1 (hd 14 (by kernel_rfl))
          rw [hnL] at ey
          obtain ⟨u0, t0⟩ := hW.o1
          have z0 := hW.fz 3
          have hJ := hide (hW.s1 undef)
          rw [HPp.out] at t0 z0 hJ
          rw [ey] at hJ
          simp only [e26, ey] at hK ⊢
          clear hW
          go_simp
          exact hK.out undef _ ⟨val_upd (VAL := (fun j v => match j with | 0 => v = .pointer (some ⟨p, 0, none⟩) | 1 => v = .pointer (some ⟨p, 0, none⟩) | 2 => v = .pointer (some ⟨p, 0, none⟩) | 3 => v = .pointer (some ⟨p, 0, none⟩) | 4 => v = .pointer (some ⟨p, 0, none⟩) | 5 => v = .pointer (some ⟨p, 2, none⟩) | 6 => v = .slice m.su n m.cu | 7 => True | 8 => True | 9 => v = .pointer (some ⟨p, 0, none⟩) | 10 => v = .pointer (some ⟨p, 0, none⟩) | 11 => v = .pointer (some ⟨p, 3, none⟩) | 12 => v = .slice m.sl n m.cl | 13 => True | 14 => True | 15 => v = .pointer (some ⟨p, 0, none⟩) | 16 => v = .pointer (some ⟨p, 0, none⟩) | 17 => v = .pointer (some ⟨p, 4, none⟩) | 18 => v = .slice m.st n m.ct | 19 => v = .string x | 20 => True | 21 => True | 22 => v = .pointer (some ⟨p, 0, none⟩) | 23 => v = .pointer (some ⟨p, 2, none⟩) | 24 => True | 25 => v = .pointer (some ⟨p, 0, none⟩) | 26 => v = .pointer (some ⟨p, 3, none⟩) | 27 => True | 28 => v = .pointer (some ⟨p, 0, none⟩) | 29 => v = .pointer (some ⟨p, 4, none⟩) | 30 => True | _ => True)) hV trivial, hJ.out⟩
        · cases ho
          have e2 : s_ 2 = _ := hV 2 (by decide) (hd 2 (by kernel_rfl))
          simp only [e2] at hK ⊢
          simp only [Act.put, List.setIfInBounds_toArray, List.set_cons_zero, List.set_cons_succ] at hK
          go_simp
          all_goals first | with_reducible exact hK.out _ _ ⟨val_upd (VAL := (fun j v => match j with | 0 => v = .pointer (some ⟨p, 0, none⟩) | 1 => v = .pointer (some ⟨p, 0, none⟩) | 2 => v = .pointer (some ⟨p, 0, none⟩) | 3 => v = .pointer (some ⟨p, 0, none⟩) | 4 => v = .pointer (some ⟨p, 0, none⟩) | 5 => v = .pointer (some ⟨p, 2, none⟩) | 6 => v = .slice m.su n m.cu | 7 => True | 8 => True | 9 => v = .pointer (some ⟨p, 0, none⟩) | 10 => v = .pointer (some ⟨p, 0, none⟩) | 11 => v = .pointer (some ⟨p, 3, none⟩) | 12 => v = .slice m.sl n m.cl | 13 => True | 14 => True | 15 => v = .pointer (some ⟨p, 0, none⟩) | 16 => v = .pointer (some ⟨p, 0, none⟩) | 17 => v = .pointer (some ⟨p, 4, none⟩) | 18 => v = .slice m.st n m.ct | 19 => v = .string x | 20 => True | 21 => True | 22 => v = .pointer (some ⟨p, 0, none⟩) | 23 => v = .pointer (some ⟨p, 2, none⟩) | 24 => True | 25 => v = .pointer (some ⟨p, 0, none⟩) | 26 => v = .pointer (some ⟨p, 3, none⟩) | 27 => True | 28 => v = .pointer (some ⟨p, 0, none⟩) | 29 => v = .pointer (some ⟨p, 4, none⟩) | 30 => True | _ => True)) hV rfl, hW⟩ | exact hK.out _ _ ⟨val_upd (VAL := (fun j v => match j with | 0 => v = .pointer (some ⟨p, 0, none⟩) | 1 => v = .pointer (some ⟨p, 0, none⟩) | 2 => v = .pointer (some ⟨p, 0, none⟩) | 3 => v = .pointer (some ⟨p, 0, none⟩) | 4 => v = .pointer (some ⟨p, 0, none⟩) | 5 => v = .pointer (some ⟨p, 2, none⟩) | 6 => v = .slice m.su n m.cu | 7 => True | 8 => True | 9 => v = .pointer (some ⟨p, 0, none⟩) | 10 => v = .pointer (some ⟨p, 0, none⟩) | 11 => v = .pointer (some ⟨p, 3, none⟩) | 12 => v = .slice m.sl n m.cl | 13 => True | 14 => True | 15 => v = .pointer (some ⟨p, 0, none⟩) | 16 => v = .pointer (some ⟨p, 0, none⟩) | 17 => v = .pointer (some ⟨p, 4, none⟩) | 18 => v = .slice m.st n m.ct | 19 => v = .string x | 20 => True | 21 => True | 22 => v = .pointer (some ⟨p, 0, none⟩) | 23 => v = .pointer (some ⟨p, 2, none⟩) | 24 => True | 25 => v = .pointer (some ⟨p, 0, none⟩) | 26 => v = .pointer (some ⟨p, 3, none⟩) | 27 => True | 28 => v = .pointer (some ⟨p, 0, none⟩) | 29 => v = .pointer (some ⟨p, 4, none⟩) | 30 => True | _ => True)) hV rfl, hW⟩
        · cases ho
          have e28 : s_ 28 = _ := hV 28 (by decide) (hd 28 (by kernel_rfl))
          simp only [e28] at hK ⊢
          simp only [Act.put, List.setIfInBounds_toArray, List.set_cons_zero, List.set_cons_succ] at hK
          go_simp
          all_goals first | with_reducible exact hK.out _ _ ⟨val_upd (VAL := (fun j v => match j with | 0 => v = .pointer (some ⟨p, 0, none⟩) | 1 => v = .pointer (some ⟨p, 0, none⟩) | 2 => v = .pointer (some ⟨p, 0, none⟩) | 3 => v = .pointer (some ⟨p, 0, none⟩) | 4 => v = .pointer (some ⟨p, 0, none⟩) | 5 => v = .pointer (some ⟨p, 2, none⟩) | 6 => v = .slice m.su n m.cu | 7 => True | 8 => True | 9 => v = .pointer (some ⟨p, 0, none⟩) | 10 => v = .pointer (some ⟨p, 0, none⟩) | 11 => v = .pointer (some ⟨p, 3, none⟩) | 12 => v = .slice m.sl n m.cl | 13 => True | 14 => True | 15 => v = .pointer (some ⟨p, 0, none⟩) | 16 => v = .pointer (some ⟨p, 0, none⟩) | 17 => v = .pointer (some ⟨p, 4, none⟩) | 18 => v = .slice m.st n m.ct | 19 => v = .string x | 20 => True | 21 => True | 22 => v = .pointer (some ⟨p, 0, none⟩) | 23 => v = .pointer (some ⟨p, 2, none⟩) | 24 => True | 25 => v = .pointer (some ⟨p, 0, none⟩) | 26 => v = .pointer (some ⟨p, 3, none⟩) | 27 => True | 28 => v = .pointer (some ⟨p, 0, none⟩) | 29 => v = .pointer (some ⟨p, 4, none⟩) | 30 => True | _ => True)) hV rfl, hW⟩ | exact hK.out _ _ ⟨val_upd (VAL := (fun j v => match j with | 0 => v = .pointer (some ⟨p, 0, none⟩) | 1 => v = .pointer (some ⟨p, 0, none⟩) | 2 => v = .pointer (some ⟨p, 0, none⟩) | 3 => v = .pointer (some ⟨p, 0, none⟩) | 4 => v = .pointer (some ⟨p, 0, none⟩) | 5 => v = .pointer (some ⟨p, 2, none⟩) | 6 => v = .slice m.su n m.cu | 7 => True | 8 => True | 9 => v = .pointer (some ⟨p, 0, none⟩) | 10 => v = .pointer (some ⟨p, 0, none⟩) | 11 => v = .pointer (some ⟨p, 3, none⟩) | 12 => v = .slice m.sl n m.cl | 13 => True | 14 => True | 15 => v = .pointer (some ⟨p, 0, none⟩) | 16 => v = .pointer (some ⟨p, 0, none⟩) | 17 => v = .pointer (some ⟨p, 4, none⟩) | 18 => v = .slice m.st n m.ct | 19 => v = .string x | 20 => True | 21 => True | 22 => v = .pointer (some ⟨p, 0, none⟩) | 23 => v = .pointer (some ⟨p, 2, none⟩) | 24 => True | 25 => v = .pointer (some ⟨p, 0, none⟩) | 26 => v = .pointer (some ⟨p, 3, none⟩) | 27 => True | 28 => v = .pointer (some ⟨p, 0, none⟩) | 29 => v = .pointer (some ⟨p, 4, none⟩) | 30 => True | _ => True)) hV rfl, hW⟩
        · cases ho
          simp only [Act.put, List.setIfInBounds_toArray, List.set_cons_zero, List.set_cons_succ] at hK
          have e29 : s_ 29 = _ := hV 29 (by decide) (hd 29 (by kernel_rfl))
          obtain ⟨sy, cy, ey⟩ := hW.y2 (hd 21 (by kernel_rfl))
          rw [hnT] at ey
          obtain ⟨u0, t0⟩ := hW.o2
          have z0 := hW.fz 4
          have hJ := hide (hW.s2 undef)
          rw [HPp.out] at t0 z0 hJ
          rw [ey] at hJ
          simp only [e29, ey] at hK ⊢
          clear hW
          go_simp
          exact hK.out undef _ ⟨val_upd (VAL := (fun j v => match j with | 0 => v = .pointer (some ⟨p, 0, none⟩) | 1 => v = .pointer (some ⟨p, 0, none⟩) | 2 => v = .pointer (some ⟨p, 0, none⟩) | 3 => v = .pointer (some ⟨p, 0, none⟩) | 4 => v = .pointer (some ⟨p, 0, none⟩) | 5 => v = .pointer (some ⟨p, 2, none⟩) | 6 => v = .slice m.su n m.cu | 7 => True | 8 => True | 9 => v = .pointer (some ⟨p, 0, none⟩) | 10 => v = .pointer (some ⟨p, 0, none⟩) | 11 => v = .pointer (some ⟨p, 3, none⟩) | 12 => v = .slice m.sl n m.cl | 13 => True | 14 => True | 15 => v = .pointer (some ⟨p, 0, none⟩) | 16 => v = .pointer (some ⟨p, 0, none⟩) | 17 => v = .pointer (some ⟨p, 4, none⟩) | 18 => v = .slice m.st n m.ct | 19 => v = .string x | 20 => True | 21 => True | 22 => v = .pointer (some ⟨p, 0, none⟩) | 23 => v = .pointer (some ⟨p, 2, none⟩) | 24 => True | 25 => v = .pointer (some ⟨p, 0, none⟩) | 26 => v = .pointer (some ⟨p, 3, none⟩) | 27 => True | 28 => v = .pointer (some ⟨p, 0, none⟩) | 29 => v = .pointer (some ⟨p, 4, none⟩) | 30 => True | _ => True)) hV trivial, hJ.out⟩
      case ht_w7 =>
        intro s_ W hj
        obtain ⟨hV, hW⟩ := hj
        have e0 : s_ 0 = _ := hV 0 (by decide) rfl
        have e1 : s_ 1 = _ := hV 1 (by decide) rfl
        have e2 : s_ 2 = _ := hV 2 (by decide) rfl
        have e3 : s_ 3 = _ := hV 3 (by decide) rfl
        have e4 : s_ 4 = _ := hV 4 (by decide) rfl
        have e5 : s_ 5 = _ := hV 5 (by decide) rfl
        have e6 : s_ 6 = _ := hV 6 (by decide) rfl
        have e9 : s_ 9 = _ := hV 9 (by decide) rfl
        have e10 : s_ 10 = _ := hV 10 (by decide) rfl
        have e11 : s_ 11 = _ := hV 11 (by decide) rfl
        have e12 : s_ 12 = _ := hV 12 (by decide) rfl
        have e15 : s_ 15 = _ := hV 15 (by decide) rfl
        have e16 : s_ 16 = _ := hV 16 (by decide) rfl
        have e17 : s_ 17 = _ := hV 17 (by decide) rfl
        have e18 : s_ 18 = _ := hV 18 (by decide) rfl
        have e19 : s_ 19 = _ := hV 19 (by decide) rfl
        have e22 : s_ 22 = _ := hV 22 (by decide) rfl
        have e23 : s_ 23 = _ := hV 23 (by decide) rfl
        have e25 : s_ 25 = _ := hV 25 (by decide) rfl
        have e26 : s_ 26 = _ := hV 26 (by decide) rfl
        have e28 : s_ 28 = _ := hV 28 (by decide) rfl
        have e29 : s_ 29 = _ := hV 29 (by decide) rfl
        simp only [e0, e1, e2, e3, e4, e5, e6, e9, e10, e11, e12, e15, e16, e17, e18, e19, e22, e23, e25, e26, e28, e29]
        clear hV e0 e1 e2 e3 e4 e5 e6 e9 e10 e11 e12 e15 e16 e17 e18 e19 e22 e23 e25 e26 e28 e29
        obtain ⟨mA, hpA, hSA, f7⟩ := JJ.done hW hSB.out (by rw [hnL, hnU]) (by rw [hnT, hnU]) (fun _ _ => rfl)
        clear hW
        have hqw3 : q < w3.heap.size := World.block_lt_of_cell? _ _ y0
        replace hq3 : ∀ o, W.frozen? ⟨q, o, none⟩ = false := fun o => (heap_frozen_eq (f7.block q hqw3 hnq) o).trans (hq3 o)
        replace y0 := f7.cell hnq y0
        replace y1 := f7.cell hnq y1
        have hFA := hide (hF3.out.trans f7)
        have hqA : q ∉ mA.F := f7.away hqw3 hnq
        have HPA : Hid (mA.p = p) := hpA.trans HPp.out
        obtain ⟨WA, hWA⟩ : ∃ x, x = W := ⟨_, rfl⟩
        obtain ⟨SA, hSAe⟩ : ∃ SA : Ss, SA = { SB with U := SB.U ++ [0], L := SB.L ++ [false], T := SB.T ++ [.string x] } := ⟨_, rfl⟩
        rw [← hWA] at hSA hFA y0 y1 hq3 ⊢
        rw [← hSAe] at hSA
        replace hSA := hide hSA
        obtain ⟨u, hu0⟩ : ∃ u : Nat, u = 0 := ⟨_, rfl⟩
        obtain ⟨n1, hn1⟩ : ∃ n1 : Nat, n1 = n + 1 := ⟨_, rfl⟩
        have hul : u < 4294967295 := by omega
        have hks : k = s.U.length := HKE.out.trans HN.out.symm
        have hkl0 : k = SB.U.length := HKE.out.trans hnU.symm
        have hu : SA.U[k]? = some u := by rw [hSAe, hkl0, hu0]; simp
        have HLA : Hid (SA.ln = s.ln) := by rw [hSAe, hSBe]; rfl
        have HE : Hid ({ S9 { SA with U := SA.U.set k (u + 1) } k (.string x) true true with ln := s.ln + 1 } = putS s k (.string x)) := by
          rw [hSAe, hSBe, hks, hu0]; exact put_new HLL.out HTL.out
        have HRET : Hid (((s.U.getD k 0 + 1 : Nat) : Int) = ((u + 1 : Nat) : Int)) := by rw [hu0, hks, List.getD_eq_getElem?_getD, List.getElem?_eq_none (Nat.le_refl _)]; rfl
        replace hnU : SA.U.length = n1 := by rw [hSAe, hn1, ← hnU]; simp
        replace hnL : SA.L.length = n1 := by rw [hSAe, hn1, ← hnL]; simp
        replace hnT : SA.T.length = n1 := by rw [hSAe, hn1, ← hnT]; simp
        have hkn1 : k < n1 := by have := HKE.out; omega
        have hn116 : n1 ≤ 16384 := by omega
        clear hWA hSAe hF3 hSBe hSB hkn hks hkl0 hu0 hn1 f7 hpA hqw3
        have hkn := hkn1
        obtain ⟨gu, hgu, _, _, _, _, fzu, _⟩ := hSA.out.ru.at (by rw [hnU]; omega)
        obtain ⟨gl, hgl, _⟩ := hSA.out.rl.at (by rw [hnL]; omega)
        obtain ⟨gt, hgt, _⟩ := hSA.out.rt.at (by rw [hnT]; omega)
        have hguq : q ≠ gu := fun e => hqA (by rw [e]; exact Sm.uF hgu)
        have hglq : q ≠ gl := fun e => hqA (by rw [e]; exact Sm.lF hgl)
        have hgtq : q ≠ gt := fun e => hqA (by rw [e]; exact Sm.tF hgt)
        have c2 := hSA.out.c2
        have c3 := hSA.out.c3
        have c4 := hSA.out.c4
        rw [hgu, hnU, HPA.out] at c2
        have xu : WA.cell? ⟨gu, k, none⟩ = some (.int .u32 (u : Int)) := by
          have := hSA.out.ru
          rw [hgu] at this
          exact this.cell (by rw [uRow_get, hu]; rfl)
        have f8 := fzu k
        have hkz8 : (k : Int) < (n1 : Int) := by omega
        have ew8 : IntKind.wrap .u32 ((u : Int) + 1) = (u : Int) + 1 := by rw [IntKind.wrap_u32]; omega
        have hS8 := hide (hSA.out.setU hgu (by rw [hnU]; exact hkn) (u + 1))
        have hF8 := hide (hFA.out.set (hFA.out.in (Sm.uF hgu)) k (.int .u32 ((u + 1 : Nat) : Int)))
        rw [show ((u + 1 : Nat) : Int) = (u : Int) + 1 by omega] at hS8 hF8
        replace y0 := (set_block (W := WA) (n := gu) (o := k) (v := .int .u32 ((u : Int) + 1)) hguq (o' := 0)).trans y0
        replace y1 := (set_block (W := WA) (n := gu) (o := k) (v := .int .u32 ((u : Int) + 1)) hguq (o' := 1)).trans y1
        replace hq3 : ∀ o, (WA.setCell ⟨gu, k, none⟩ (.int .u32 ((u : Int) + 1))).frozen? ⟨q, o, none⟩ = false := fun o => (World.frozen?_setCell _ _ _ _).trans (hq3 o)
        clear fzu hSA hFA
        go_upto_region 9 with (fail)
        obtain ⟨W8, hW8⟩ : ∃ x, x = WA.setCell ⟨gu, k, none⟩ (.int .u32 ((u : Int) + 1)) := ⟨_, rfl⟩
        rw [← hW8] at hS8 hF8 y0 y1 hq3 ⊢
        obtain ⟨S8, hS8e⟩ : ∃ S8, S8 = { SA with U := SA.U.set k (u + 1) } := ⟨_, rfl⟩
        rw [← hS8e] at hS8
        have HU1 : Hid (S8.U[k]? = some (u + 1)) := by
          rw [hS8e]
          show (SA.U.set k (u + 1))[k]? = _
          exact List.getElem?_set_self (by rw [hnU]; exact hkn)
        have HLN : Hid (S8.ln = s.ln) := by rw [hS8e]; exact HLA.out
        have HE8 : Hid ({ S9 S8 k (.string x) true true with ln := s.ln + 1 } = putS s k (.string x)) := by rw [hS8e]; exact HE.out
        replace hnL : S8.L.length = n1 := by rw [hS8e]; exact hnL
        replace hnT : S8.T.length = n1 := by rw [hS8e]; exact hnT
        clear hS8e hW8 hnU hu c2 xu f8
        refine wp_region_inv 15 rfl (fun L s_ W => (∀ j, j < 15 → L j = true → (fun j v => match j with | 0 => v = .pointer (some ⟨p, 0, none⟩) | 1 => v = .pointer (some ⟨p, 0, none⟩) | 2 => v = .pointer (some ⟨p, 3, none⟩) | 3 => v = .slice (some ⟨gl, 0, none⟩) n1 mA.cl | 4 => v = .int .i64 (k : Int) | 5 => v = .pointer (some ⟨p, 0, none⟩) | 6 => v = .pointer (some ⟨p, 0, none⟩) | 7 => v = .pointer (some ⟨p, 4, none⟩) | 8 => v = .slice (some ⟨gt, 0, none⟩) n1 mA.ct | 9 => v = .int .i64 (k : Int) | 10 => v = .string x | 11 => v = .pointer (some ⟨gl, k, none⟩) | 12 => True | 13 => v = .pointer (some ⟨gt, k, none⟩) | 14 => True | _ => True) j (s_ j)) ∧ (Sto W mA (S9 S8 k (.string x) (L 12) (L 14)) ∧ Fr m.F mA.F w W ∧ W.cell? ⟨q, 0, none⟩ = some (.int .u32 0) ∧ W.cell? ⟨q, 1, none⟩ = some (.int .u32 0) ∧ ∀ o, W.frozen? ⟨q, o, none⟩ = false)) ?A_w9n1 (by kernel_rfl) (by kernel_rfl) ?hA_w9n1 ?h0_w9n1 ?hq_w9n1 ?hJ_w9n1 ?ht_w9n1
        case hA_w9n1 =>
          intro s_
          simp only [putL, dstO, Act.put, List.getElem?_toArray, List.getElem?_cons_zero, List.getElem?_cons_succ, Option.bind_some, List.setIfInBounds_toArray, List.set_cons_zero, List.set_cons_succ, if_true]
          all_goals exact rfl
        case h0_w9n1 => exact ⟨fun j _ h => (by cases h), ⟨hS8.out.bel (bl_drew (bl_refl _)), hF8.out.trans (Fr.of_bel (bl_drew (bl_refl _))), keep (bl_drew (bl_refl _)) y0, keep (bl_drew (bl_refl _)) y1, hq3⟩⟩
        case hJ_w9n1 =>
          intro L L' s_ W h hj
          refine ⟨fun j hj2 hl => hj.1 j hj2 ((h j hj2).trans hl), ?_⟩
          have hj2 := hj.2
          rw [h 12 (by decide), h 14 (by decide)] at hj2
          exact hj2
        case hq_w9n1 =>
          intro i o hi ho L s_ W hLi hd hsh hj K hK
          obtain ⟨hV, hW⟩ := hj
          rcases (show i = 0 ∨ i = 1 ∨ i = 2 ∨ i = 3 ∨ i = 4 ∨ i = 5 ∨ i = 6 ∨ i = 7 ∨ i = 8 ∨ i = 9 ∨ i = 10 ∨ i = 11 ∨ i = 12 ∨ i = 13 ∨ i = 14 by omega) with rfl | rfl | rfl | rfl | rfl | rfl | rfl | rfl | rfl | rfl | rfl | rfl | rfl | rfl | rfl
          · cases ho
            simp only [Act.put, List.setIfInBounds_toArray, List.set_cons_zero, List.set_cons_succ] at hK
            go_simp
            all_goals first | with_reducible exact hK.out _ _ ⟨val_upd (VAL := (fun j v => match j with | 0 => v = .pointer (some ⟨p, 0, none⟩) | 1 => v = .pointer (some ⟨p, 0, none⟩) | 2 => v = .pointer (some ⟨p, 3, none⟩) | 3 => v = .slice (some ⟨gl, 0, none⟩) n1 mA.cl | 4 => v = .int .i64 (k : Int) | 5 => v = .pointer (some ⟨p, 0, none⟩) | 6 => v = .pointer (some ⟨p, 0, none⟩) | 7 => v = .pointer (some ⟨p, 4, none⟩) | 8 => v = .slice (some ⟨gt, 0, none⟩) n1 mA.ct | 9 => v = .int .i64 (k : Int) | 10 => v = .string x | 11 => v = .pointer (some ⟨gl, k, none⟩) | 12 => True | 13 => v = .pointer (some ⟨gt, k, none⟩) | 14 => True | _ => True)) hV rfl, hW⟩ | exact hK.out _ _ ⟨val_upd (VAL := (fun j v => match j with | 0 => v = .pointer (some ⟨p, 0, none⟩) | 1 => v = .pointer (some ⟨p, 0, none⟩) | 2 => v = .pointer (some ⟨p, 3, none⟩) | 3 => v = .slice (some ⟨gl, 0, none⟩) n1 mA.cl | 4 => v = .int .i64 (k : Int) | 5 => v = .pointer (some ⟨p, 0, none⟩) | 6 => v = .pointer (some ⟨p, 0, none⟩) | 7 => v = .pointer (some ⟨p, 4, none⟩) | 8 => v = .slice (some ⟨gt, 0, none⟩) n1 mA.ct | 9 => v = .int .i64 (k : Int) | 10 => v = .string x | 11 => v = .pointer (some ⟨gl, k, none⟩) | 12 => True | 13 => v = .pointer (some ⟨gt, k, none⟩) | 14 => True | _ => True)) hV rfl, hW⟩
          · cases ho
            have e0 : s_ 0 = _ := hV 0 (by decide) (hd 0 (by kernel_rfl))
            simp only [e0] at hK ⊢
            simp only [Act.put, List.setIfInBounds_toArray, List.set_cons_zero, List.set_cons_succ] at hK
            go_simp
            all_goals first | with_reducible exact hK.out _ _ ⟨val_upd (VAL := (fun j v => match j with | 0 => v = .pointer (some ⟨p, 0, none⟩) | 1 => v = .pointer (some ⟨p, 0, none⟩) | 2 => v = .pointer (some ⟨p, 3, none⟩) | 3 => v = .slice (some ⟨gl, 0, none⟩) n1 mA.cl | 4 => v = .int .i64 (k : Int) | 5 => v = .pointer (some ⟨p, 0, none⟩) | 6 => v = .pointer (some ⟨p, 0, none⟩) | 7 => v = .pointer (some ⟨p, 4, none⟩) | 8 => v = .slice (some ⟨gt, 0, none⟩) n1 mA.ct | 9 => v = .int .i64 (k : Int) | 10 => v = .string x | 11 => v = .pointer (some ⟨gl, k, none⟩) | 12 => True | 13 => v = .pointer (some ⟨gt, k, none⟩) | 14 => True | _ => True)) hV rfl, hW⟩ | exact hK.out _ _ ⟨val_upd (VAL := (fun j v => match j with | 0 => v = .pointer (some ⟨p, 0, none⟩) | 1 => v = .pointer (some ⟨p, 0, none⟩) | 2 => v = .pointer (some ⟨p, 3, none⟩) | 3 => v = .slice (some ⟨gl, 0, none⟩) n1 mA.cl | 4 => v = .int .i64 (k : Int) | 5 => v = .pointer (some ⟨p, 0, none⟩) | 6 => v = .pointer (some ⟨p, 0, none⟩) | 7 => v = .pointer (some ⟨p, 4, none⟩) | 8 => v = .slice (some ⟨gt, 0, none⟩) n1 mA.ct | 9 => v = .int .i64 (k : Int) | 10 => v = .string x | 11 => v = .pointer (some ⟨gl, k, none⟩) | 12 => True | 13 => v = .pointer (some ⟨gt, k, none⟩) | 14 => True | _ => True)) hV rfl, hW⟩
          · cases ho
            have e1 : s_ 1 = _ := hV 1 (by decide) (hd 1 (by kernel_rfl))
            simp only [e1] at hK ⊢
            simp only [Act.put, List.setIfInBounds_toArray, List.set_cons_zero, List.set_cons_succ] at hK
            go_simp
            all_goals first | with_reducible exact hK.out _ _ ⟨val_upd (VAL := (fun j v => match j with | 0 => v = .pointer (some ⟨p, 0, none⟩) | 1 => v = .pointer (some ⟨p, 0, none⟩) | 2 => v = .pointer (some ⟨p, 3, none⟩) | 3 => v = .slice (some ⟨gl, 0, none⟩) n1 mA.cl | 4 => v = .int .i64 (k : Int) | 5 => v = .pointer (some ⟨p, 0, none⟩) | 6 => v = .pointer (some ⟨p, 0, none⟩) | 7 => v = .pointer (some ⟨p, 4, none⟩) | 8 => v = .slice (some ⟨gt, 0, none⟩) n1 mA.ct | 9 => v = .int .i64 (k : Int) | 10 => v = .string x | 11 => v = .pointer (some ⟨gl, k, none⟩) | 12 => True | 13 => v = .pointer (some ⟨gt, k, none⟩) | 14 => True | _ => True)) hV rfl, hW⟩ | exact hK.out _ _ ⟨val_upd (VAL := (fun j v => match j with | 0 => v = .pointer (some ⟨p, 0, none⟩) | 1 => v = .pointer (some ⟨p, 0, none⟩) | 2 => v = .pointer (some ⟨p, 3, none⟩) | 3 => v = .slice (some ⟨gl, 0, none⟩) n1 mA.cl | 4 => v = .int .i64 (k : Int) | 5 => v = .pointer (some ⟨p, 0, none⟩) | 6 => v = .pointer (some ⟨p, 0, none⟩) | 7 => v = .pointer (some ⟨p, 4, none⟩) | 8 => v = .slice (some ⟨gt, 0, none⟩) n1 mA.ct | 9 => v = .int .i64 (k : Int) | 10 => v = .string x | 11 => v = .pointer (some ⟨gl, k, none⟩) | 12 => True | 13 => v = .pointer (some ⟨gt, k, none⟩) | 14 => True | _ => True)) hV rfl, hW⟩
          · cases ho
            have e2 : s_ 2 = _ := hV 2 (by decide) (hd 2 (by kernel_rfl))
            simp only [e2] at hK ⊢
            simp only [Act.put, List.setIfInBounds_toArray, List.set_cons_zero, List.set_cons_succ] at hK
            have t0 := S9.c3 hW.1
            rw [hgl, hnL, HPA.out] at t0
            go_simp
            all_goals first | with_reducible exact hK.out _ _ ⟨val_upd (VAL := (fun j v => match j with | 0 => v = .pointer (some ⟨p, 0, none⟩) | 1 => v = .pointer (some ⟨p, 0, none⟩) | 2 => v = .pointer (some ⟨p, 3, none⟩) | 3 => v = .slice (some ⟨gl, 0, none⟩) n1 mA.cl | 4 => v = .int .i64 (k : Int) | 5 => v = .pointer (some ⟨p, 0, none⟩) | 6 => v = .pointer (some ⟨p, 0, none⟩) | 7 => v = .pointer (some ⟨p, 4, none⟩) | 8 => v = .slice (some ⟨gt, 0, none⟩) n1 mA.ct | 9 => v = .int .i64 (k : Int) | 10 => v = .string x | 11 => v = .pointer (some ⟨gl, k, none⟩) | 12 => True | 13 => v = .pointer (some ⟨gt, k, none⟩) | 14 => True | _ => True)) hV rfl, hW⟩ | exact hK.out _ _ ⟨val_upd (VAL := (fun j v => match j with | 0 => v = .pointer (some ⟨p, 0, none⟩) | 1 => v = .pointer (some ⟨p, 0, none⟩) | 2 => v = .pointer (some ⟨p, 3, none⟩) | 3 => v = .slice (some ⟨gl, 0, none⟩) n1 mA.cl | 4 => v = .int .i64 (k : Int) | 5 => v = .pointer (some ⟨p, 0, none⟩) | 6 => v = .pointer (some ⟨p, 0, none⟩) | 7 => v = .pointer (some ⟨p, 4, none⟩) | 8 => v = .slice (some ⟨gt, 0, none⟩) n1 mA.ct | 9 => v = .int .i64 (k : Int) | 10 => v = .string x | 11 => v = .pointer (some ⟨gl, k, none⟩) | 12 => True | 13 => v = .pointer (some ⟨gt, k, none⟩) | 14 => True | _ => True)) hV rfl, hW⟩
          · cases ho
            simp only [Act.put, List.setIfInBounds_toArray, List.set_cons_zero, List.set_cons_succ] at hK
            go_simp
            all_goals first | with_reducible exact hK.out _ _ ⟨val_upd (VAL := (fun j v => match j with | 0 => v = .pointer (some ⟨p, 0, none⟩) | 1 => v = .pointer (some ⟨p, 0, none⟩) | 2 => v = .pointer (some ⟨p, 3, none⟩) | 3 => v = .slice (some ⟨gl, 0, none⟩) n1 mA.cl | 4 => v = .int .i64 (k : Int) | 5 => v = .pointer (some ⟨p, 0, none⟩) | 6 => v = .pointer (some ⟨p, 0, none⟩) | 7 => v = .pointer (some ⟨p, 4, none⟩) | 8 => v = .slice (some ⟨gt, 0, none⟩) n1 mA.ct | 9 => v = .int .i64 (k : Int) | 10 => v = .string x | 11 => v = .pointer (some ⟨gl, k, none⟩) | 12 => True | 13 => v = .pointer (some ⟨gt, k, none⟩) | 14 => True | _ => True)) hV rfl, hW⟩ | exact hK.out _ _ ⟨val_upd (VAL := (fun j v => match j with | 0 => v = .pointer (some ⟨p, 0, none⟩) | 1 => v = .pointer (some ⟨p, 0, none⟩) | 2 => v = .pointer (some ⟨p, 3, none⟩) | 3 => v = .slice (some ⟨gl, 0, none⟩) n1 mA.cl | 4 => v = .int .i64 (k : Int) | 5 => v = .pointer (some ⟨p, 0, none⟩) | 6 => v = .pointer (some ⟨p, 0, none⟩) | 7 => v = .pointer (some ⟨p, 4, none⟩) | 8 => v = .slice (some ⟨gt, 0, none⟩) n1 mA.ct | 9 => v = .int .i64 (k : Int) | 10 => v = .string x | 11 => v = .pointer (some ⟨gl, k, none⟩) | 12 => True | 13 => v = .pointer (some ⟨gt, k, none⟩) | 14 => True | _ => True)) hV rfl, hW⟩
          · cases ho
            simp only [Act.put, List.setIfInBounds_toArray, List.set_cons_zero, List.set_cons_succ] at hK
            go_simp
            all_goals first | with_reducible exact hK.out _ _ ⟨val_upd (VAL := (fun j v => match j with | 0 => v = .pointer (some ⟨p, 0, none⟩) | 1 => v = .pointer (some ⟨p, 0, none⟩) | 2 => v = .pointer (some ⟨p, 3, none⟩) | 3 => v = .slice (some ⟨gl, 0, none⟩) n1 mA.cl | 4 => v = .int .i64 (k : Int) | 5 => v = .pointer (some ⟨p, 0, none⟩) | 6 => v = .pointer (some ⟨p, 0, none⟩) | 7 => v = .pointer (some ⟨p, 4, none⟩) | 8 => v = .slice (some ⟨gt, 0, none⟩) n1 mA.ct | 9 => v = .int .i64 (k : Int) | 10 => v = .string x | 11 => v = .pointer (some ⟨gl, k, none⟩) | 12 => True | 13 => v = .pointer (some ⟨gt, k, none⟩) | 14 => True | _ => True)) hV rfl, hW⟩ | exact hK.out _ _ ⟨val_upd (VAL := (fun j v => match j with | 0 => v = .pointer (some ⟨p, 0, none⟩) | 1 => v = .pointer (some ⟨p, 0, none⟩) | 2 => v = .pointer (some ⟨p, 3, none⟩) | 3 => v = .slice (some ⟨gl, 0, none⟩) n1 mA.cl | 4 => v = .int .i64 (k : Int) | 5 => v = .pointer (some ⟨p, 0, none⟩) | 6 => v = .pointer (some ⟨p, 0, none⟩) | 7 => v = .pointer (some ⟨p, 4, none⟩) | 8 => v = .slice (some ⟨gt, 0, none⟩) n1 mA.ct | 9 => v = .int .i64 (k : Int) | 10 => v = .string x | 11 => v = .pointer (some ⟨gl, k, none⟩) | 12 => True | 13 => v = .pointer (some ⟨gt, k, none⟩) | 14 => True | _ => True)) hV rfl, hW⟩
          · cases ho
            have e5 : s_ 5 = _ := hV 5 (by decide) (hd 5 (by kernel_rfl))
            simp only [e5] at hK ⊢
            simp only [Act.put, List.setIfInBounds_toArray, List.set_cons_zero, List.set_cons_succ] at hK
            go_simp
            all_goals first | with_reducible exact hK.out _ _ ⟨val_upd (VAL := (fun j v => match j with | 0 => v = .pointer (some ⟨p, 0, none⟩) | 1 => v = .pointer (some ⟨p, 0, none⟩) | 2 => v = .pointer (some ⟨p, 3, none⟩) | 3 => v = .slice (some ⟨gl, 0, none⟩) n1 mA.cl | 4 => v = .int .i64 (k : Int) | 5 => v = .pointer (some ⟨p, 0, none⟩) | 6 => v = .pointer (some ⟨p, 0, none⟩) | 7 => v = .pointer (some ⟨p, 4, none⟩) | 8 => v = .slice (some ⟨gt, 0, none⟩) n1 mA.ct | 9 => v = .int .i64 (k : Int) | 10 => v = .string x | 11 => v = .pointer (some ⟨gl, k, none⟩) | 12 => True | 13 => v = .pointer (some ⟨gt, k, none⟩) | 14 => True | _ => True)) hV rfl, hW⟩ | exact hK.out _ _ ⟨val_upd (VAL := (fun j v => match j with | 0 => v = .pointer (some ⟨p, 0, none⟩) | 1 => v = .pointer (some ⟨p, 0, none⟩) | 2 => v = .pointer (some ⟨p, 3, none⟩) | 3 => v = .slice (some ⟨gl, 0, none⟩) n1 mA.cl | 4 => v = .int .i64 (k : Int) | 5 => v = .pointer (some ⟨p, 0, none⟩) | 6 => v = .pointer (some ⟨p, 0, none⟩) | 7 => v = .pointer (some ⟨p, 4, none⟩) | 8 => v = .slice (some ⟨gt, 0, none⟩) n1 mA.ct | 9 => v = .int .i64 (k : Int) | 10 => v = .string x | 11 => v = .pointer (some ⟨gl, k, none⟩) | 12 => True | 13 => v = .pointer (some ⟨gt, k, none⟩) | 14 => True | _ => True)) hV rfl, hW⟩
          · cases ho
            have e6 : s_ 6 = _ := hV 6 (by decide) (hd 6 (by kernel_rfl))
            simp only [e6] at hK ⊢
            simp only [Act.put, List.setIfInBounds_toArray, List.set_cons_zero, List.set_cons_succ] at hK
            go_simp
            all_goals first | with_reducible exact hK.out _ _ ⟨val_upd (VAL := (fun j v => match j with | 0 => v = .pointer (some ⟨p, 0, none⟩) | 1 => v = .pointer (some ⟨p, 0, none⟩) | 2 => v = .pointer (some ⟨p, 3, none⟩) | 3 => v = .slice (some ⟨gl, 0, none⟩) n1 mA.cl | 4 => v = .int .i64 (k : Int) | 5 => v = .pointer (some ⟨p, 0, none⟩) | 6 => v = .pointer (some ⟨p, 0, none⟩) | 7 => v = .pointer (some ⟨p, 4, none⟩) | 8 => v = .slice (some ⟨gt, 0, none⟩) n1 mA.ct | 9 => v = .int .i64 (k : Int) | 10 => v = .string x | 11 => v = .pointer (some ⟨gl, k, none⟩) | 12 => True | 13 => v = .pointer (some ⟨gt, k, none⟩) | 14 => True | _ => True)) hV rfl, hW⟩ | exact hK.out _ _ ⟨val_upd (VAL := (fun j v => match j with | 0 => v = .pointer (some ⟨p, 0, none⟩) | 1 => v = .pointer (some ⟨p, 0, none⟩) | 2 => v = .pointer (some ⟨p, 3, none⟩) | 3 => v = .slice (some ⟨gl, 0, none⟩) n1 mA.cl | 4 => v = .int .i64 (k : Int) | 5 => v = .pointer (some ⟨p, 0, none⟩) | 6 => v = .pointer (some ⟨p, 0, none⟩) | 7 => v = .pointer (some ⟨p, 4, none⟩) | 8 => v = .slice (some ⟨gt, 0, none⟩) n1 mA.ct | 9 => v = .int .i64 (k : Int) | 10 => v = .string x | 11 => v = .pointer (some ⟨gl, k, none⟩) | 12 => True | 13 => v = .pointer (some ⟨gt, k, none⟩) | 14 => True | _ => True)) hV rfl, hW⟩
          · cases ho
            have e7 : s_ 7 = _ := hV 7 (by decide) (hd 7 (by kernel_rfl))
            simp only [e7] at hK ⊢
            simp only [Act.put, List.setIfInBounds_toArray, List.set_cons_zero, List.set_cons_succ] at hK
            have t0 := S9.c4 hW.1
            rw [hgt, hnT, HPA.out] at t0
            go_simp
            all_goals first | with_reducible exact hK.out _ _ ⟨val_upd (VAL := (fun j v => match j with | 0 => v = .pointer (some ⟨p, 0, none⟩) | 1 => v = .pointer (some ⟨p, 0, none⟩) | 2 => v = .pointer (some ⟨p, 3, none⟩) | 3 => v = .slice (some ⟨gl, 0, none⟩) n1 mA.cl | 4 => v = .int .i64 (k : Int) | 5 => v = .pointer (some ⟨p, 0, none⟩) | 6 => v = .pointer (some ⟨p, 0, none⟩) | 7 => v = .pointer (some ⟨p, 4, none⟩) | 8 => v = .slice (some ⟨gt, 0, none⟩) n1 mA.ct | 9 => v = .int .i64 (k : Int) | 10 => v = .string x | 11 => v = .pointer (some ⟨gl, k, none⟩) | 12 => True | 13 => v = .pointer (some ⟨gt, k, none⟩) | 14 => True | _ => True)) hV rfl, hW⟩ | exact hK.out _ _ ⟨val_upd (VAL := (fun j v => match j with | 0 => v = .pointer (some ⟨p, 0, none⟩) | 1 => v = .pointer (some ⟨p, 0, none⟩) | 2 => v = .pointer (some ⟨p, 3, none⟩) | 3 => v = .slice (some ⟨gl, 0, none⟩) n1 mA.cl | 4 => v = .int .i64 (k : Int) | 5 => v = .pointer (some ⟨p, 0, none⟩) | 6 => v = .pointer (some ⟨p, 0, none⟩) | 7 => v = .pointer (some ⟨p, 4, none⟩) | 8 => v = .slice (some ⟨gt, 0, none⟩) n1 mA.ct | 9 => v = .int .i64 (k : Int) | 10 => v = .string x | 11 => v = .pointer (some ⟨gl, k, none⟩) | 12 => True | 13 => v = .pointer (some ⟨gt, k, none⟩) | 14 => True | _ => True)) hV rfl, hW⟩
          · cases ho
            simp only [Act.put, List.setIfInBounds_toArray, List.set_cons_zero, List.set_cons_succ] at hK
            go_simp
            all_goals first | with_reducible exact hK.out _ _ ⟨val_upd (VAL := (fun j v => match j with | 0 => v = .pointer (some ⟨p, 0, none⟩) | 1 => v = .pointer (some ⟨p, 0, none⟩) | 2 => v = .pointer (some ⟨p, 3, none⟩) | 3 => v = .slice (some ⟨gl, 0, none⟩) n1 mA.cl | 4 => v = .int .i64 (k : Int) | 5 => v = .pointer (some ⟨p, 0, none⟩) | 6 => v = .pointer (some ⟨p, 0, none⟩) | 7 => v = .pointer (some ⟨p, 4, none⟩) | 8 => v = .slice (some ⟨gt, 0, none⟩) n1 mA.ct | 9 => v = .int .i64 (k : Int) | 10 => v = .string x | 11 => v = .pointer (some ⟨gl, k, none⟩) | 12 => True | 13 => v = .pointer (some ⟨gt, k, none⟩) | 14 => True | _ => True)) hV rfl, hW⟩ | exact hK.out _ _ ⟨val_upd (VAL := (fun j v => match j with | 0 => v = .pointer (some ⟨p, 0, none⟩) | 1 => v = .pointer (some ⟨p, 0, none⟩) | 2 => v = .pointer (some ⟨p, 3, none⟩) | 3 => v = .slice (some ⟨gl, 0, none⟩) n1 mA.cl | 4 => v = .int .i64 (k : Int) | 5 => v = .pointer (some ⟨p, 0, none⟩) | 6 => v = .pointer (some ⟨p, 0, none⟩) | 7 => v = .pointer (some ⟨p, 4, none⟩) | 8 => v = .slice (some ⟨gt, 0, none⟩) n1 mA.ct | 9 => v = .int .i64 (k : Int) | 10 => v = .string x | 11 => v = .pointer (some ⟨gl, k, none⟩) | 12 => True | 13 => v = .pointer (some ⟨gt, k, none⟩) | 14 => True | _ => True)) hV rfl, hW⟩
          · cases ho
            simp only [Act.put, List.setIfInBounds_toArray, List.set_cons_zero, List.set_cons_succ] at hK
            go_simp
            all_goals first | with_reducible exact hK.out _ _ ⟨val_upd (VAL := (fun j v => match j with | 0 => v = .pointer (some ⟨p, 0, none⟩) | 1 => v = .pointer (some ⟨p, 0, none⟩) | 2 => v = .pointer (some ⟨p, 3, none⟩) | 3 => v = .slice (some ⟨gl, 0, none⟩) n1 mA.cl | 4 => v = .int .i64 (k : Int) | 5 => v = .pointer (some ⟨p, 0, none⟩) | 6 => v = .pointer (some ⟨p, 0, none⟩) | 7 => v = .pointer (some ⟨p, 4, none⟩) | 8 => v = .slice (some ⟨gt, 0, none⟩) n1 mA.ct | 9 => v = .int .i64 (k : Int) | 10 => v = .string x | 11 => v = .pointer (some ⟨gl, k, none⟩) | 12 => True | 13 => v = .pointer (some ⟨gt, k, none⟩) | 14 => True | _ => True)) hV rfl, hW⟩ | exact hK.out _ _ ⟨val_upd (VAL := (fun j v => match j with | 0 => v = .pointer (some ⟨p, 0, none⟩) | 1 => v = .pointer (some ⟨p, 0, none⟩) | 2 => v = .pointer (some ⟨p, 3, none⟩) | 3 => v = .slice (some ⟨gl, 0, none⟩) n1 mA.cl | 4 => v = .int .i64 (k : Int) | 5 => v = .pointer (some ⟨p, 0, none⟩) | 6 => v = .pointer (some ⟨p, 0, none⟩) | 7 => v = .pointer (some ⟨p, 4, none⟩) | 8 => v = .slice (some ⟨gt, 0, none⟩) n1 mA.ct | 9 => v = .int .i64 (k : Int) | 10 => v = .string x | 11 => v = .pointer (some ⟨gl, k, none⟩) | 12 => True | 13 => v = .pointer (some ⟨gt, k, none⟩) | 14 => True | _ => True)) hV rfl, hW⟩
          · cases ho
            have e3 : s_ 3 = _ := hV 3 (by decide) (hd 3 (by kernel_rfl))
            have e4 : s_ 4 = _ := hV 4 (by decide) (hd 4 (by kernel_rfl))
            simp only [e3, e4] at hK ⊢
            simp only [Act.put, List.setIfInBounds_toArray, List.set_cons_zero, List.set_cons_succ] at hK
            go_simp
            all_goals first | with_reducible exact hK.out _ _ ⟨val_upd (VAL := (fun j v => match j with | 0 => v = .pointer (some ⟨p, 0, none⟩) | 1 => v = .pointer (some ⟨p, 0, none⟩) | 2 => v = .pointer (some ⟨p, 3, none⟩) | 3 => v = .slice (some ⟨gl, 0, none⟩) n1 mA.cl | 4 => v = .int .i64 (k : Int) | 5 => v = .pointer (some ⟨p, 0, none⟩) | 6 => v = .pointer (some ⟨p, 0, none⟩) | 7 => v = .pointer (some ⟨p, 4, none⟩) | 8 => v = .slice (some ⟨gt, 0, none⟩) n1 mA.ct | 9 => v = .int .i64 (k : Int) | 10 => v = .string x | 11 => v = .pointer (some ⟨gl, k, none⟩) | 12 => True | 13 => v = .pointer (some ⟨gt, k, none⟩) | 14 => True | _ => True)) hV rfl, hW⟩ | exact hK.out _ _ ⟨val_upd (VAL := (fun j v => match j with | 0 => v = .pointer (some ⟨p, 0, none⟩) | 1 => v = .pointer (some ⟨p, 0, none⟩) | 2 => v = .pointer (some ⟨p, 3, none⟩) | 3 => v = .slice (some ⟨gl, 0, none⟩) n1 mA.cl | 4 => v = .int .i64 (k : Int) | 5 => v = .pointer (some ⟨p, 0, none⟩) | 6 => v = .pointer (some ⟨p, 0, none⟩) | 7 => v = .pointer (some ⟨p, 4, none⟩) | 8 => v = .slice (some ⟨gt, 0, none⟩) n1 mA.ct | 9 => v = .int .i64 (k : Int) | 10 => v = .string x | 11 => v = .pointer (some ⟨gl, k, none⟩) | 12 => True | 13 => v = .pointer (some ⟨gt, k, none⟩) | 14 => True | _ => True)) hV rfl, hW⟩
          · cases ho
            simp only [Act.put, List.setIfInBounds_toArray, List.set_cons_zero, List.set_cons_succ] at hK
            have e11 : s_ 11 = _ := hV 11 (by decide) (hd 11 (by kernel_rfl))
            obtain ⟨⟨u0, t0⟩, z0⟩ := S9.xl hW.1 hgl (by rw [hnL]; exact hkn)
            have hS1 := hW.1
            rw [hLi] at hS1
            have hJ := hide (S9.setL hS1 hgl (by rw [hnL]; exact hkn))
            have hFq := hide (hW.2.1.set (hW.2.1.in (Sm.lF hgl)) k (.bool true))
            have hq1 := hide ((set_block (W := W) (n := gl) (o := k) (v := .bool true) hglq (o' := 0)).trans hW.2.2.1)
            have hq2 := hide ((set_block (W := W) (n := gl) (o := k) (v := .bool true) hglq (o' := 1)).trans hW.2.2.2.1)
            have hq3 : Hid (∀ o, (W.setCell ⟨gl, k, none⟩ (.bool true)).frozen? ⟨q, o, none⟩ = false) := (fun o => (World.frozen?_setCell _ _ _ _).trans (hW.2.2.2.2 o))
            simp only [e11] at hK ⊢
            clear hW
            go_simp
            exact hK.out undef _ ⟨val_upd (VAL := (fun j v => match j with | 0 => v = .pointer (some ⟨p, 0, none⟩) | 1 => v = .pointer (some ⟨p, 0, none⟩) | 2 => v = .pointer (some ⟨p, 3, none⟩) | 3 => v = .slice (some ⟨gl, 0, none⟩) n1 mA.cl | 4 => v = .int .i64 (k : Int) | 5 => v = .pointer (some ⟨p, 0, none⟩) | 6 => v = .pointer (some ⟨p, 0, none⟩) | 7 => v = .pointer (some ⟨p, 4, none⟩) | 8 => v = .slice (some ⟨gt, 0, none⟩) n1 mA.ct | 9 => v = .int .i64 (k : Int) | 10 => v = .string x | 11 => v = .pointer (some ⟨gl, k, none⟩) | 12 => True | 13 => v = .pointer (some ⟨gt, k, none⟩) | 14 => True | _ => True)) hV trivial, hJ.out, hFq.out, hq1.out, hq2.out, hq3.out⟩
          · cases ho
            have e8 : s_ 8 = _ := hV 8 (by decide) (hd 8 (by kernel_rfl))
            have e9 : s_ 9 = _ := hV 9 (by decide) (hd 9 (by kernel_rfl))
            simp only [e8, e9] at hK ⊢
            simp only [Act.put, List.setIfInBounds_toArray, List.set_cons_zero, List.set_cons_succ] at hK
            go_simp
            all_goals first | with_reducible exact hK.out _ _ ⟨val_upd (VAL := (fun j v => match j with | 0 => v = .pointer (some ⟨p, 0, none⟩) | 1 => v = .pointer (some ⟨p, 0, none⟩) | 2 => v = .pointer (some ⟨p, 3, none⟩) | 3 => v = .slice (some ⟨gl, 0, none⟩) n1 mA.cl | 4 => v = .int .i64 (k : Int) | 5 => v = .pointer (some ⟨p, 0, none⟩) | 6 => v = .pointer (some ⟨p, 0, none⟩) | 7 => v = .pointer (some ⟨p, 4, none⟩) | 8 => v = .slice (some ⟨gt, 0, none⟩) n1 mA.ct | 9 => v = .int .i64 (k : Int) | 10 => v = .string x | 11 => v = .pointer (some ⟨gl, k, none⟩) | 12 => True | 13 => v = .pointer (some ⟨gt, k, none⟩) | 14 => True | _ => True)) hV rfl, hW⟩ | exact hK.out _ _ ⟨val_upd (VAL := (fun j v => match j with | 0 => v = .pointer (some ⟨p, 0, none⟩) | 1 => v = .pointer (some ⟨p, 0, none⟩) | 2 => v = .pointer (some ⟨p, 3, none⟩) | 3 => v = .slice (some ⟨gl, 0, none⟩) n1 mA.cl | 4 => v = .int .i64 (k : Int) | 5 => v = .pointer (some ⟨p, 0, none⟩) | 6 => v = .pointer (some ⟨p, 0, none⟩) | 7 => v = .pointer (some ⟨p, 4, none⟩) | 8 => v = .slice (some ⟨gt, 0, none⟩) n1 mA.ct | 9 => v = .int .i64 (k : Int) | 10 => v = .string x | 11 => v = .pointer (some ⟨gl, k, none⟩) | 12 => True | 13 => v = .pointer (some ⟨gt, k, none⟩) | 14 => True | _ => True)) hV rfl, hW⟩
          · cases ho
            simp only [Act.put, List.setIfInBounds_toArray, List.set_cons_zero, List.set_cons_succ] at hK
            have e10 : s_ 10 = _ := hV 10 (by decide) (hd 10 (by kernel_rfl))
            have e13 : s_ 13 = _ := hV 13 (by decide) (hd 13 (by kernel_rfl))
            obtain ⟨⟨u0, t0⟩, z0⟩ := S9.xt hW.1 hgt (by rw [hnT]; exact hkn)
            have hS1 := hW.1
            rw [hLi] at hS1
            have hJ := hide (S9.setT hS1 hgt (by rw [hnT]; exact hkn))
            have hFq := hide (hW.2.1.set (hW.2.1.in (Sm.tF hgt)) k (.string x))
            have hq1 := hide ((set_block (W := W) (n := gt) (o := k) (v := .string x) hgtq (o' := 0)).trans hW.2.2.1)
            have hq2 := hide ((set_block (W := W) (n := gt) (o := k) (v := .string x) hgtq (o' := 1)).trans hW.2.2.2.1)
            have hq3 : Hid (∀ o, (W.setCell ⟨gt, k, none⟩ (.string x)).frozen? ⟨q, o, none⟩ = false) := (fun o => (World.frozen?_setCell _ _ _ _).trans (hW.2.2.2.2 o))
            simp only [e13, e10] at hK ⊢
            clear hW
            go_simp
            exact hK.out undef _ ⟨val_upd (VAL := (fun j v => match j with | 0 => v = .pointer (some ⟨p, 0, none⟩) | 1 => v = .pointer (some ⟨p, 0, none⟩) | 2 => v = .pointer (some ⟨p, 3, none⟩) | 3 => v = .slice (some ⟨gl, 0, none⟩) n1 mA.cl | 4 => v = .int .i64 (k : Int) | 5 => v = .pointer (some ⟨p, 0, none⟩) | 6 => v = .pointer (some ⟨p, 0, none⟩) | 7 => v = .pointer (some ⟨p, 4, none⟩) | 8 => v = .slice (some ⟨gt, 0, none⟩) n1 mA.ct | 9 => v = .int .i64 (k : Int) | 10 => v = .string x | 11 => v = .pointer (some ⟨gl, k, none⟩) | 12 => True | 13 => v = .pointer (some ⟨gt, k, none⟩) | 14 => True | _ => True)) hV trivial, hJ.out, hFq.out, hq1.out, hq2.out, hq3.out⟩
        case ht_w9n1 =>
          intro s_ W hj
          obtain ⟨hV, hW⟩ := hj
          have e0 : s_ 0 = _ := hV 0 (by decide) rfl
          have e1 : s_ 1 = _ := hV 1 (by decide) rfl
          have e2 : s_ 2 = _ := hV 2 (by decide) rfl
          have e3 : s_ 3 = _ := hV 3 (by decide) rfl
          have e4 : s_ 4 = _ := hV 4 (by decide) rfl
          have e5 : s_ 5 = _ := hV 5 (by decide) rfl
          have e6 : s_ 6 = _ := hV 6 (by decide) rfl
          have e7 : s_ 7 = _ := hV 7 (by decide) rfl
          have e8 : s_ 8 = _ := hV 8 (by decide) rfl
          have e9 : s_ 9 = _ := hV 9 (by decide) rfl
          have e10 : s_ 10 = _ := hV 10 (by decide) rfl
          have e11 : s_ 11 = _ := hV 11 (by decide) rfl
          have e13 : s_ 13 = _ := hV 13 (by decide) rfl
          simp only [e0, e1, e2, e3, e4, e5, e6, e7, e8, e9, e10, e11, e13]
          clear hV e0 e1 e2 e3 e4 e5 e6 e7 e8 e9 e10 e11 e13
          obtain ⟨hS9, hF9, q0, q1, qf⟩ := hW
          have hS9 : Sto W mA (S9 S8 k (.string x) true true) := hS9
          obtain ⟨W9, hW9⟩ : ∃ x, x = W := ⟨_, rfl⟩
          rw [← hW9] at hS9 hF9 q0 q1 qf ⊢
          clear hW9
          have hS10 := hide (hS9.set5 (s.ln + 1))
          have hF10 := hide (hF9.set (hF9.in (Sto.pF (m := mA))) 5 (.int .i64 ((s.ln + 1 : Nat) : Int)))
          have c5 := hS9.c5
          have f5 := hS9.fz 5
          have hpq : q ≠ mA.p := fun e => hqA (by rw [e]; exact Sto.pF)
          have r0 := (set_block (W := W9) (n := mA.p) (o := 5) (v := .int .i64 ((s.ln + 1 : Nat) : Int)) hpq (o' := 0)).trans q0
          have r1 := (set_block (W := W9) (n := mA.p) (o := 5) (v := .int .i64 ((s.ln + 1 : Nat) : Int)) hpq (o' := 1)).trans q1
          rw [show (S9 S8 k (.string x) true true).ln = s.ln from HLN.out] at c5
          rw [show ((s.ln + 1 : Nat) : Int) = (s.ln : Int) + 1 by omega] at hS10 hF10 r0 r1
          have rf : ∀ o, (W9.setCell ⟨mA.p, 5, none⟩ (.int .i64 ((s.ln : Int) + 1))).frozen? ⟨q, o, none⟩ = false := fun o => (World.frozen?_setCell _ _ _ _).trans (qf o)
          rw [HPA.out] at hS10 hF10 c5 f5 r0 r1 rf
          have ew5 : IntKind.wrap .i64 ((s.ln : Int) + 1) = (s.ln : Int) + 1 := by rw [IntKind.wrap_i64]; omega
          clear hS9 hF9 q0 q1 qf c3 c4
          go_upto_region 11 with (fail)
          obtain ⟨W10, hW10⟩ : ∃ x, x = W9.setCell ⟨p, 5, none⟩ (.int .i64 ((s.ln : Int) + 1)) := ⟨_, rfl⟩
          rw [← hW10] at hS10 hF10 r0 r1 rf ⊢
          clear hW10 c5 f5
          have hha := handle_S mA _ W10 hS10.out k (u + 1) (HU1.out) (by omega)
          rw [HPA.out] at hha
          go_wp2_with (first | (go_at_call 37; (with_reducible refine (hha).mono ?_); rintro e w11 ⟨rfl, hb11⟩; obtain ⟨W12, hW12, z0, z1, hS12, hF12⟩ := q_end (k : Int) ((u : Int) + 1) (keep hb11 r0) (keep hb11 r1) (hS10.out.bel hb11) hqA (hF10.out.trans (Fr.of_bel hb11)) hqb.out; replace hS12 := hide hS12; replace hF12 := hide hF12; replace r0 := keep hb11 r0; replace r1 := keep hb11 r1; replace rf : ∀ o, w11.frozen? ⟨q, o, none⟩ = false := (fun o => (hb11.2 _).trans (rf o))))
          rw [← hW12]
          clear hW12
          refine bodyPost_ret (v := .tuple #[.agg #[.int .u32 (k : Int), .int .u32 ((u : Int) + 1)], .int .i64 0]) (by simp [results, Try.results16, go_sem, z0, z1]) rfl ?_
          refine ⟨k, mA, hN.out, HPA.out, hF12.out, .inr ⟨hkl.out, ?_, ?_⟩⟩
          · rw [HRET.out, show ((u + 1 : Nat) : Int) = (u : Int) + 1 by omega]
          · rw [← HE8.out]; exact hS12.out
    · have hkb2 : ((k : Int) == (n : Int)) = false := by have : ¬ (k : Int) = (n : Int) := by omega
                                                         simpa using this
      have hkn2 : k < n := by omega
      obtain ⟨u, hu⟩ := get_of_lt (l := s.U) (i := k) (by rw [hn]; exact hkn2)
      have hul : u < 4294967295 := by
        have h1 := ho.uo u (List.mem_of_getElem? hu)
        have h2 : u ≠ 4294967295 := fun e => hN.out.no (by rw [hn]; exact hkn2) (.inr (by rw [hu, e]))
        omega
      obtain ⟨SA, hSAe⟩ : ∃ SA, SA = SB := ⟨_, rfl⟩
      have hSA := hSB
      rw [← hSAe] at hSA
      obtain ⟨mA, hmA⟩ : ∃ x, x = m := ⟨_, rfl⟩
      rw [← hmA] at hSA
      have hFA : Hid (Fr m.F mA.F w w3) := by rw [hmA]; exact hF3
      have hqA : q ∉ mA.F := by rw [hmA]; exact hnq
      have HPA : Hid (mA.p = p) := by rw [hmA]; exact HPp
      obtain ⟨WA, hWA⟩ : ∃ x, x = w3 := ⟨_, rfl⟩
      rw [← hSAe] at hnU hnL hnT
      have HLA : Hid (SA.ln = s.ln) := by rw [hSAe, hSBe]; rfl
      have HE : Hid ({ S9 { SA with U := SA.U.set k (u + 1) } k (.string x) true true with ln := s.ln + 1 } = putS s k (.string x)) := by rw [hSAe, hSBe]; exact put_at hu
      have HRET : Hid (((s.U.getD k 0 + 1 : Nat) : Int) = ((u + 1 : Nat) : Int)) := by rw [List.getD_eq_getElem?_getD, hu]; rfl
      replace hu : SA.U[k]? = some u := by rw [hSAe, hSBe]; exact hu
      clear hke hn hkz hkm
      go_upto_region 8 with (fail)
      rw [← hWA] at hSA hFA y0 y1 hq3 ⊢
      clear hWA c1 c2 hmA hSAe hS3 hF3 hSBe hSB hkn
      have hkn := hkn2
      obtain ⟨gu, hgu, _, _, _, _, fzu, _⟩ := hSA.out.ru.at (by rw [hnU]; omega)
      obtain ⟨gl, hgl, _⟩ := hSA.out.rl.at (by rw [hnL]; omega)
      obtain ⟨gt, hgt, _⟩ := hSA.out.rt.at (by rw [hnT]; omega)
      have hguq : q ≠ gu := fun e => hqA (by rw [e]; exact Sm.uF hgu)
      have hglq : q ≠ gl := fun e => hqA (by rw [e]; exact Sm.lF hgl)
      have hgtq : q ≠ gt := fun e => hqA (by rw [e]; exact Sm.tF hgt)
      have c2 := hSA.out.c2
      have c3 := hSA.out.c3
      have c4 := hSA.out.c4
      rw [hgu, hnU, HPA.out] at c2
      have xu : WA.cell? ⟨gu, k, none⟩ = some (.int .u32 (u : Int)) := by
        have := hSA.out.ru
        rw [hgu] at this
        exact this.cell (by rw [uRow_get, hu]; rfl)
      have f8 := fzu k
      have hkz8 : (k : Int) < (n : Int) := by omega
      have ew8 : IntKind.wrap .u32 ((u : Int) + 1) = (u : Int) + 1 := by rw [IntKind.wrap_u32]; omega
      have hS8 := hide (hSA.out.setU hgu (by rw [hnU]; exact hkn) (u + 1))
      have hF8 := hide (hFA.out.set (hFA.out.in (Sm.uF hgu)) k (.int .u32 ((u + 1 : Nat) : Int)))
      rw [show ((u + 1 : Nat) : Int) = (u : Int) + 1 by omega] at hS8 hF8
      replace y0 := (set_block (W := WA) (n := gu) (o := k) (v := .int .u32 ((u : Int) + 1)) hguq (o' := 0)).trans y0
      replace y1 := (set_block (W := WA) (n := gu) (o := k) (v := .int .u32 ((u : Int) + 1)) hguq (o' := 1)).trans y1
      replace hq3 : ∀ o, (WA.setCell ⟨gu, k, none⟩ (.int .u32 ((u : Int) + 1))).frozen? ⟨q, o, none⟩ = false := fun o => (World.frozen?_setCell _ _ _ _).trans (hq3 o)
      clear fzu hSA hFA
      go_upto_region 9 with (fail)
      obtain ⟨W8, hW8⟩ : ∃ x, x = WA.setCell ⟨gu, k, none⟩ (.int .u32 ((u : Int) + 1)) := ⟨_, rfl⟩
      rw [← hW8] at hS8 hF8 y0 y1 hq3 ⊢
      obtain ⟨S8, hS8e⟩ : ∃ S8, S8 = { SA with U := SA.U.set k (u + 1) } := ⟨_, rfl⟩
      rw [← hS8e] at hS8
      have HU1 : Hid (S8.U[k]? = some (u + 1)) := by
        rw [hS8e]
        show (SA.U.set k (u + 1))[k]? = _
        exact List.getElem?_set_self (by rw [hnU]; exact hkn)
      have HLN : Hid (S8.ln = s.ln) := by rw [hS8e]; exact HLA.out
      have HE8 : Hid ({ S9 S8 k (.string x) true true with ln := s.ln + 1 } = putS s k (.string x)) := by rw [hS8e]; exact HE.out
      replace hnL : S8.L.length = n := by rw [hS8e]; exact hnL
      replace hnT : S8.T.length = n := by rw [hS8e]; exact hnT
      clear hS8e hW8 hnU hu c2 xu f8
      refine wp_region_inv 15 rfl (fun L s_ W => (∀ j, j < 15 → L j = true → (fun j v => match j with | 0 => v = .pointer (some ⟨p, 0, none⟩) | 1 => v = .pointer (some ⟨p, 0, none⟩) | 2 => v = .pointer (some ⟨p, 3, none⟩) | 3 => v = .slice (some ⟨gl, 0, none⟩) n mA.cl | 4 => v = .int .i64 (k : Int) | 5 => v = .pointer (some ⟨p, 0, none⟩) | 6 => v = .pointer (some ⟨p, 0, none⟩) | 7 => v = .pointer (some ⟨p, 4, none⟩) | 8 => v = .slice (some ⟨gt, 0, none⟩) n mA.ct | 9 => v = .int .i64 (k : Int) | 10 => v = .string x | 11 => v = .pointer (some ⟨gl, k, none⟩) | 12 => True | 13 => v = .pointer (some ⟨gt, k, none⟩) | 14 => True | _ => True) j (s_ j)) ∧ (Sto W mA (S9 S8 k (.string x) (L 12) (L 14)) ∧ Fr m.F mA.F w W ∧ W.cell? ⟨q, 0, none⟩ = some (.int .u32 0) ∧ W.cell? ⟨q, 1, none⟩ = some (.int .u32 0) ∧ ∀ o, W.frozen? ⟨q, o, none⟩ = false)) ?A_w9n (by kernel_rfl) (by kernel_rfl) ?hA_w9n ?h0_w9n ?hq_w9n ?hJ_w9n ?ht_w9n
      case hA_w9n =>
        intro s_
        simp only [putL, dstO, Act.put, List.getElem?_toArray, List.getElem?_cons_zero, List.getElem?_cons_succ, Option.bind_some, List.setIfInBounds_toArray, List.set_cons_zero, List.set_cons_succ, if_true]
        all_goals exact rfl
      case h0_w9n => exact ⟨fun j _ h => (by cases h), ⟨hS8.out.bel (bl_drew (bl_refl _)), hF8.out.trans (Fr.of_bel (bl_drew (bl_refl _))), keep (bl_drew (bl_refl _)) y0, keep (bl_drew (bl_refl _)) y1, hq3⟩⟩
      case hJ_w9n =>
        intro L L' s_ W h hj
        refine ⟨fun j hj2 hl => hj.1 j hj2 ((h j hj2).trans hl), ?_⟩
        have hj2 := hj.2
        rw [h 12 (by decide), h 14 (by decide)] at hj2
        exact hj2
      case hq_w9n =>
        intro i o hi ho L s_ W hLi hd hsh hj K hK
        obtain ⟨hV, hW⟩ := hj
        rcases (show i = 0 ∨ i = 1 ∨ i = 2 ∨ i = 3 ∨ i = 4 ∨ i = 5 ∨ i = 6 ∨ i = 7 ∨ i = 8 ∨ i = 9 ∨ i = 10 ∨ i = 11 ∨ i = 12 ∨ i = 13 ∨ i = 14 by omega) with rfl | rfl | rfl | rfl | rfl | rfl | rfl | rfl | rfl | rfl | rfl | rfl | rfl | rfl | rfl
        · cases ho
          simp only [Act.put, List.setIfInBounds_toArray, List.set_cons_zero, List.set_cons_succ] at hK
          go_simp
          all_goals first | with_reducible exact hK.out _ _ ⟨val_upd (VAL := (fun j v => match j with | 0 => v = .pointer (some ⟨p, 0, none⟩) | 1 => v = .pointer (some ⟨p, 0, none⟩) | 2 => v = .pointer (some ⟨p, 3, none⟩) | 3 => v = .slice (some ⟨gl, 0, none⟩) n mA.cl | 4 => v = .int .i64 (k : Int) | 5 => v = .pointer (some ⟨p, 0, none⟩) | 6 => v = .pointer (some ⟨p, 0, none⟩) | 7 => v = .pointer (some ⟨p, 4, none⟩) | 8 => v = .slice (some ⟨gt, 0, none⟩) n mA.ct | 9 => v = .int .i64 (k : Int) | 10 => v = .string x | 11 => v = .pointer (some ⟨gl, k, none⟩) | 12 => True | 13 => v = .pointer (some ⟨gt, k, none⟩) | 14 => True | _ => True)) hV rfl, hW⟩ | exact hK.out _ _ ⟨val_upd (VAL := (fun j v => match j with | 0 => v = .pointer (some ⟨p, 0, none⟩) | 1 => v = .pointer (some ⟨p, 0, none⟩) | 2 => v = .pointer (some ⟨p, 3, none⟩) | 3 => v = .slice (some ⟨gl, 0, none⟩) n mA.cl | 4 => v = .int .i64 (k : Int) | 5 => v = .pointer (some ⟨p, 0, none⟩) | 6 => v = .pointer (some ⟨p, 0, none⟩) | 7 => v = .pointer (some ⟨p, 4, none⟩) | 8 => v = .slice (some ⟨gt, 0, none⟩) n mA.ct | 9 => v = .int .i64 (k : Int) | 10 => v = .string x | 11 => v = .pointer (some ⟨gl, k, none⟩) | 12 => True | 13 => v = .pointer (some ⟨gt, k, none⟩) | 14 => True | _ => True)) hV rfl, hW⟩
        · cases ho
          have e0 : s_ 0 = _ := hV 0 (by decide) (hd 0 (by kernel_rfl))
          simp only [e0] at hK ⊢
          simp only [Act.put, List.setIfInBounds_toArray, List.set_cons_zero, List.set_cons_succ] at hK
          go_simp
          all_goals first | with_reducible exact hK.out _ _ ⟨val_upd (VAL := (fun j v => match j with | 0 => v = .pointer (some ⟨p, 0, none⟩) | 1 => v = .pointer (some ⟨p, 0, none⟩) | 2 => v = .pointer (some ⟨p, 3, none⟩) | 3 => v = .slice (some ⟨gl, 0, none⟩) n mA.cl | 4 => v = .int .i64 (k : Int) | 5 => v = .pointer (some ⟨p, 0, none⟩) | 6 => v = .pointer (some ⟨p, 0, none⟩) | 7 => v = .pointer (some ⟨p, 4, none⟩) | 8 => v = .slice (some ⟨gt, 0, none⟩) n mA.ct | 9 => v = .int .i64 (k : Int) | 10 => v = .string x | 11 => v = .pointer (some ⟨gl, k, none⟩) | 12 => True | 13 => v = .pointer (some ⟨gt, k, none⟩) | 14 => True | _ => True)) hV rfl, hW⟩ | exact hK.out _ _ ⟨val_upd (VAL := (fun j v => match j with | 0 => v = .pointer (some ⟨p, 0, none⟩) | 1 => v = .pointer (some ⟨p, 0, none⟩) | 2 => v = .pointer (some ⟨p, 3, none⟩) | 3 => v = .slice (some ⟨gl, 0, none⟩) n mA.cl | 4 => v = .int .i64 (k : Int) | 5 => v = .pointer (some ⟨p, 0, none⟩) | 6 => v = .pointer (some ⟨p, 0, none⟩) | 7 => v = .pointer (some ⟨p, 4, none⟩) | 8 => v = .slice (some ⟨gt, 0, none⟩) n mA.ct | 9 => v = .int .i64 (k : Int) | 10 => v = .string x | 11 => v = .pointer (some ⟨gl, k, none⟩) | 12 => True | 13 => v = .pointer (some ⟨gt, k, none⟩) | 14 => True | _ => True)) hV rfl, hW⟩
        · cases ho
          have e1 : s_ 1 = _ := hV 1 (by decide) (hd 1 (by kernel_rfl))
          simp only [e1] at hK ⊢
          simp only [Act.put, List.setIfInBounds_toArray, List.set_cons_zero, List.set_cons_succ] at hK
          go_simp
          all_goals first | with_reducible exact hK.out _ _ ⟨val_upd (VAL := (fun j v => match j with | 0 => v = .pointer (some ⟨p, 0, none⟩) | 1 => v = .pointer (some ⟨p, 0, none⟩) | 2 => v = .pointer (some ⟨p, 3, none⟩) | 3 => v = .slice (some ⟨gl, 0, none⟩) n mA.cl | 4 => v = .int .i64 (k : Int) | 5 => v = .pointer (some ⟨p, 0, none⟩) | 6 => v = .pointer (some ⟨p, 0, none⟩) | 7 => v = .pointer (some ⟨p, 4, none⟩) | 8 => v = .slice (some ⟨gt, 0, none⟩) n mA.ct | 9 => v = .int .i64 (k : Int) | 10 => v = .string x | 11 => v = .pointer (some ⟨gl, k, none⟩) | 12 => True | 13 => v = .pointer (some ⟨gt, k, none⟩) | 14 => True | _ => True)) hV rfl, hW⟩ | exact hK.out _ _ ⟨val_upd (VAL := (fun j v => match j with | 0 => v = .pointer (some ⟨p, 0, none⟩) | 1 => v = .pointer (some ⟨p, 0, none⟩) | 2 => v = .pointer (some ⟨p, 3, none⟩) | 3 => v = .slice (some ⟨gl, 0, none⟩) n mA.cl | 4 => v = .int .i64 (k : Int) | 5 => v = .pointer (some ⟨p, 0, none⟩) | 6 => v = .pointer (some ⟨p, 0, none⟩) | 7 => v = .pointer (some ⟨p, 4, none⟩) | 8 => v = .slice (some ⟨gt, 0, none⟩) n mA.ct | 9 => v = .int .i64 (k : Int) | 10 => v = .string x | 11 => v = .pointer (some ⟨gl, k, none⟩) | 12 => True | 13 => v = .pointer (some ⟨gt, k, none⟩) | 14 => True | _ => True)) hV rfl, hW⟩
        · cases ho
          have e2 : s_ 2 = _ := hV 2 (by decide) (hd 2 (by kernel_rfl))
          simp only [e2] at hK ⊢
          simp only [Act.put, List.setIfInBounds_toArray, List.set_cons_zero, List.set_cons_succ] at hK
          have t0 := S9.c3 hW.1
          rw [hgl, hnL, HPA.out] at t0
          go_simp
          all_goals first | with_reducible exact hK.out _ _ ⟨val_upd (VAL := (fun j v => match j with | 0 => v = .pointer (some ⟨p, 0, none⟩) | 1 => v = .pointer (some ⟨p, 0, none⟩) | 2 => v = .pointer (some ⟨p, 3, none⟩) | 3 => v = .slice (some ⟨gl, 0, none⟩) n mA.cl | 4 => v = .int .i64 (k : Int) | 5 => v = .pointer (some ⟨p, 0, none⟩) | 6 => v = .pointer (some ⟨p, 0, none⟩) | 7 => v = .pointer (some ⟨p, 4, none⟩) | 8 => v = .slice (some ⟨gt, 0, none⟩) n mA.ct | 9 => v = .int .i64 (k : Int) | 10 => v = .string x | 11 => v = .pointer (some ⟨gl, k, none⟩) | 12 => True | 13 => v = .pointer (some ⟨gt, k, none⟩) | 14 => True | _ => True)) hV rfl, hW⟩ | exact hK.out _ _ ⟨val_upd (VAL := (fun j v => match j with | 0 => v = .pointer (some ⟨p, 0, none⟩) | 1 => v = .pointer (some ⟨p, 0, none⟩) | 2 => v = .pointer (some ⟨p, 3, none⟩) | 3 => v = .slice (some ⟨gl, 0, none⟩) n mA.cl | 4 => v = .int .i64 (k : Int) | 5 => v = .pointer (some ⟨p, 0, none⟩) | 6 => v = .pointer (some ⟨p, 0, none⟩) | 7 => v = .pointer (some ⟨p, 4, none⟩) | 8 => v = .slice (some ⟨gt, 0, none⟩) n mA.ct | 9 => v = .int .i64 (k : Int) | 10 => v = .string x | 11 => v = .pointer (some ⟨gl, k, none⟩) | 12 => True | 13 => v = .pointer (some ⟨gt, k, none⟩) | 14 => True | _ => True)) hV rfl, hW⟩
        · cases ho
          simp only [Act.put, List.setIfInBounds_toArray, List.set_cons_zero, List.set_cons_succ] at hK
          go_simp
          all_goals first | with_reducible exact hK.out _ _ ⟨val_upd (VAL := (fun j v => match j with | 0 => v = .pointer (some ⟨p, 0, none⟩) | 1 => v = .pointer (some ⟨p, 0, none⟩) | 2 => v = .pointer (some ⟨p, 3, none⟩) | 3 => v = .slice (some ⟨gl, 0, none⟩) n mA.cl | 4 => v = .int .i64 (k : Int) | 5 => v = .pointer (some ⟨p, 0, none⟩) | 6 => v = .pointer (some ⟨p, 0, none⟩) | 7 => v = .pointer (some ⟨p, 4, none⟩) | 8 => v = .slice (some ⟨gt, 0, none⟩) n mA.ct | 9 => v = .int .i64 (k : Int) | 10 => v = .string x | 11 => v = .pointer (some ⟨gl, k, none⟩) | 12 => True | 13 => v = .pointer (some ⟨gt, k, none⟩) | 14 => True | _ => True)) hV rfl, hW⟩ | exact hK.out _ _ ⟨val_upd (VAL := (fun j v => match j with | 0 => v = .pointer (some ⟨p, 0, none⟩) | 1 => v = .pointer (some ⟨p, 0, none⟩) | 2 => v = .pointer (some ⟨p, 3, none⟩) | 3 => v = .slice (some ⟨gl, 0, none⟩) n mA.cl | 4 => v = .int .i64 (k : Int) | 5 => v = .pointer (some ⟨p, 0, none⟩) | 6 => v = .pointer (some ⟨p, 0, none⟩) | 7 => v = .pointer (some ⟨p, 4, none⟩) | 8 => v = .slice (some ⟨gt, 0, none⟩) n mA.ct | 9 => v = .int .i64 (k : Int) | 10 => v = .string x | 11 => v = .pointer (some ⟨gl, k, none⟩) | 12 => True | 13 => v = .pointer (some ⟨gt, k, none⟩) | 14 => True | _ => True)) hV rfl, hW⟩
        · cases ho
          simp only [Act.put, List.setIfInBounds_toArray, List.set_cons_zero, List.set_cons_succ] at hK
          go_simp
          all_goals first | with_reducible exact hK.out _ _ ⟨val_upd (VAL := (fun j v => match j with | 0 => v = .pointer (some ⟨p, 0, none⟩) | 1 => v = .pointer (some ⟨p, 0, none⟩) | 2 => v = .pointer (some ⟨p, 3, none⟩) | 3 => v = .slice (some ⟨gl, 0, none⟩) n mA.cl | 4 => v = .int .i64 (k : Int) | 5 => v = .pointer (some ⟨p, 0, none⟩) | 6 => v = .pointer (some ⟨p, 0, none⟩) | 7 => v = .pointer (some ⟨p, 4, none⟩) | 8 => v = .slice (some ⟨gt, 0, none⟩) n mA.ct | 9 => v = .int .i64 (k : Int) | 10 => v = .string x | 11 => v = .pointer (some ⟨gl, k, none⟩) | 12 => True | 13 => v = .pointer (some ⟨gt, k, none⟩) | 14 => True | _ => True)) hV rfl, hW⟩ | exact hK.out _ _ ⟨val_upd (VAL := (fun j v => match j with | 0 => v = .pointer (some ⟨p, 0, none⟩) | 1 => v = .pointer (some ⟨p, 0, none⟩) | 2 => v = .pointer (some ⟨p, 3, none⟩) | 3 => v = .slice (some ⟨gl, 0, none⟩) n mA.cl | 4 => v = .int .i64 (k : Int) | 5 => v = .pointer (some ⟨p, 0, none⟩) | 6 => v = .pointer (some ⟨p, 0, none⟩) | 7 => v = .pointer (some ⟨p, 4, none⟩) | 8 => v = .slice (some ⟨gt, 0, none⟩) n mA.ct | 9 => v = .int .i64 (k : Int) | 10 => v = .string x | 11 => v = .pointer (some ⟨gl, k, none⟩) | 12 => True | 13 => v = .pointer (some ⟨gt, k, none⟩) | 14 => True | _ => True)) hV rfl, hW⟩
        · cases ho
          have e5 : s_ 5 = _ := hV 5 (by decide) (hd 5 (by kernel_rfl))
          simp only [e5] at hK ⊢
          simp only [Act.put, List.setIfInBounds_toArray, List.set_cons_zero, List.set_cons_succ] at hK
          go_simp
          all_goals first | with_reducible exact hK.out _ _ ⟨val_upd (VAL := (fun j v => match j with | 0 => v = .pointer (some ⟨p, 0, none⟩) | 1 => v = .pointer (some ⟨p, 0, none⟩) | 2 => v = .pointer (some ⟨p, 3, none⟩) | 3 => v = .slice (some ⟨gl, 0, none⟩) n mA.cl | 4 => v = .int .i64 (k : Int) | 5 => v = .pointer (some ⟨p, 0, none⟩) | 6 => v = .pointer (some ⟨p, 0, none⟩) | 7 => v = .pointer (some ⟨p, 4, none⟩) | 8 => v = .slice (some ⟨gt, 0, none⟩) n mA.ct | 9 => v = .int .i64 (k : Int) | 10 => v = .string x | 11 => v = .pointer (some ⟨gl, k, none⟩) | 12 => True | 13 => v = .pointer (some ⟨gt, k, none⟩) | 14 => True | _ => True)) hV rfl, hW⟩ | exact hK.out _ _ ⟨val_upd (VAL := (fun j v => match j with | 0 => v = .pointer (some ⟨p, 0, none⟩) | 1 => v = .pointer (some ⟨p, 0, none⟩) | 2 => v = .pointer (some ⟨p, 3, none⟩) | 3 => v = .slice (some ⟨gl, 0, none⟩) n mA.cl | 4 => v = .int .i64 (k : Int) | 5 => v = .pointer (some ⟨p, 0, none⟩) | 6 => v = .pointer (some ⟨p, 0, none⟩) | 7 => v = .pointer (some ⟨p, 4, none⟩) | 8 => v = .slice (some ⟨gt, 0, none⟩) n mA.ct | 9 => v = .int .i64 (k : Int) | 10 => v = .string x | 11 => v = .pointer (some ⟨gl, k, none⟩) | 12 => True | 13 => v = .pointer (some ⟨gt, k, none⟩) | 14 => True | _ => True)) hV rfl, hW⟩
        · cases ho
          have e6 : s_ 6 = _ := hV 6 (by decide) (hd 6 (by kernel_rfl))
          simp only [e6] at hK ⊢
          simp only [Act.put, List.setIfInBounds_toArray, List.set_cons_zero, List.set_cons_succ] at hK
          go_simp
          all_goals first | with_reducible exact hK.out _ _ ⟨val_upd (VAL := (fun j v => match j with | 0 => v = .pointer (some ⟨p, 0, none⟩) | 1 => v = .pointer (some ⟨p, 0, none⟩) | 2 => v = .pointer (some ⟨p, 3, none⟩) | 3 => v = .slice (some ⟨gl, 0, none⟩) n mA.cl | 4 => v = .int .i64 (k : Int) | 5 => v = .pointer (some ⟨p, 0, none⟩) | 6 => v = .pointer (some ⟨p, 0, none⟩) | 7 => v = .pointer (some ⟨p, 4, none⟩) | 8 => v = .slice (some ⟨gt, 0, none⟩) n mA.ct | 9 => v = .int .i64 (k : Int) | 10 => v = .string x | 11 => v = .pointer (some ⟨gl, k, none⟩) | 12 => True | 13 => v = .pointer (some ⟨gt, k, none⟩) | 14 => True | _ => True)) hV rfl, hW⟩ | exact hK.out _ _ ⟨val_upd (VAL := (fun j v => match j with | 0 => v = .pointer (some ⟨p, 0, none⟩) | 1 => v = .pointer (some ⟨p, 0, none⟩) | 2 => v = .pointer (some ⟨p, 3, none⟩) | 3 => v = .slice (some ⟨gl, 0, none⟩) n mA.cl | 4 => v = .int .i64 (k : Int) | 5 => v = .pointer (some ⟨p, 0, none⟩) | 6 => v = .pointer (some ⟨p, 0, none⟩) | 7 => v = .pointer (some ⟨p, 4, none⟩) | 8 => v = .slice (some ⟨gt, 0, none⟩) n mA.ct | 9 => v = .int .i64 (k : Int) | 10 => v = .string x | 11 => v = .pointer (some ⟨gl, k, none⟩) | 12 => True | 13 => v = .pointer (some ⟨gt, k, none⟩) | 14 => True | _ => True)) hV rfl, hW⟩
        · cases ho
          have e7 : s_ 7 = _ := hV 7 (by decide) (hd 7 (by kernel_rfl))
          simp only [e7] at hK ⊢
          simp only [Act.put, List.setIfInBounds_toArray, List.set_cons_zero, List.set_cons_succ] at hK
          have t0 := S9.c4 hW.1
          rw [hgt, hnT, HPA.out] at t0
          go_simp
          all_goals first | with_reducible exact hK.out _ _ ⟨val_upd (VAL := (fun j v => match j with | 0 => v = .pointer (some ⟨p, 0, none⟩) | 1 => v = .pointer (some ⟨p, 0, none⟩) | 2 => v = .pointer (some ⟨p, 3, none⟩) | 3 => v = .slice (some ⟨gl, 0, none⟩) n mA.cl | 4 => v = .int .i64 (k : Int) | 5 => v = .pointer (some ⟨p, 0, none⟩) | 6 => v = .pointer (some ⟨p, 0, none⟩) | 7 => v = .pointer (some ⟨p, 4, none⟩) | 8 => v = .slice (some ⟨gt, 0, none⟩) n mA.ct | 9 => v = .int .i64 (k : Int) | 10 => v = .string x | 11 => v = .pointer (some ⟨gl, k, none⟩) | 12 => True | 13 => v = .pointer (some ⟨gt, k, none⟩) | 14 => True | _ => True)) hV rfl, hW⟩ | exact hK.out _ _ ⟨val_upd (VAL := (fun j v => match j with | 0 => v = .pointer (some ⟨p, 0, none⟩) | 1 => v = .pointer (some ⟨p, 0, none⟩) | 2 => v = .pointer (some ⟨p, 3, none⟩) | 3 => v = .slice (some ⟨gl, 0, none⟩) n mA.cl | 4 => v = .int .i64 (k : Int) | 5 => v = .pointer (some ⟨p, 0, none⟩) | 6 => v = .pointer (some ⟨p, 0, none⟩) | 7 => v = .pointer (some ⟨p, 4, none⟩) | 8 => v = .slice (some ⟨gt, 0, none⟩) n mA.ct | 9 => v = .int .i64 (k : Int) | 10 => v = .string x | 11 => v = .pointer (some ⟨gl, k, none⟩) | 12 => True | 13 => v = .pointer (some ⟨gt, k, none⟩) | 14 => True | _ => True)) hV rfl, hW⟩
        · cases ho
          simp only [Act.put, List.setIfInBounds_toArray, List.set_cons_zero, List.set_cons_succ] at hK
          go_simp
          all_goals first | with_reducible exact hK.out _ _ ⟨val_upd (VAL := (fun j v => match j with | 0 => v = .pointer (some ⟨p, 0, none⟩) | 1 => v = .pointer (some ⟨p, 0, none⟩) | 2 => v = .pointer (some ⟨p, 3, none⟩) | 3 => v = .slice (some ⟨gl, 0, none⟩) n mA.cl | 4 => v = .int .i64 (k : Int) | 5 => v = .pointer (some ⟨p, 0, none⟩) | 6 => v = .pointer (some ⟨p, 0, none⟩) | 7 => v = .pointer (some ⟨p, 4, none⟩) | 8 => v = .slice (some ⟨gt, 0, none⟩) n mA.ct | 9 => v = .int .i64 (k : Int) | 10 => v = .string x | 11 => v = .pointer (some ⟨gl, k, none⟩) | 12 => True | 13 => v = .pointer (some ⟨gt, k, none⟩) | 14 => True | _ => True)) hV rfl, hW⟩ | exact hK.out _ _ ⟨val_upd (VAL := (fun j v => match j with | 0 => v = .pointer (some ⟨p, 0, none⟩) | 1 => v = .pointer (some ⟨p, 0, none⟩) | 2 => v = .pointer (some ⟨p, 3, none⟩) | 3 => v = .slice (some ⟨gl, 0, none⟩) n mA.cl | 4 => v = .int .i64 (k : Int) | 5 => v = .pointer (some ⟨p, 0, none⟩) | 6 => v = .pointer (some ⟨p, 0, none⟩) | 7 => v = .pointer (some ⟨p, 4, none⟩) | 8 => v = .slice (some ⟨gt, 0, none⟩) n mA.ct | 9 => v = .int .i64 (k : Int) | 10 => v = .string x | 11 => v = .pointer (some ⟨gl, k, none⟩) | 12 => True | 13 => v = .pointer (some ⟨gt, k, none⟩) | 14 => True | _ => True)) hV rfl, hW⟩
        · cases ho
          simp only [Act.put, List.setIfInBounds_toArray, List.set_cons_zero, List.set_cons_succ] at hK
          go_simp
          all_goals first | with_reducible exact hK.out _ _ ⟨val_upd (VAL := (fun j v => match j with | 0 => v = .pointer (some ⟨p, 0, none⟩) | 1 => v = .pointer (some ⟨p, 0, none⟩) | 2 => v = .pointer (some ⟨p, 3, none⟩) | 3 => v = .slice (some ⟨gl, 0, none⟩) n mA.cl | 4 => v = .int .i64 (k : Int) | 5 => v = .pointer (some ⟨p, 0, none⟩) | 6 => v = .pointer (some ⟨p, 0, none⟩) | 7 => v = .pointer (some ⟨p, 4, none⟩) | 8 => v = .slice (some ⟨gt, 0, none⟩) n mA.ct | 9 => v = .int .i64 (k : Int) | 10 => v = .string x | 11 => v = .pointer (some ⟨gl, k, none⟩) | 12 => True | 13 => v = .pointer (some ⟨gt, k, none⟩) | 14 => True | _ => True)) hV rfl, hW⟩ | exact hK.out _ _ ⟨val_upd (VAL := (fun j v => match j with | 0 => v = .pointer (some ⟨p, 0, none⟩) | 1 => v = .pointer (some ⟨p, 0, none⟩) | 2 => v = .pointer (some ⟨p, 3, none⟩) | 3 => v = .slice (some ⟨gl, 0, none⟩) n mA.cl | 4 => v = .int .i64 (k : Int) | 5 => v = .pointer (some ⟨p, 0, none⟩) | 6 => v = .pointer (some ⟨p, 0, none⟩) | 7 => v = .pointer (some ⟨p, 4, none⟩) | 8 => v = .slice (some ⟨gt, 0, none⟩) n mA.ct | 9 => v = .int .i64 (k : Int) | 10 => v = .string x | 11 => v = .pointer (some ⟨gl, k, none⟩) | 12 => True | 13 => v = .pointer (some ⟨gt, k, none⟩) | 14 => True | _ => True)) hV rfl, hW⟩
        · cases ho
          have e3 : s_ 3 = _ := hV 3 (by decide) (hd 3 (by kernel_rfl))
          have e4 : s_ 4 = _ := hV 4 (by decide) (hd 4 (by kernel_rfl))
          simp only [e3, e4] at hK ⊢
          simp only [Act.put, List.setIfInBounds_toArray, List.set_cons_zero, List.set_cons_succ] at hK
          go_simp
          all_goals first | with_reducible exact hK.out _ _ ⟨val_upd (VAL := (fun j v => match j with | 0 => v = .pointer (some ⟨p, 0, none⟩) | 1 => v = .pointer (some ⟨p, 0, none⟩) | 2 => v = .pointer (some ⟨p, 3, none⟩) | 3 => v = .slice (some ⟨gl, 0, none⟩) n mA.cl | 4 => v = .int .i64 (k : Int) | 5 => v = .pointer (some ⟨p, 0, none⟩) | 6 => v = .pointer (some ⟨p, 0, none⟩) | 7 => v = .pointer (some ⟨p, 4, none⟩) | 8 => v = .slice (some ⟨gt, 0, none⟩) n mA.ct | 9 => v = .int .i64 (k : Int) | 10 => v = .string x | 11 => v = .pointer (some ⟨gl, k, none⟩) | 12 => True | 13 => v = .pointer (some ⟨gt, k, none⟩) | 14 => True | _ => True)) hV rfl, hW⟩ | exact hK.out _ _ ⟨val_upd (VAL := (fun j v => match j with | 0 => v = .pointer (some ⟨p, 0, none⟩) | 1 => v = .pointer (some ⟨p, 0, none⟩) | 2 => v = .pointer (some ⟨p, 3, none⟩) | 3 => v = .slice (some ⟨gl, 0, none⟩) n mA.cl | 4 => v = .int .i64 (k : Int) | 5 => v = .pointer (some ⟨p, 0, none⟩) | 6 => v = .pointer (some ⟨p, 0, none⟩) | 7 => v = .pointer (some ⟨p, 4, none⟩) | 8 => v = .slice (some ⟨gt, 0, none⟩) n mA.ct | 9 => v = .int .i64 (k : Int) | 10 => v = .string x | 11 => v = .pointer (some ⟨gl, k, none⟩) | 12 => True | 13 => v = .pointer (some ⟨gt, k, none⟩) | 14 => True | _ => True)) hV rfl, hW⟩
        · cases ho
          simp only [Act.put, List.setIfInBounds_toArray, List.set_cons_zero, List.set_cons_succ] at hK
          have e11 : s_ 11 = _ := hV 11 (by decide) (hd 11 (by kernel_rfl))
          obtain ⟨⟨u0, t0⟩, z0⟩ := S9.xl hW.1 hgl (by rw [hnL]; exact hkn)
          have hS1 := hW.1
          rw [hLi] at hS1
          have hJ := hide (S9.setL hS1 hgl (by rw [hnL]; exact hkn))
          have hFq := hide (hW.2.1.set (hW.2.1.in (Sm.lF hgl)) k (.bool true))
          have hq1 := hide ((set_block (W := W) (n := gl) (o := k) (v := .bool true) hglq (o' := 0)).trans hW.2.2.1)
          have hq2 := hide ((set_block (W := W) (n := gl) (o := k) (v := .bool true) hglq (o' := 1)).trans hW.2.2.2.1)
          have hq3 : Hid (∀ o, (W.setCell ⟨gl, k, none⟩ (.bool true)).frozen? ⟨q, o, none⟩ = false) := (fun o => (World.frozen?_setCell _ _ _ _).trans (hW.2.2.2.2 o))
          simp only [e11] at hK ⊢
          clear hW
          go_simp
          exact hK.out undef _ ⟨val_upd (VAL := (fun j v => match j with | 0 => v = .pointer (some ⟨p, 0, none⟩) | 1 => v = .pointer (some ⟨p, 0, none⟩) | 2 => v = .pointer (some ⟨p, 3, none⟩) | 3 => v = .slice (some ⟨gl, 0, none⟩) n mA.cl | 4 => v = .int .i64 (k : Int) | 5 => v = .pointer (some ⟨p, 0, none⟩) | 6 => v = .pointer (some ⟨p, 0, none⟩) | 7 => v = .pointer (some ⟨p, 4, none⟩) | 8 => v = .slice (some ⟨gt, 0, none⟩) n mA.ct | 9 => v = .int .i64 (k : Int) | 10 => v = .string x | 11 => v = .pointer (some ⟨gl, k, none⟩) | 12 => True | 13 => v = .pointer (some ⟨gt, k, none⟩) | 14 => True | _ => True)) hV trivial, hJ.out, hFq.out, hq1.out, hq2.out, hq3.out⟩
        · cases ho
          have e8 : s_ 8 = _ := hV 8 (by decide) (hd 8 (by kernel_rfl))
          have e9 : s_ 9 = _ := hV 9 (by decide) (hd 9 (by kernel_rfl))
          simp only [e8, e9] at hK ⊢
          simp only [Act.put, List.setIfInBounds_toArray, List.set_cons_zero, List.set_cons_succ] at hK
          go_simp
          all_goals first | with_reducible exact hK.out _ _ ⟨val_upd (VAL := (fun j v => match j with | 0 => v = .pointer (some ⟨p, 0, none⟩) | 1 => v = .pointer (some ⟨p, 0, none⟩) | 2 => v = .pointer (some ⟨p, 3, none⟩) | 3 => v = .slice (some ⟨gl, 0, none⟩) n mA.cl | 4 => v = .int .i64 (k : Int) | 5 => v = .pointer (some ⟨p, 0, none⟩) | 6 => v = .pointer (some ⟨p, 0, none⟩) | 7 => v = .pointer (some ⟨p, 4, none⟩) | 8 => v = .slice (some ⟨gt, 0, none⟩) n mA.ct | 9 => v = .int .i64 (k : Int) | 10 => v = .string x | 11 => v = .pointer (some ⟨gl, k, none⟩) | 12 => True | 13 => v = .pointer (some ⟨gt, k, none⟩) | 14 => True | _ => True)) hV rfl, hW⟩ | exact hK.out _ _ ⟨val_upd (VAL := (fun j v => match j with | 0 => v = .pointer (some ⟨p, 0, none⟩) | 1 => v = .pointer (some ⟨p, 0, none⟩) | 2 => v = .pointer (some ⟨p, 3, none⟩) | 3 => v = .slice (some ⟨gl, 0, none⟩) n mA.cl | 4 => v = .int .i64 (k : Int) | 5 => v = .pointer (some ⟨p, 0, none⟩) | 6 => v = .pointer (some ⟨p, 0, none⟩) | 7 => v = .pointer (some ⟨p, 4, none⟩) | 8 => v = .slice (some ⟨gt, 0, none⟩) n mA.ct | 9 => v = .int .i64 (k : Int) | 10 => v = .string x | 11 => v = .pointer (some ⟨gl, k, none⟩) | 12 => True | 13 => v = .pointer (some ⟨gt, k, none⟩) | 14 => True | _ => True)) hV rfl, hW⟩
        · cases ho
          simp only [Act.put, List.setIfInBounds_toArray, List.set_cons_zero, List.set_cons_succ] at hK
          have e10 : s_ 10 = _ := hV 10 (by decide) (hd 10 (by kernel_rfl))
          have e13 : s_ 13 = _ := hV 13 (by decide) (hd 13 (by kernel_rfl))
          obtain ⟨⟨u0, t0⟩, z0⟩ := S9.xt hW.1 hgt (by rw [hnT]; exact hkn)
          have hS1 := hW.1
          rw [hLi] at hS1
          have hJ := hide (S9.setT hS1 hgt (by rw [hnT]; exact hkn))
          have hFq := hide (hW.2.1.set (hW.2.1.in (Sm.tF hgt)) k (.string x))
          have hq1 := hide ((set_block (W := W) (n := gt) (o := k) (v := .string x) hgtq (o' := 0)).trans hW.2.2.1)
          have hq2 := hide ((set_block (W := W) (n := gt) (o := k) (v := .string x) hgtq (o' := 1)).trans hW.2.2.2.1)
          have hq3 : Hid (∀ o, (W.setCell ⟨gt, k, none⟩ (.string x)).frozen? ⟨q, o, none⟩ = false) := (fun o => (World.frozen?_setCell _ _ _ _).trans (hW.2.2.2.2 o))
          simp only [e13, e10] at hK ⊢
          clear hW
          go_simp
          exact hK.out undef _ ⟨val_upd (VAL := (fun j v => match j with | 0 => v = .pointer (some ⟨p, 0, none⟩) | 1 => v = .pointer (some ⟨p, 0, none⟩) | 2 => v = .pointer (some ⟨p, 3, none⟩) | 3 => v = .slice (some ⟨gl, 0, none⟩) n mA.cl | 4 => v = .int .i64 (k : Int) | 5 => v = .pointer (some ⟨p, 0, none⟩) | 6 => v = .pointer (some ⟨p, 0, none⟩) | 7 => v = .pointer (some ⟨p, 4, none⟩) | 8 => v = .slice (some ⟨gt, 0, none⟩) n mA.ct | 9 => v = .int .i64 (k : Int) | 10 => v = .string x | 11 => v = .pointer (some ⟨gl, k, none⟩) | 12 => True | 13 => v = .pointer (some ⟨gt, k, none⟩) | 14 => True | _ => True)) hV trivial, hJ.out, hFq.out, hq1.out, hq2.out, hq3.out⟩
      case ht_w9n =>
        intro s_ W hj
        obtain ⟨hV, hW⟩ := hj
        have e0 : s_ 0 = _ := hV 0 (by decide) rfl
        have e1 : s_ 1 = _ := hV 1 (by decide) rfl
        have e2 : s_ 2 = _ := hV 2 (by decide) rfl
        have e3 : s_ 3 = _ := hV 3 (by decide) rfl
        have e4 : s_ 4 = _ := hV 4 (by decide) rfl
        have e5 : s_ 5 = _ := hV 5 (by decide) rfl
        have e6 : s_ 6 = _ := hV 6 (by decide) rfl
        have e7 : s_ 7 = _ := hV 7 (by decide) rfl
        have e8 : s_ 8 = _ := hV 8 (by decide) rfl
        have e9 : s_ 9 = _ := hV 9 (by decide) rfl
        have e10 : s_ 10 = _ := hV 10 (by decide) rfl
        have e11 : s_ 11 = _ := hV 11 (by decide) rfl
        have e13 : s_ 13 = _ := hV 13 (by decide) rfl
        simp only [e0, e1, e2, e3, e4, e5, e6, e7, e8, e9, e10, e11, e13]
        clear hV e0 e1 e2 e3 e4 e5 e6 e7 e8 e9 e10 e11 e13
        obtain ⟨hS9, hF9, q0, q1, qf⟩ := hW
        have hS9 : Sto W mA (S9 S8 k (.string x) true true) := hS9
        obtain ⟨W9, hW9⟩ : ∃ x, x = W := ⟨_, rfl⟩
        rw [← hW9] at hS9 hF9 q0 q1 qf ⊢
        clear hW9
        have hS10 := hide (hS9.set5 (s.ln + 1))
        have hF10 := hide (hF9.set (hF9.in (Sto.pF (m := mA))) 5 (.int .i64 ((s.ln + 1 : Nat) : Int)))
        have c5 := hS9.c5
        have f5 := hS9.fz 5
        have hpq : q ≠ mA.p := fun e => hqA (by rw [e]; exact Sto.pF)
        have r0 := (set_block (W := W9) (n := mA.p) (o := 5) (v := .int .i64 ((s.ln + 1 : Nat) : Int)) hpq (o' := 0)).trans q0
        have r1 := (set_block (W := W9) (n := mA.p) (o := 5) (v := .int .i64 ((s.ln + 1 : Nat) : Int)) hpq (o' := 1)).trans q1
        rw [show (S9 S8 k (.string x) true true).ln = s.ln from HLN.out] at c5
        rw [show ((s.ln + 1 : Nat) : Int) = (s.ln : Int) + 1 by omega] at hS10 hF10 r0 r1
        have rf : ∀ o, (W9.setCell ⟨mA.p, 5, none⟩ (.int .i64 ((s.ln : Int) + 1))).frozen? ⟨q, o, none⟩ = false := fun o => (World.frozen?_setCell _ _ _ _).trans (qf o)
        rw [HPA.out] at hS10 hF10 c5 f5 r0 r1 rf
        have ew5 : IntKind.wrap .i64 ((s.ln : Int) + 1) = (s.ln : Int) + 1 := by rw [IntKind.wrap_i64]; omega
        clear hS9 hF9 q0 q1 qf c3 c4
        go_upto_region 11 with (fail)
        obtain ⟨W10, hW10⟩ : ∃ x, x = W9.setCell ⟨p, 5, none⟩ (.int .i64 ((s.ln : Int) + 1)) := ⟨_, rfl⟩
        rw [← hW10] at hS10 hF10 r0 r1 rf ⊢
        clear hW10 c5 f5
        have hha := handle_S mA _ W10 hS10.out k (u + 1) (HU1.out) (by omega)
        rw [HPA.out] at hha
        go_wp2_with (first | (go_at_call 37; (with_reducible refine (hha).mono ?_); rintro e w11 ⟨rfl, hb11⟩; obtain ⟨W12, hW12, z0, z1, hS12, hF12⟩ := q_end (k : Int) ((u : Int) + 1) (keep hb11 r0) (keep hb11 r1) (hS10.out.bel hb11) hqA (hF10.out.trans (Fr.of_bel hb11)) hqb.out; replace hS12 := hide hS12; replace hF12 := hide hF12; replace r0 := keep hb11 r0; replace r1 := keep hb11 r1; replace rf : ∀ o, w11.frozen? ⟨q, o, none⟩ = false := (fun o => (hb11.2 _).trans (rf o))))
        rw [← hW12]
        clear hW12
        refine bodyPost_ret (v := .tuple #[.agg #[.int .u32 (k : Int), .int .u32 ((u : Int) + 1)], .int .i64 0]) (by simp [results, Try.results16, go_sem, z0, z1]) rfl ?_
        refine ⟨k, mA, hN.out, HPA.out, hF12.out, .inr ⟨hkl.out, ?_, ?_⟩⟩
        · rw [HRET.out, show ((u + 1 : Nat) : Int) = (u : Int) + 1 by omega]
        · rw [← HE8.out]; exact hS12.out

end Go.Proofs.Ytnfhedmlifjlmaa
