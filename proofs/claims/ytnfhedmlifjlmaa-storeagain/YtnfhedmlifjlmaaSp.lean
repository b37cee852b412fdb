/-
  What each function of package store answers, and what its memory holds afterwards: one contract a function; of the memory that was there only the store's own blocks have turned.
-/
import Derived.Test.YtnfhedmlifjlmaaChecked
import Derived.Test.YtnfhedmlifjlmaaSn
import Derived.Test.YtnfhedmlifjlmaaSe
import Derived.Below
import Derived.BigQuiet
import Derived.OwnWalk
import Derived.Laws.AppendOwn
import Derived.Laws.AppendOwnNone
import Derived.WalkKit
import Derived.WalkLawsBesides
import Derived.WalkSpells
import Derived.ProofKit
import Derived.OpenShut
import Derived.Deep.RegionHeld3
import Derived.Deep.LoopGhost
import Derived.Laws.StructEq
import Derived.Lib.Builder
import Derived.Deep.DeepCutAuto
import Derived.Lib.SliceRun
import Derived.Laws.MakeOwn
namespace Go.Proofs.Ytnfhedmlifjlmaa
open Go.ChangeShapes Go.WideShapes Go.ChangeAt Go.RowKit Go.Lib
set_option linter.unusedVariables false
set_option linter.unusedSimpArgs false
set_option maxRecDepth 100000
set_option maxHeartbeats 4000000


theorem open_I (most gu ou gl ol gt ot n au al at_ : Nat) (U : List Nat) (L : List Bool) (TT : List Value) (w : World) (h1 : 1 ≤ most) (h2 : most ≤ 16384) (hU : Rw w gu ou (uRow U)) (hL : Rw w gl ol (lRow L)) (hT : Rw w gt ot TT) (hu : U.length = n) (hl : L.length = n) (ht : TT.length = n) (hn : 0 < n) (hnm : n ≤ most) (ho : ∀ v ∈ TT, v.oneCell' = true) (hno : ∀ i : Nat, L[i]? = some true → U[i]? ≠ some 0) : Calls Try.prog 9 #[.int .i64 (most : Int), .slice (some ⟨gu, ou, none⟩) n au, .slice (some ⟨gl, ol, none⟩) n al, .slice (some ⟨gt, ot, none⟩) n at_] w fun e w' => ∃ m : Sm, e = .returned (.tuple #[.pointer (some ⟨m.p, 0, none⟩), .int .i64 0]) ∧ (∀ k ∈ m.F, w.heap.size ≤ k) ∧ Sto w' m ⟨most, L.count true, 0, U, L, clrT L TT (.int .i64 0) n⟩ ∧ Below w.heap.size w w' := by
  have z1 : ¬ (most : Int) < 1 := by omega
  have z2 : ¬ (16384 : Int) < (most : Int) := by omega
  have z3 : ¬ (most : Int) < (n : Int) := by omega
  have hun := unused_s gu ou gl ol n au al U L w hU hL hu hl (by omega) hno
  have hcu := cloned_uI gu ou n au (uRow U) w hU (by rw [uRow_len]; exact hu) (by intro v hv; obtain ⟨i, _, rfl⟩ := List.mem_map.1 hv; rfl) hn (by omega)
  go_enter Try.func9, Try.ntmps9
  go_upto_region 5 with (first | (go_at_call 24; (with_reducible refine hun.mono ?_); rintro e w1 ⟨rfl, hw1⟩; rw [hw1]; clear hw1))
  clear hun hno
  go_upto_region 6 with (first | (go_at_call 25; (with_reducible refine hcu.mono ?_); rintro e w1 ⟨su, cu, rfl, hRu, hbu, hB1⟩; have hcl := cloned_bI gl ol n al (lRow L) w1 (fun j v hj => (hB1.cell (World.block_lt_of_cell? _ _ (hL j v hj))).trans (hL j v hj)) (by rw [lRow_len]; exact hl) (by intro v hv; obtain ⟨i, _, rfl⟩ := List.mem_map.1 hv; rfl) hn (by omega)) | (go_at_call 26; (with_reducible refine hcl.mono ?_); rintro e w2 ⟨sl, cl, rfl, hRl, hbl, hB2⟩; have hB12 := hB1.trans (hB2.mono hB1.size); have hct := cloned_tI gt ot n at_ TT w2 (fun j v hj => (hB12.cell (World.block_lt_of_cell? _ _ (hT j v hj))).trans (hT j v hj)) ht ho hn (by omega)) | (go_at_call 27; (with_reducible refine hct.mono ?_); rintro e w3 ⟨st, ct, rfl, hRt, hbt, hB3⟩))
  have hB := hB12.trans (hB3.mono hB12.size)
  have x : ∀ o v, #[.pointer (some ⟨w3.heap.size, 0, none⟩), .int .i64 (most : Int), .slice su n cu, .slice sl n cl, .slice st n ct, .int .i64 0, .int .i64 0][o]? = some v → (w3.alloc (.cells #[.pointer (some ⟨w3.heap.size, 0, none⟩), .int .i64 (most : Int), .slice su n cu, .slice sl n cl, .slice st n ct, .int .i64 0, .int .i64 0] 54)).cell? ⟨w3.heap.size, o, none⟩ = some v := fun o v h => by
    rw [World.cell?_alloc_new]; exact h
  have b4 := st_bel (W := w3) #[.pointer (some ⟨w3.heap.size, 0, none⟩), .int .i64 (most : Int), .slice su n cu, .slice sl n cl, .slice st n ct, .int .i64 0, .int .i64 0] 54
  have qu : ∀ k ∈ ob su, w.heap.size ≤ k ∧ k < w1.heap.size := fun k hk => ⟨hbu k hk, hRu.lt k hk⟩
  have ql : ∀ k ∈ ob sl, w1.heap.size ≤ k ∧ k < w2.heap.size := fun k hk => ⟨hbl k hk, hRl.lt k hk⟩
  have qt : ∀ k ∈ ob st, w2.heap.size ≤ k ∧ k < w3.heap.size := fun k hk => ⟨hbt k hk, hRt.lt k hk⟩
  have s1 := hB1.size
  have s2 := hB2.size
  have s3 := hB3.size
  have hRu3 := ((hRu.low hB2).low hB3).bel b4
  have hRl3 := (hRl.low hB3).bel b4
  have hRt3 := hRt.bel b4
  have hS := hide (show Sto (w3.alloc (.cells #[.pointer (some ⟨w3.heap.size, 0, none⟩), .int .i64 (most : Int), .slice su n cu, .slice sl n cl, .slice st n ct, .int .i64 0, .int .i64 0] 54)) ⟨w3.heap.size, su, cu, sl, cl, st, ct⟩ ⟨most, (L.take 0).count true, 0, U, L, clrT L TT (.int .i64 0) 0⟩ from ⟨x 0 _ rfl, x 1 _ rfl, by rw [hu]; exact x 2 _ rfl, by rw [hl]; exact x 3 _ rfl, by rw [clrT_len, ht]; exact x 4 _ rfl, x 5 _ rfl, x 6 _ rfl, fun o => fz_new o, by rw [hu]; exact hRu3, by rw [hl]; exact hRl3, by rw [clrT_len, ht]; exact hRt3, fun h => by have := qu _ h; simp only at this; omega, fun h => by have := ql _ h; simp only at this; omega, fun h => by have := qt _ h; simp only at this; omega, fun k hk => ⟨fun h => by have := qu k hk; have := ql k h; omega, fun h => by have := qu k hk; have := qt k h; omega⟩, fun k hk h => by have := ql k hk; have := qt k h; omega⟩)
  have hmF : Hid (∀ k ∈ (⟨w3.heap.size, su, cu, sl, cl, st, ct⟩ : Sm).F, w.heap.size ≤ k) := (fun k hk => by
    simp only [Sm.F, List.mem_cons, List.mem_append] at hk
    rcases hk with rfl | (hk | hk) | hk
    · omega
    · exact (qu k hk).1
    · have := ql k hk; omega
    · have := qt k hk; omega : ∀ k ∈ (⟨w3.heap.size, su, cu, sl, cl, st, ct⟩ : Sm).F, w.heap.size ≤ k)
  have hB4 := hide (hB.trans (b4.1.mono hB.size))
  have hLb : Hid (∀ j v, (lRow L)[j]? = some v → gl < w.heap.size) := (fun j v hj => World.block_lt_of_cell? _ _ (hL j v hj) : ∀ j v, (lRow L)[j]? = some v → gl < w.heap.size)
  go_upto_region 8 with (fail)
  obtain ⟨W4, hW4⟩ : ∃ x, x = w3.alloc (.cells #[.pointer (some ⟨w3.heap.size, 0, none⟩), .int .i64 (most : Int), .slice su n cu, .slice sl n cl, .slice st n ct, .int .i64 0, .int .i64 0] 54) := ⟨_, rfl⟩
  obtain ⟨p, hp⟩ : ∃ p, p = w3.heap.size := ⟨_, rfl⟩
  rw [← hW4] at hS hB4 ⊢
  rw [← hp] at hmF hS ⊢
  have hB4' := hB4
  obtain ⟨m, hm⟩ : ∃ m : Sm, m = ⟨p, su, cu, sl, cl, st, ct⟩ := ⟨_, rfl⟩
  have HPm : Hid (m.p = p) := by rw [hm]; rfl
  rw [← hm] at hS hmF
  clear hW4 hp hm x b4 hRu hRl hRt hRu3 hRl3 hRt3 qu ql qt hB1 hB2 hB3 hB hB12 hB4 hbu hbl hbt hcu hcl hct
  have hln : ∀ k, (L.take k).count true ≤ n := fun k => by
    have h1 := List.count_le_length (a := true) (l := L.take k)
    have h2 : (L.take k).length ≤ L.length := by rw [List.length_take]; omega
    omega
  go_loopg [57] n (fun kx s57 wr => ∃ k : Nat, s57 = .int .i64 (k : Int) ∧ k ≤ n ∧ n - k ≤ kx ∧ Hid (Sto wr m ⟨most, (L.take k).count true, 0, U, L, clrT L TT (.int .i64 0) k⟩) ∧ Hid (Fr m.F m.F W4 wr))
  case atStart => exact ⟨0, rfl, Nat.zero_le _, Nat.le_refl _, hS, Fr.refl _ _⟩
  case round =>
    clear hS
    obtain ⟨k, rfl, hk, hkx, hSk, hfk⟩ := hrel
    have hBk := hide (hB4'.out.trans ((hfk.out.below hB4'.out.size hmF.out)))
    by_cases hlt : k < n
    · have hz : (k : Int) < (n : Int) := by omega
      have ewk : IntKind.wrap .i64 ((k : Int) + 1) = (k : Int) + 1 := by rw [IntKind.wrap_i64]; omega
      obtain ⟨b, hb⟩ := get_of_lt (l := L) (i := k) (by omega)
      have yl := hL k (.bool b) (by rw [lRow_get, hb]; rfl)
      have yl2 := (hBk.out.cell (p := ⟨gl, ol + k, none⟩) (hLb.out k _ (by rw [lRow_get, hb]; rfl))).trans yl
      have hct2 := hide (count_take hb)
      have HB := hide hb
      clear yl hb
      cases b with
      | true =>
        have c5 := hSk.out.c5
        have f5 := hSk.out.fz 5
        simp only at c5
        have hlk := hln k
        obtain ⟨c, hc⟩ : ∃ c, (L.take k).count true = c := ⟨_, rfl⟩
        have hS5 := hide (hSk.out.set5 (c + 1))
        have hF5 := hide (hfk.out.set (.inl (Sto.pF (m := m))) 5 (.int .i64 ((c + 1 : Nat) : Int)))
        rw [hc] at c5 hlk
        rw [HPm.out] at c5 f5 hS5 hF5
        rw [show ((c + 1 : Nat) : Int) = (c : Int) + 1 by omega] at hS5 hF5
        have ewc : IntKind.wrap .i64 ((c : Int) + 1) = (c : Int) + 1 := by rw [IntKind.wrap_i64]; omega
        have HC := hide hc
        clear hc
        go_wp2
        go_roundg (n - (k + 1))
        case measure => omega
        case rel => exact ⟨k + 1, by go_num, by omega, Nat.le_refl _, (by rw [hct2.out, HC.out, show clrT L TT (.int .i64 0) (k + 1) = clrT L TT (.int .i64 0) k by show (if _ then _ else _) = _; rw [if_pos HB.out]]; exact hS5.out), hF5.out⟩
      | false =>
        have hem := empty_I m _ wr hSk.out k (by show k < (clrT L TT (.int .i64 0) k).length; rw [clrT_len]; omega) (by show (clrT L TT (.int .i64 0) k).length ≤ _; rw [clrT_len]; omega)
        rw [HPm.out] at hem
        go_wp2_with (first | (go_at_call 28; (with_reducible refine hem.mono ?_); rintro e w5 ⟨rfl, hS5, hf5⟩; replace hS5 := hide hS5; replace hf5 := hide (hfk.out.trans hf5)))
        go_roundg (n - (k + 1))
        case measure => omega
        case rel => exact ⟨k + 1, by go_num, by omega, Nat.le_refl _, (by have := hS5.out; rw [hct2.out, show clrT L TT (.int .i64 0) (k + 1) = (clrT L TT (.int .i64 0) k).set k (.int .i64 0) by show (if _ then _ else _) = _; rw [if_neg (by rw [HB.out]; simp)]]; exact this), hf5.out⟩
    · have hz : ¬ (k : Int) < (n : Int) := by omega
      have hkn : n = k := by omega
      subst hkn
      go_wp2
      refine bodyPost_ret (v := .tuple #[.pointer (some ⟨p, 0, none⟩), .int .i64 0]) (by simp [results, Try.results9, go_sem]) rfl ?_
      exact ⟨m, by rw [HPm.out], hmF.out, (by have := hSk.out; rw [List.take_of_length_le (by omega)] at this; exact this), hBk.out⟩

end Go.Proofs.Ytnfhedmlifjlmaa
