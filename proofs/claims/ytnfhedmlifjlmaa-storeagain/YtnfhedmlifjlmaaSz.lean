/-
  What each function of package store answers, and what its memory holds afterwards: one contract a function; of the memory that was there only the store's own blocks have turned.
-/
import Derived.Test.YtnfhedmlifjlmaaChecked
import Derived.Test.YtnfhedmlifjlmaaSy
import Derived.Test.YtnfhedmlifjlmaaStk
import Derived.Test.YtnfhedmlifjlmaaSp
import Derived.Test.YtnfhedmlifjlmaaAl
import Derived.RangeFuncNested
import Derived.RangeFuncBound
import Derived.RangeFuncCalls
import Derived.RangeFuncLeaves
import Derived.Shelf.Abstract
import Derived.Shelf.RegionOpen
import Derived.OwnWalkIn
import Derived.TacticsInMore
import Derived.LoopNIn
import Derived.LoopIn
import Derived.Maps.OwnIn
import Derived.Sort.LoopGhostIn
import Derived.BigRegionIn
import Derived.Stop.RegionWithIn
import Derived.Below
import Derived.BigQuiet
import Derived.OwnWalk
import Derived.Laws.AppendOwn
import Derived.Laws.AppendOwnNone
import Derived.WalkKit
import Derived.WalkLawsBesides
import Derived.WalkSpells
import Derived.ProofKit
import Derived.OpenShut
import Derived.Deep.RegionHeld3
import Derived.Deep.LoopGhost
import Derived.Laws.StructEq
import Derived.Lib.Builder
import Derived.Deep.DeepCutAuto
import Derived.Lib.SliceRun
import Derived.Laws.MakeOwn
namespace Go.Proofs.Ytnfhedmlifjlmaa
open Go.ChangeShapes Go.WideShapes Go.ChangeAt Go.RowKit Go.Lib
set_option linter.unusedVariables false
set_option linter.unusedSimpArgs false
set_option maxRecDepth 100000
set_option maxHeartbeats 4000000


theorem open_bigI (w : World) : Calls Try.prog 9 #[.int .i64 16385, .slice none 0 0, .slice none 0 0, .slice none 0 0] w fun e w' => e = .returned (.tuple #[.pointer none, .int .i64 2]) ∧ Bel w w' := by
  go_enter Try.func9, Try.ntmps9
  go_wp2
  refine bodyPost_ret (v := .tuple #[.pointer none, .int .i64 2]) (by simp [results, Try.results9, go_sem]) rfl ?_
  exact ⟨rfl, bl_refl _⟩
theorem new_bigI (w : World) : Calls Try.prog 6 #[.int .i64 16385] w fun e w' => e = .returned (.tuple #[.pointer none, .int .i64 2]) ∧ Bel w w' := by
  go_enter Try.func6, Try.ntmps6
  go_wp2_with (first | (go_at_call 9; (with_reducible refine (open_bigI _).mono ?_); rintro e w1 ⟨rfl, hb⟩))
  refine bodyPost_ret (v := .tuple #[.pointer none, .int .i64 2]) (by simp [results, Try.results6, go_sem]) rfl ?_
  exact ⟨rfl, hb⟩

theorem names17 (w : World) : Calls Try.prog 3 #[] w fun e w' => e = .returned (.bool true) ∧ Below w.heap.size w w' := by
  go_enter Try.func3, Try.ntmps3
  go_upto_region 4 with (first | (go_at_call 5; (with_reducible refine (alive17 _).mono ?_); rintro e w1 ⟨rfl, hb1⟩))
  have hnew := new_dI 16384 (by decide) (by decide) w1 (x := 16384) rfl
  go_upto_region 8 with (first | (go_at_call 6; first | ((with_reducible refine hnew.mono ?_); rintro e w2 ⟨p, rfl, hp, hS0, hb2⟩) | ((with_reducible refine (new_bigI _).mono ?_); rintro e w3 ⟨rfl, hb3⟩)))
  have hB0 := hide (hb1.trans ((hb2.1.trans (hb3.1.mono hb2.size)).mono hb1.size))
  have hS := hide (hS0.bel hb3)
  have hok := hide (new_okI (most := 16384) (by decide) (by decide))
  have hpw : w.heap.size ≤ p := Nat.le_trans hb1.size hp
  have hfr := hide (show Fr [] (Sm.F ⟨p, none, 0, none, 0, none, 0⟩) w w3 from ⟨hB0.out.os, hB0.out.tape, hB0.out.output, hB0.out.size, fun k hk _ => hB0.out.block k hk, fun k hk => .inr (by simp [Sm.F, ob] at hk; omega)⟩)
  clear hnew hb1 hb2 hb3 hS0 hB0 hp hpw
  go_wp2
  go_loopg [6] 16384 (fun kx s6 wr => ∃ (k : Nat) (m : Sm) (s : Ss), s6 = .int .i64 (k : Int) ∧ k ≤ 16384 ∧ 16384 - k ≤ kx ∧ Hid (Sto wr m s) ∧ Hid (Okk s) ∧ Hid (Fill s k) ∧ Hid (m.p = p) ∧ Hid (Fr [] m.F w wr))
  case atStart => exact ⟨0, ⟨p, none, 0, none, 0, none, 0⟩, ⟨16384, 0, 0, [], [], []⟩, rfl, by decide, by decide, hS.out, hok.out, Fill.start, rfl, hfr.out⟩
  case round =>
    clear hS hok hfr
    obtain ⟨k, m, s, rfl, hk, hkx, hS, hok, hF, HP, hfr⟩ := hrel
    by_cases hlt : k < 16384
    · have hz : (k : Int) < 16384 := by omega
      have ewk : IntKind.wrap .i64 ((k : Int) + 1) = (k : Int) + 1 := by rw [IntKind.wrap_i64]; omega
      have ewu : IntKind.wrap .u32 (k : Int) = (k : Int) := by rw [IntKind.wrap_u32]; omega
      have hput := put_dI hS.out hok.out (k : Int) HP.out hF.out.next (by rw [hF.out.mo]; exact hlt) (a := (k : Int)) (b := 1) rfl (by rw [hF.out.use]; rfl)
      go_wp2_with (first | (go_at_call 7; (with_reducible refine hput.mono ?_); rintro e w4 ⟨rfl, m', HP', hS', hf'⟩; replace HP' := hide HP'; replace hS' := hide hS'; replace hf' := hide (hfr.out.trans hf'); have b4 := hide (st_bel (W := w4) #[.int .u32 (k : Int), .int .u32 1] 29); have x0 : (w4.alloc (.cells #[.int .u32 (k : Int), .int .u32 1] 29)).cell? ⟨w4.heap.size, 0, none⟩ = some (.int .u32 (k : Int)) := (by rw [World.cell?_alloc_new]; rfl); have x1 : (w4.alloc (.cells #[.int .u32 (k : Int), .int .u32 1] 29)).cell? ⟨w4.heap.size, 1, none⟩ = some (.int .u32 1) := (by rw [World.cell?_alloc_new]; rfl)))
      go_roundg (16384 - (k + 1))
      case measure => omega
      case rel => exact ⟨k + 1, m', putS s k (.int .i64 (k : Int)), by go_num, by omega, Nat.le_refl _, hS'.out.bel b4.out, hok.out.put hF.out.next (by rw [hF.out.mo]; exact hlt) _, hF.out.put _, HP'.out, hf'.out.trans (Fr.of_bel b4.out)⟩
    · have hz : ¬ (k : Int) < 16384 := by omega
      have hk16 : k = 16384 := by omega
      subst hk16
      have hput := put_nI hS.out hok.out 5 HP.out hF.out.next (by rw [hF.out.mo])
      go_upto_region 15 with (first | (go_at_call 7; (with_reducible refine hput.mono ?_); rintro e w4 ⟨rfl, m1, HP1, hS1, hf1⟩))
      have b4 := st_bel (W := w4) #[.int .u32 0, .int .u32 0] 29
      have hS2 := hide (hS1.bel b4)
      have hf2 := hide ((hfr.out.trans hf1).trans (Fr.of_bel b4))
      have hln : Hid (({ s with nx := 16384 } : Ss).ln = 16384) := hF.out.ln
      obtain ⟨s1, hs1⟩ : ∃ x, x = ({ s with nx := 16384 } : Ss) := ⟨_, rfl⟩
      rw [← hs1] at hS2 hln
      replace HP1 := hide HP1
      obtain ⟨w5, hw5⟩ : ∃ x, x = w4.alloc (.cells #[.int .u32 0, .int .u32 0] 29) := ⟨_, rfl⟩
      rw [← hw5] at hS2 hf2
      rw [← hw5]
      clear hw5 b4 hS1 hf1 hput hs1 hS hok hF HP hfr
      go_upto_region 16 with (first | (go_at_call 8; (with_reducible refine (ahead17 _).mono ?_); rintro e w6 ⟨rfl, hb6⟩))
      have hS3 := hide (hS2.out.low hb6)
      have hf3 := hide (hf2.out.trans (Fr.of_low hb6))
      clear hS2 hf2 hb6
      have B1 := st_bel (W := w6) #[.int .u32 4294967295, .int .u32 4294967294] 27
      have B2 := st_bel (W := w6.alloc (.cells #[.int .u32 4294967295, .int .u32 4294967294] 27)) #[.bool false, .bool false] 4
      have B3 := st_bel (W := (w6.alloc (.cells #[.int .u32 4294967295, .int .u32 4294967294] 27)).alloc (.cells #[.bool false, .bool false] 4)) #[.int .i64 7, .int .i64 8] 3
      have r1 := (mk_rws w6 [.int .u32 4294967295, .int .u32 4294967294] 27)
      have r2 := (mk_rws (w6.alloc (.cells #[.int .u32 4294967295, .int .u32 4294967294] 27)) [.bool false, .bool false] 4)
      have r3 := (mk_rws ((w6.alloc (.cells #[.int .u32 4294967295, .int .u32 4294967294] 27)).alloc (.cells #[.bool false, .bool false] 4)) [.int .i64 7, .int .i64 8] 3)
      simp only [World.size_alloc] at r2 r3
      have hopn := open_I 2 w6.heap.size 0 (w6.heap.size + 1) 0 (w6.heap.size + 1 + 1) 0 2 2 2 2 [4294967295, 4294967294] [false, false] [.int .i64 7, .int .i64 8] _ (by decide) (by decide) (fun j u hj => keep (bl_trans B2 B3) (r1 j u hj)) (fun j u hj => keep B3 (r2 j u hj)) r3 rfl rfl rfl (by decide) (by decide) (by intro v hv; simp at hv; rcases hv with rfl | rfl <;> rfl) (by intro i hi; rcases i with _ | _ | i <;> simp at hi)
      rw [show ((2 : Nat) : Int) = 2 from rfl] at hopn
      go_upto_region 17 with (first | (go_at_call 9; (with_reducible refine hopn.mono ?_); rintro e w7 ⟨mt, rfl, hmt, hT0, hb7⟩))
      have hbA := hide ((bl_trans (bl_trans B1 B2) B3).1.trans (hb7.mono (bl_trans (bl_trans B1 B2) B3).size))
      have hS4 := hide (hS3.out.low hbA.out)
      have hf4 := hide (hf3.out.trans (Fr.of_low hbA.out))
      have hap : Hid (∀ k ∈ m1.F, k ∉ mt.F) := (fun k hk hm => by
        have h1 := hS3.out.sz k hk
        have h2 := hmt k hm
        simp only [World.size_alloc] at h2
        omega)
      have hmw : Hid (∀ k ∈ mt.F, w.heap.size ≤ k) := (fun k hm => by
        have h1 := hf3.out.size
        have h2 := hmt k hm
        simp only [World.size_alloc] at h2
        omega)
      obtain ⟨q, hq⟩ : ∃ q, q = mt.p := ⟨_, rfl⟩
      have HQ : Hid (mt.p = q) := hq.symm
      rw [← hq]
      obtain ⟨t0, ht0⟩ : ∃ x, x = (⟨2, [false, false].count true, 0, [4294967295, 4294967294], [false, false], clrT [false, false] [.int .i64 7, .int .i64 8] (.int .i64 0) 2⟩ : Ss) := ⟨_, rfl⟩
      have hT := hide hT0
      rw [← ht0] at hT
      have E0 : Hid (t0 = ⟨2, 0, 0, [4294967295, 4294967294], [false, false], [.int .i64 0, .int .i64 0]⟩) := by rw [ht0]; rfl
      have okt : Hid (Okk t0) := by rw [E0.out]; exact ⟨by decide, by decide, by decide, rfl, rfl, by intro u hu; simp at hu; omega, by decide, (fun i hi => absurd hi (Nat.not_lt_zero _)), rfl⟩
      clear hq ht0 hT0 hopn hb7 hmt B1 B2 B3 r1 r2 r3 hS3 hf3 hbA
      have hB := hide (hf4.out.below (Nat.le_refl _) (fun k hk => by cases hk))
      clear hf4
      have E0_ := E0
      obtain ⟨W0, hW0⟩ : ∃ x, x = w7 := ⟨_, rfl⟩
      obtain ⟨mt0, hmt0⟩ : ∃ x, x = mt := ⟨_, rfl⟩
      rw [← hW0] at hS4 hB hT
      rw [← hmt0] at hap hmw HQ hT
      rw [← hW0]
      clear hW0 hmt0
      have hS0 := hS4
      have hap0 := hap
      have hmw0 := hmw
      have hB0 := hB
      have hT0 := hT
      have ok0 := okt
      have HQ0 := HQ
      clear hS4 hap hmw hB hT okt E0_

      have hc1 := put_dI hT0.out ok0.out 1 HQ0.out (k := 1) (next_of (by rw [E0.out]; decide)) (by rw [E0.out]; decide) (a := 1) (b := 4294967295) rfl (by rw [E0.out]; decide)
      go_upto_region 18 with (first | (go_at_call 7; (with_reducible refine hc1.mono ?_); rintro e V1 ⟨rfl, mt1, HQ1, hT1, hf1⟩))
      have hTz1 := hT1
      have bb := st_bel (W := V1) #[.int .u32 1, .int .u32 4294967295] 29
      have hX := hS0.out.apart hf1 hap0.out
      have hS1 := hide ((hX.1).bel bb)
      have hap1 := hide hX.2
      have hmw1 : Hid (∀ k ∈ mt1.F, w.heap.size ≤ k) := (fun k hk => by
        rcases hf1.grown k hk with h | h
        · exact hmw0.out k h
        · exact Nat.le_trans hB0.out.size h)
      have hB1 := hide ((hB0.out.trans (hf1.below hB0.out.size hmw0.out)).trans (bb.1.mono (Nat.le_trans hB0.out.size hf1.size)))
      have ok1 := hide (ok0.out.put (k := 1) (next_of (by rw [E0.out]; decide)) (by rw [E0.out]; decide) (.int .i64 1))
      obtain ⟨t1, ht1⟩ : ∃ x : Ss, x = putS t0 1 (.int .i64 1) := ⟨_, rfl⟩
      replace hT1 := hide ((hT1).bel bb)
      rw [← ht1] at hT1 ok1
      have E1 : Hid (t1 = ⟨2, 1, 1, [4294967295, 4294967295], [false, true], [(.int .i64 0), (.int .i64 1)]⟩) := by rw [ht1, E0.out]; rfl
      replace HQ1 := hide HQ1
      have ha0 : (V1.alloc (.cells #[.int .u32 1, .int .u32 4294967295] 29)).cell? ⟨V1.heap.size, 0, none⟩ = some (.int .u32 1) := by rw [World.cell?_alloc_new]; rfl
      have ha1 : (V1.alloc (.cells #[.int .u32 1, .int .u32 4294967295] 29)).cell? ⟨V1.heap.size, 1, none⟩ = some (.int .u32 4294967295) := by rw [World.cell?_alloc_new]; rfl
      obtain ⟨aq, haq⟩ : ∃ x, x = V1.heap.size := ⟨_, rfl⟩
      have hna : aq ∉ mt1.F := fun hm => Nat.lt_irrefl V1.heap.size (by have := (show Sto V1 mt1 _ from (by have h := hTz1; exact h)).sz aq hm; omega)
      obtain ⟨W1, hW1⟩ : ∃ x, x = V1.alloc (.cells #[.int .u32 1, .int .u32 4294967295] 29) := ⟨_, rfl⟩
      rw [← hW1] at hS1 hB1 hT1 ha0 ha1
      rw [← haq] at ha0 ha1
      rw [← hW1, ← haq]
      clear hW1 bb haq hTz1
      clear hX hf1 ht1 hS0 hap0 hmw0 hB0 hT0 ok0 hc1

      have hc2 := put_nI hT1.out ok1.out 2 HQ1.out (k := 2) (next_of (by rw [E1.out]; decide)) (by rw [E1.out])
      go_upto_region 19 with (first | (go_at_call 7; (with_reducible refine hc2.mono ?_); rintro e V2 ⟨rfl, mt2, HQ2, hT2, hf2⟩))
      have bb := st_bel (W := V2) #[.int .u32 0, .int .u32 0] 29
      have hX := hS1.out.apart hf2 hap1.out
      have hS2 := hide ((hX.1).bel bb)
      have hap2 := hide hX.2
      have hmw2 : Hid (∀ k ∈ mt2.F, w.heap.size ≤ k) := (fun k hk => by
        rcases hf2.grown k hk with h | h
        · exact hmw1.out k h
        · exact Nat.le_trans hB1.out.size h)
      have hB2 := hide ((hB1.out.trans (hf2.below hB1.out.size hmw1.out)).trans (bb.1.mono (Nat.le_trans hB1.out.size hf2.size)))
      have ok2 := hide (ok1.out.nx (k := 2) (next_of (by rw [E1.out]; decide)))
      obtain ⟨t2, ht2⟩ : ∃ x : Ss, x = { t1 with nx := 2 } := ⟨_, rfl⟩
      replace hT2 := hide ((hT2).bel bb)
      rw [← ht2] at hT2 ok2
      have E2 : Hid (t2 = ⟨2, 1, 2, [4294967295, 4294967295], [false, true], [(.int .i64 0), (.int .i64 1)]⟩) := by rw [ht2, E1.out]; rfl
      replace HQ2 := hide HQ2
      have hna_2 := hf2.away (World.block_lt_of_cell? _ _ ha0) hna
      replace ha0 := keep bb (hf2.cell hna ha0)
      replace ha1 := keep bb (hf2.cell hna ha1)
      replace hna := hna_2
      clear hna_2
      obtain ⟨W2, hW2⟩ : ∃ x, x = V2.alloc (.cells #[.int .u32 0, .int .u32 0] 29) := ⟨_, rfl⟩
      rw [← hW2] at hS2 hB2 hT2 ha0 ha1

      rw [← hW2]
      clear hW2 bb 
      clear hX hf2 ht2 hS1 hap1 hmw1 hB1 hT1 ok1 hc2

      have hc3 := take_dI hT2.out ok2.out HQ2.out (a := 1) (b := 4294967295) (x := 1) (y := 4294967295) rfl rfl (by decide) (by decide) (show Named t2 1 4294967295 by rw [E2.out]; exact ⟨rfl, rfl⟩) (v := (.int .i64 1)) (by rw [E2.out]; rfl)
      go_upto_region 20 with (first | (go_at_call 10; (with_reducible refine hc3.mono ?_); rintro e V3 ⟨rfl, hT3, hf3⟩))
      obtain ⟨mt3, hmt3⟩ : ∃ x, x = mt2 := ⟨_, rfl⟩
      have HQ3 : mt3.p = q := by rw [hmt3]; exact HQ2.out
      rw [← hmt3] at hT3
      have hf3 : Fr mt2.F mt3.F W2 V3 := by rw [hmt3]; exact hf3
      clear hmt3
      have hX := hS2.out.apart hf3 hap2.out
      have hS3 := hide (hX.1)
      have hap3 := hide hX.2
      have hmw3 : Hid (∀ k ∈ mt3.F, w.heap.size ≤ k) := (fun k hk => by
        rcases hf3.grown k hk with h | h
        · exact hmw2.out k h
        · exact Nat.le_trans hB2.out.size h)
      have hB3 := hide (hB2.out.trans (hf3.below hB2.out.size hmw2.out))
      have ok3 := hide (ok2.out.take (show t2.L[1]? = some true by rw [E2.out]; rfl) (.int .i64 0))
      obtain ⟨t3, ht3⟩ : ∃ x : Ss, x = takeS t2 1 (.int .i64 0) := ⟨_, rfl⟩
      replace hT3 := hide (hT3)
      rw [← ht3] at hT3 ok3
      have E3 : Hid (t3 = ⟨2, 0, 1, [4294967295, 4294967295], [false, false], [(.int .i64 0), (.int .i64 0)]⟩) := by rw [ht3, E2.out]; rfl
      replace HQ3 := hide HQ3
      have hna_3 := hf3.away (World.block_lt_of_cell? _ _ ha0) hna
      replace ha0 := hf3.cell hna ha0
      replace ha1 := hf3.cell hna ha1
      replace hna := hna_3
      clear hna_3
      obtain ⟨W3, hW3⟩ : ∃ x, x = V3 := ⟨_, rfl⟩
      rw [← hW3] at hS3 hB3 hT3 ha0 ha1
      rw [← hW3]
      clear hW3
      clear hX hf3 ht3 hS2 hap2 hmw2 hB2 hT2 ok2 hc3

      have hc4 := put_nI hT3.out ok3.out 3 HQ3.out (k := 2) (next_of (by rw [E3.out]; decide)) (by rw [E3.out])
      go_upto_region 21 with (first | (go_at_call 7; (with_reducible refine hc4.mono ?_); rintro e V4 ⟨rfl, mt4, HQ4, hT4, hf4⟩))
      have bb := st_bel (W := V4) #[.int .u32 0, .int .u32 0] 29
      have hX := hS3.out.apart hf4 hap3.out
      have hS4 := hide ((hX.1).bel bb)
      have hap4 := hide hX.2
      have hmw4 : Hid (∀ k ∈ mt4.F, w.heap.size ≤ k) := (fun k hk => by
        rcases hf4.grown k hk with h | h
        · exact hmw3.out k h
        · exact Nat.le_trans hB3.out.size h)
      have hB4 := hide ((hB3.out.trans (hf4.below hB3.out.size hmw3.out)).trans (bb.1.mono (Nat.le_trans hB3.out.size hf4.size)))
      have ok4 := hide (ok3.out.nx (k := 2) (next_of (by rw [E3.out]; decide)))
      obtain ⟨t4, ht4⟩ : ∃ x : Ss, x = { t3 with nx := 2 } := ⟨_, rfl⟩
      replace hT4 := hide ((hT4).bel bb)
      rw [← ht4] at hT4 ok4
      have E4 : Hid (t4 = ⟨2, 0, 2, [4294967295, 4294967295], [false, false], [(.int .i64 0), (.int .i64 0)]⟩) := by rw [ht4, E3.out]; rfl
      replace HQ4 := hide HQ4
      have hna_4 := hf4.away (World.block_lt_of_cell? _ _ ha0) hna
      replace ha0 := keep bb (hf4.cell hna ha0)
      replace ha1 := keep bb (hf4.cell hna ha1)
      replace hna := hna_4
      clear hna_4
      obtain ⟨W4, hW4⟩ : ∃ x, x = V4.alloc (.cells #[.int .u32 0, .int .u32 0] 29) := ⟨_, rfl⟩
      rw [← hW4] at hS4 hB4 hT4 ha0 ha1

      rw [← hW4]
      clear hW4 bb 
      clear hX hf4 ht4 hS3 hap3 hmw3 hB3 hT3 ok3 hc4

      have hl1 := len_dI hS4.out HP1.out (x := 16384) (by rw [hln.out]; rfl)
      have hl2 := len_dI hT4.out HQ4.out (x := 0) (by rw [E4.out]; rfl)
      go_wp2_with (first | (go_at_call 11; first | ((with_reducible refine hl1.mono ?_); rintro e w8 ⟨rfl, hw8⟩; rw [hw8]) | ((with_reducible refine hl2.mono ?_); rintro e w9 ⟨rfl, hw9⟩; rw [hw9])))
      go_ret
      exact ⟨rfl, hB4.out⟩

end Go.Proofs.Ytnfhedmlifjlmaa
