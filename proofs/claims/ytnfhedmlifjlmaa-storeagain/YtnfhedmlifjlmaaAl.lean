/-
  What each function of package store answers, and what its memory holds afterwards: one contract a function; of the memory that was there only the store's own blocks have turned.
-/
import Derived.Test.YtnfhedmlifjlmaaChecked
import Derived.Test.YtnfhedmlifjlmaaTi
import Derived.Below
import Derived.BigQuiet
import Derived.OwnWalk
import Derived.Laws.AppendOwn
import Derived.Laws.AppendOwnNone
import Derived.WalkKit
import Derived.WalkLawsBesides
import Derived.WalkSpells
import Derived.ProofKit
import Derived.OpenShut
import Derived.Deep.RegionHeld3
import Derived.Deep.LoopGhost
import Derived.Laws.StructEq
import Derived.Lib.Builder
import Derived.Deep.DeepCutAuto
import Derived.Lib.SliceRun
import Derived.Laws.MakeOwn
namespace Go.Proofs.Ytnfhedmlifjlmaa
open Go.ChangeShapes Go.WideShapes Go.ChangeAt Go.RowKit Go.Lib
set_option linter.unusedVariables false
set_option linter.unusedSimpArgs false
set_option maxRecDepth 100000
set_option maxHeartbeats 4000000


theorem alive17 (w : World) : Calls Try.prog 5 #[] w fun e w' => e = .returned (.bool true) ∧ Below w.heap.size w w' := by
  have hnew := new_dS 2 (by decide) (by decide) w (x := 2) rfl
  go_enter Try.func5, Try.ntmps5
  go_upto_region 2 with (first | (go_at_call 15; (with_reducible refine hnew.mono ?_); rintro e W0 ⟨p, rfl, hp, hS0, hb⟩))
  have hF0 := hide (fr_new hb hp)
  have HP0 : Hid ((⟨p, none, 0, none, 0, none, 0⟩ : Sm).p = p) := rfl
  replace hS0 := hide hS0
  have ok0 := hide (new_okS (most := 2) (by decide) (by decide))
  obtain ⟨m0, hm0⟩ : ∃ m : Sm, m = ⟨p, none, 0, none, 0, none, 0⟩ := ⟨_, rfl⟩
  obtain ⟨s0, hs0⟩ : ∃ s : Ss, s = ⟨2, 0, 0, [], [], []⟩ := ⟨_, rfl⟩
  rw [← hm0] at hF0 HP0 hS0
  rw [← hs0] at hS0 ok0
  clear hm0 hnew hb hp
  have HS0 := hide hs0
  clear hs0
  have hk1 : Hid (NextIs s0 0) := next_of (by rw [HS0.out]; decide)
  have hc1 := put_dS hS0.out ok0.out { data := #[97] } HP0.out hk1.out (by rw [HS0.out]; decide) (a := 0) (b := 1) rfl (by rw [HS0.out]; decide)
  go_upto_region 3 with (first | (go_at_call 16; (with_reducible refine hc1.mono ?_); rintro e V1 ⟨rfl, m1, HP1, hS1, hf1⟩))
  have hF1 := hide (hF0.out.trans hf1)
  have ok1 := hide (ok0.out.put hk1.out (by rw [HS0.out]; decide) (.string { data := #[97] }))
  obtain ⟨s1, hs1⟩ : ∃ s : Ss, s = putS s0 0 (.string { data := #[97] }) := ⟨_, rfl⟩
  rw [← hs1] at hS1 ok1
  have HS1 : Hid (s1 = ⟨2, 1, 0, [1], [true], [(.string { data := #[97] })]⟩) := by rw [hs1, HS0.out]; rfl
  replace HP1 := hide HP1
  have bb1 := st_bel (W := V1) #[.int .u32 0, .int .u32 1] 29
  have ha0 : (V1.alloc (.cells #[.int .u32 0, .int .u32 1] 29)).cell? ⟨V1.heap.size, 0, none⟩ = some (.int .u32 0) := by rw [World.cell?_alloc_new]; rfl
  have ha1 : (V1.alloc (.cells #[.int .u32 0, .int .u32 1] 29)).cell? ⟨V1.heap.size, 1, none⟩ = some (.int .u32 1) := by rw [World.cell?_alloc_new]; rfl
  have hn_ha : V1.heap.size ∉ m1.F := fun hm => Nat.lt_irrefl _ (hS1.sz _ hm)
  replace hS1 := hide (hS1.bel bb1)
  replace hF1 := hide (hF1.out.trans (Fr.of_bel bb1))
  obtain ⟨haq, hq1⟩ : ∃ q, q = V1.heap.size := ⟨_, rfl⟩
  obtain ⟨W1, hW1⟩ : ∃ x, x = V1.alloc (.cells #[.int .u32 0, .int .u32 1] 29) := ⟨_, rfl⟩
  rw [← hq1, ← hW1] at ha0 ha1
  rw [← hq1] at hn_ha
  rw [← hW1] at hS1 hF1
  rw [← hq1, ← hW1]
  clear hq1 hW1 bb1 hf1 hs1 hS0 hF0 hc1
  have hk2 : Hid (NextIs s1 1) := next_of (by rw [HS1.out]; decide)
  have hc2 := put_dS hS1.out ok1.out { data := #[98] } HP1.out hk2.out (by rw [HS1.out]; decide) (a := 1) (b := 1) rfl (by rw [HS1.out]; decide)
  go_upto_region 4 with (first | (go_at_call 16; (with_reducible refine hc2.mono ?_); rintro e V2 ⟨rfl, m2, HP2, hS2, hf2⟩))
  have hF2 := hide (hF1.out.trans hf2)
  have ok2 := hide (ok1.out.put hk2.out (by rw [HS1.out]; decide) (.string { data := #[98] }))
  obtain ⟨s2, hs2⟩ : ∃ s : Ss, s = putS s1 1 (.string { data := #[98] }) := ⟨_, rfl⟩
  rw [← hs2] at hS2 ok2
  have HS2 : Hid (s2 = ⟨2, 2, 1, [1, 1], [true, true], [(.string { data := #[97] }), (.string { data := #[98] })]⟩) := by rw [hs2, HS1.out]; rfl
  replace HP2 := hide HP2
  have hz_ha := hf2.away (World.block_lt_of_cell? _ _ ha0) hn_ha
  replace ha0 := hf2.cell hn_ha ha0
  replace ha1 := hf2.cell hn_ha ha1
  replace hn_ha := hz_ha
  have bb2 := st_bel (W := V2) #[.int .u32 1, .int .u32 1] 29
  have hb0 : (V2.alloc (.cells #[.int .u32 1, .int .u32 1] 29)).cell? ⟨V2.heap.size, 0, none⟩ = some (.int .u32 1) := by rw [World.cell?_alloc_new]; rfl
  have hb1 : (V2.alloc (.cells #[.int .u32 1, .int .u32 1] 29)).cell? ⟨V2.heap.size, 1, none⟩ = some (.int .u32 1) := by rw [World.cell?_alloc_new]; rfl
  have hn_hb : V2.heap.size ∉ m2.F := fun hm => Nat.lt_irrefl _ (hS2.sz _ hm)
  replace hS2 := hide (hS2.bel bb2)
  replace hF2 := hide (hF2.out.trans (Fr.of_bel bb2))
  replace ha0 := keep bb2 ha0
  replace ha1 := keep bb2 ha1
  obtain ⟨hbq, hq2⟩ : ∃ q, q = V2.heap.size := ⟨_, rfl⟩
  obtain ⟨W2, hW2⟩ : ∃ x, x = V2.alloc (.cells #[.int .u32 1, .int .u32 1] 29) := ⟨_, rfl⟩
  rw [← hq2, ← hW2] at hb0 hb1
  rw [← hq2] at hn_hb
  rw [← hW2] at hS2 hF2 ha0 ha1
  rw [← hq2, ← hW2]
  clear hq2 hW2 bb2 hf2 hs2 hS1 hF1 hc2
  have hk3 : Hid (NextIs s2 2) := next_of (by rw [HS2.out]; decide)
  have hc3 := put_nS hS2.out ok2.out { data := #[99] } HP2.out hk3.out (by rw [HS2.out])
  go_upto_region 5 with (first | (go_at_call 16; (with_reducible refine hc3.mono ?_); rintro e V3 ⟨rfl, m3, HP3, hS3, hf3⟩))
  have hF3 := hide (hF2.out.trans hf3)
  have ok3 := hide (ok2.out.nx hk3.out)
  obtain ⟨s3, hs3⟩ : ∃ s : Ss, s = { s2 with nx := 2 } := ⟨_, rfl⟩
  rw [← hs3] at hS3 ok3
  have HS3 : Hid (s3 = ⟨2, 2, 2, [1, 1], [true, true], [(.string { data := #[97] }), (.string { data := #[98] })]⟩) := by rw [hs3, HS2.out]; rfl
  replace HP3 := hide HP3
  have hz_ha := hf3.away (World.block_lt_of_cell? _ _ ha0) hn_ha
  replace ha0 := hf3.cell hn_ha ha0
  replace ha1 := hf3.cell hn_ha ha1
  replace hn_ha := hz_ha
  have hz_hb := hf3.away (World.block_lt_of_cell? _ _ hb0) hn_hb
  replace hb0 := hf3.cell hn_hb hb0
  replace hb1 := hf3.cell hn_hb hb1
  replace hn_hb := hz_hb
  have bb3 := st_bel (W := V3) #[.int .u32 0, .int .u32 0] 29
  have hc0 : (V3.alloc (.cells #[.int .u32 0, .int .u32 0] 29)).cell? ⟨V3.heap.size, 0, none⟩ = some (.int .u32 0) := by rw [World.cell?_alloc_new]; rfl
  have hc1 : (V3.alloc (.cells #[.int .u32 0, .int .u32 0] 29)).cell? ⟨V3.heap.size, 1, none⟩ = some (.int .u32 0) := by rw [World.cell?_alloc_new]; rfl
  have hn_hc : V3.heap.size ∉ m3.F := fun hm => Nat.lt_irrefl _ (hS3.sz _ hm)
  replace hS3 := hide (hS3.bel bb3)
  replace hF3 := hide (hF3.out.trans (Fr.of_bel bb3))
  replace ha0 := keep bb3 ha0
  replace ha1 := keep bb3 ha1
  replace hb0 := keep bb3 hb0
  replace hb1 := keep bb3 hb1
  obtain ⟨hcq, hq3⟩ : ∃ q, q = V3.heap.size := ⟨_, rfl⟩
  obtain ⟨W3, hW3⟩ : ∃ x, x = V3.alloc (.cells #[.int .u32 0, .int .u32 0] 29) := ⟨_, rfl⟩
  rw [← hq3, ← hW3] at hc0 hc1
  rw [← hq3] at hn_hc
  rw [← hW3] at hS3 hF3 ha0 ha1 hb0 hb1
  rw [← hq3, ← hW3]
  clear hq3 hW3 bb3 hf3 hs3 hS2 hF2 hc3
  have hnm : Hid (Named s3 0 1) := (show Named s3 0 1 by rw [HS3.out]; decide)
  have hc4 := take_dS hS3.out ok3.out HP3.out (a := 0) (b := 1) (x := 0) (y := 1) rfl rfl (by decide) (by decide) hnm.out (v := (.string { data := #[97] })) (by rw [HS3.out]; rfl)
  go_upto_region 6 with (first | (go_at_call 17; (with_reducible refine hc4.mono ?_); rintro e V4 ⟨rfl, hS4, hf4⟩))
  have HP4 := HP3.out
  obtain ⟨m4, hm4⟩ : ∃ m, m = m3 := ⟨_, rfl⟩
  rw [← hm4] at HP4 hS4
  have hf4 : Fr m3.F m4.F W3 V4 := by rw [hm4]; exact hf4
  clear hm4
  have hF4 := hide (hF3.out.trans hf4)
  have ok4 := hide (ok3.out.take hnm.out.1 (.string { data := #[] }))
  obtain ⟨s4, hs4⟩ : ∃ s : Ss, s = takeS s3 0 (.string { data := #[] }) := ⟨_, rfl⟩
  rw [← hs4] at hS4 ok4
  have HS4 : Hid (s4 = ⟨2, 1, 0, [1, 1], [false, true], [(.string { data := #[] }), (.string { data := #[98] })]⟩) := by rw [hs4, HS3.out]; rfl
  replace HP4 := hide HP4
  have hz_ha := hf4.away (World.block_lt_of_cell? _ _ ha0) hn_ha
  replace ha0 := hf4.cell hn_ha ha0
  replace ha1 := hf4.cell hn_ha ha1
  replace hn_ha := hz_ha
  have hz_hb := hf4.away (World.block_lt_of_cell? _ _ hb0) hn_hb
  replace hb0 := hf4.cell hn_hb hb0
  replace hb1 := hf4.cell hn_hb hb1
  replace hn_hb := hz_hb
  replace hS4 := hide hS4
  clear hf4 hs4 hS3 hF3 hc4
  have hc5 := get_nS hS4.out ok4.out HP4.out (a := 0) (b := 1) (x := 0) (y := 1) rfl rfl (by decide) (by decide) (by rw [HS4.out]; decide)
  go_upto_region 7 with (first | (go_at_call 18; (with_reducible refine hc5.mono ?_); rintro e V5 ⟨rfl, hb5⟩))
  replace hS4 := hide (hS4.out.bel hb5)
  replace hF4 := hide (hF4.out.trans (Fr.of_bel hb5))
  replace ha0 := keep hb5 ha0
  replace ha1 := keep hb5 ha1
  replace hb0 := keep hb5 hb0
  replace hb1 := keep hb5 hb1
  clear hb5 hc5
  have hk5 : Hid (NextIs s4 0) := next_of (by rw [HS4.out]; decide)
  have hc5 := put_dS hS4.out ok4.out { data := #[100] } HP4.out hk5.out (by rw [HS4.out]; decide) (a := 0) (b := 2) rfl (by rw [HS4.out]; decide)
  go_upto_region 8 with (first | (go_at_call 16; (with_reducible refine hc5.mono ?_); rintro e V5 ⟨rfl, m5, HP5, hS5, hf5⟩))
  have hF5 := hide (hF4.out.trans hf5)
  have ok5 := hide (ok4.out.put hk5.out (by rw [HS4.out]; decide) (.string { data := #[100] }))
  obtain ⟨s5, hs5⟩ : ∃ s : Ss, s = putS s4 0 (.string { data := #[100] }) := ⟨_, rfl⟩
  rw [← hs5] at hS5 ok5
  have HS5 : Hid (s5 = ⟨2, 2, 0, [2, 1], [true, true], [(.string { data := #[100] }), (.string { data := #[98] })]⟩) := by rw [hs5, HS4.out]; rfl
  replace HP5 := hide HP5
  have hz_ha := hf5.away (World.block_lt_of_cell? _ _ ha0) hn_ha
  replace ha0 := hf5.cell hn_ha ha0
  replace ha1 := hf5.cell hn_ha ha1
  replace hn_ha := hz_ha
  have hz_hb := hf5.away (World.block_lt_of_cell? _ _ hb0) hn_hb
  replace hb0 := hf5.cell hn_hb hb0
  replace hb1 := hf5.cell hn_hb hb1
  replace hn_hb := hz_hb
  have bb5 := st_bel (W := V5) #[.int .u32 0, .int .u32 2] 29
  have hd0 : (V5.alloc (.cells #[.int .u32 0, .int .u32 2] 29)).cell? ⟨V5.heap.size, 0, none⟩ = some (.int .u32 0) := by rw [World.cell?_alloc_new]; rfl
  have hd1 : (V5.alloc (.cells #[.int .u32 0, .int .u32 2] 29)).cell? ⟨V5.heap.size, 1, none⟩ = some (.int .u32 2) := by rw [World.cell?_alloc_new]; rfl
  have hn_hd : V5.heap.size ∉ m5.F := fun hm => Nat.lt_irrefl _ (hS5.sz _ hm)
  replace hS5 := hide (hS5.bel bb5)
  replace hF5 := hide (hF5.out.trans (Fr.of_bel bb5))
  replace ha0 := keep bb5 ha0
  replace ha1 := keep bb5 ha1
  replace hb0 := keep bb5 hb0
  replace hb1 := keep bb5 hb1
  obtain ⟨hdq, hq5⟩ : ∃ q, q = V5.heap.size := ⟨_, rfl⟩
  obtain ⟨W5, hW5⟩ : ∃ x, x = V5.alloc (.cells #[.int .u32 0, .int .u32 2] 29) := ⟨_, rfl⟩
  rw [← hq5, ← hW5] at hd0 hd1
  rw [← hq5] at hn_hd
  rw [← hW5] at hS5 hF5 ha0 ha1 hb0 hb1
  rw [← hq5, ← hW5]
  clear hq5 hW5 bb5 hf5 hs5 hS4 hF4 hc5
  have hc6 := get_dS hS5.out ok5.out HP5.out (a := 0) (b := 2) (x := 0) (y := 2) rfl rfl (by decide) (by decide) (show Named s5 0 2 by rw [HS5.out]; decide) (v := (.string { data := #[100] })) (by rw [HS5.out]; rfl)
  go_upto_region 9 with (first | (go_at_call 18; (with_reducible refine hc6.mono ?_); rintro e V6 ⟨rfl, hb6⟩))
  replace hS5 := hide (hS5.out.bel hb6)
  replace hF5 := hide (hF5.out.trans (Fr.of_bel hb6))
  replace ha0 := keep hb6 ha0
  replace ha1 := keep hb6 ha1
  replace hb0 := keep hb6 hb0
  replace hd0 := keep hb6 hd0
  replace hd1 := keep hb6 hd1
  have hle := len_dS hS5.out HP5.out (x := 2) (by rw [HS5.out]; rfl)
  go_wp2_with (first | (go_at_call 19; (with_reducible refine hle.mono ?_); rintro e V7 ⟨rfl, hv7⟩; rw [hv7]; clear hv7))
  go_ret
  exact ⟨rfl, hF5.out.below (Nat.le_refl _) (fun k hk => by cases hk)⟩

end Go.Proofs.Ytnfhedmlifjlmaa
